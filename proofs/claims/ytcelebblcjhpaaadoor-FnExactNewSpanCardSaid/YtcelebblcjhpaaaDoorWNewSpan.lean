/- The walk of laws.FnExactNewSpan. -/
import Derived.Test.YtcelebblcjhpaaaDoorSw5
import Derived.Test.YtcelebblcjhpaaaDoorSs2
import Derived.Test.YtcelebblcjhpaaaDoorSe1
namespace Go.Proofs.YtcelebblcjhpaaaDoor
open Go.RowKit Pb

set_option maxHeartbeats 12800000 in
set_option maxRecDepth 100000 in
theorem core_FnExactNewSpan (x y : Int) (fr cr lr : Int) (rs : List Int) (ok : Bool) (T : World → Prop) (w : World) (hrs : rs.length ≤ 1000) (hT : ∀ w', Below w.heap.size w w' → T w')
    (hS : ∀ (w : World), Calls Tryd.prog 30 #[.int .i64 x, .int .i64 y] w (SpanEnd fr cr lr rs ok w))
    (hI : ∀ (w : World), T w → Calls Tryd.prog 29 #[.int .i64 x, .int .i64 y] w (SpanEnd fr cr lr rs ok w)) :
    Calls Tryd.prog 6 #[.int .i64 x, .int .i64 y] w fun e w' => e = .returned (.bool true) ∧ Below w.heap.size w w' := by
  have HS := Lib.hid hS; have HI := Lib.hid hI; have HT := Lib.hid hT
  clear hS hI hT
  obtain ⟨nr, hnr⟩ : ∃ n, n = rs.length := ⟨_, rfl⟩
  have HNR : Hid (rs.length = nr) := hnr.symm
  rw [← hnr] at hrs
  clear hnr
  have e2 : (ok != ok) = false := by simp
  have ek : ¬ (1 : Int) + (nr : Int) < 0 := by omega
  have em : ((1 : Int) + (nr : Int) != 1 + (nr : Int)) = false := by simp
  have L := Below.refl w.heap.size w
  go_enter Tryd.func6, Tryd.ntmps6
  go_wp2_with fail
  refine (HS.out _).mono ?_
  rintro e wW ⟨vW, rfl, ho, hb⟩
  have hU := World.ownsRow.lt ho
  try simp only [World.size_alloc] at hU
  have UW := Lib.hid hU
  clear hU
  obtain ⟨gW, cW, hvs, _⟩ := ho.shape
  rw [HNR.out] at hvs
  subst hvs
  have hs0 := hb.size
  try simp only [World.size_alloc] at hs0
  replace L := bst L hb L.size
  clear hb
  have OW := ho
  clear ho
  go_wp2_with fail
  have RW := Row.new wW 27 (c4 fr cr lr (.slice gW nr cW))
  replace OW := Own.below OW ((Below.refl _ _).alloc (Nat.le_refl _) (.cells (c4 fr cr lr (.slice gW nr cW)) 27))
  replace L := Below.alloc L L.size (.cells (c4 fr cr lr (.slice gW nr cW)) 27)
  refine (HI.out _ (HT.out _ L)).mono ?_
  rintro e wG ⟨vG, rfl, ho, hb⟩
  have hU := World.ownsRow.lt ho
  try simp only [World.size_alloc] at hU
  have UG := Lib.hid hU
  clear hU
  obtain ⟨gG, cG, hvs, _⟩ := ho.shape
  rw [HNR.out] at hvs
  subst hvs
  replace RW := Row.below RW hb
  replace OW := Own.below OW hb
  have hs1 := hb.size
  try simp only [World.size_alloc] at hs1
  replace L := bst L hb L.size
  clear hb
  have OG := ho
  clear ho
  have c0W := Row.cell RW 0
  have c1W := Row.cell RW 1
  have c2W := Row.cell RW 2
  have c3W := Row.cell RW 3
  have ltW := Row.lt RW
  go_wp2_with fail
  clear c0W c1W c2W c3W ltW
  replace RW := Row.alloc RW (.cells (c4 fr cr lr (.slice gG nr cG)) 27)
  have RG := Row.new wG 27 (c4 fr cr lr (.slice gG nr cG))
  replace OW := Own.below OW ((Below.refl _ _).alloc (Nat.le_refl _) (.cells (c4 fr cr lr (.slice gG nr cG)) 27))
  replace OG := Own.below OG ((Below.refl _ _).alloc (Nat.le_refl _) (.cells (c4 fr cr lr (.slice gG nr cG)) 27))
  replace L := Below.alloc L L.size (.cells (c4 fr cr lr (.slice gG nr cG)) 27)
  refine (c_eqSpan fr cr lr (.slice gG nr cG) (.slice gW nr cW) rs _ OG.ints OW.ints (by rw [HNR.out]; omega)).mono ?_
  rintro e w1e ⟨rfl, hb⟩
  replace RW := Row.below RW hb
  replace RG := Row.below RG hb
  replace OW := Own.below OW hb
  replace OG := Own.below OG hb
  have hs2 := hb.size
  try simp only [World.size_alloc] at hs2
  replace L := bst L hb L.size
  clear hb
  have c0W := Row.cell RW 0
  have c1W := Row.cell RW 1
  have c2W := Row.cell RW 2
  have c3W := Row.cell RW 3
  have ltW := Row.lt RW
  have c0G := Row.cell RG 0
  have c1G := Row.cell RG 1
  have c2G := Row.cell RG 2
  have c3G := Row.cell RG 3
  have ltG := Row.lt RG
  go_wp2_with fail
  clear c0W c1W c2W c3W ltW c0G c1G c2G c3G ltG
  refine (c_markSpan fr cr lr (.slice gG nr cG) rs _ (1) _ OG (by omega) (by rw [HNR.out]; omega)).mono ?_
  rintro e wmG ⟨rfl, ho, hg⟩
  rw [HNR.out] at ho
  rw [HNR.out]
  replace RW := Row.grownBy RW hg (rowApart UG.out (by omega))
  replace RG := Row.grownBy RG hg (rowApart UG.out (by omega))
  replace OW : Own _ _ _ _ := World.ownsRow.kept OW hg (ownApart UW.out UG.out (by omega))
  have hs3 := hg.size
  replace L := Below.grown L hg L.size (fun k hk => by have := UG.out k hk; omega)
  clear hg
  replace OG := ho
  clear ho
  have c0W := Row.cell RW 0
  have c1W := Row.cell RW 1
  have c2W := Row.cell RW 2
  have c3W := Row.cell RW 3
  have ltW := Row.lt RW
  have c0G := Row.cell RG 0
  have c1G := Row.cell RG 1
  have c2G := Row.cell RG 2
  have c3G := Row.cell RG 3
  have ltG := Row.lt RG
  go_wp2_with fail
  clear c0W c1W c2W c3W ltW c0G c1G c2G c3G ltG
  refine (c_heldSpan fr cr lr (.slice gG nr cG) nr 1 _ OG.ints (by omega) (by omega)).mono ?_
  rintro e wh1 ⟨rfl, hb⟩
  replace RW := Row.below RW hb
  replace RG := Row.below RG hb
  replace OW := Own.below OW hb
  replace OG := Own.below OG hb
  have hs4 := hb.size
  try simp only [World.size_alloc] at hs4
  replace L := bst L hb L.size
  clear hb
  have c0W := Row.cell RW 0
  have c1W := Row.cell RW 1
  have c2W := Row.cell RW 2
  have c3W := Row.cell RW 3
  have ltW := Row.lt RW
  have c0G := Row.cell RG 0
  have c1G := Row.cell RG 1
  have c2G := Row.cell RG 2
  have c3G := Row.cell RG 3
  have ltG := Row.lt RG
  go_wp2_with fail
  clear c0W c1W c2W c3W ltW c0G c1G c2G c3G ltG
  refine (HI.out _ (HT.out _ L)).mono ?_
  rintro e wH ⟨vH, rfl, ho, hb⟩
  have hU := World.ownsRow.lt ho
  try simp only [World.size_alloc] at hU
  have UH := Lib.hid hU
  clear hU
  obtain ⟨gH, cH, hvs, _⟩ := ho.shape
  rw [HNR.out] at hvs
  subst hvs
  replace RW := Row.below RW hb
  replace RG := Row.below RG hb
  replace OW := Own.below OW hb
  replace OG := Own.below OG hb
  have hs5 := hb.size
  try simp only [World.size_alloc] at hs5
  replace L := bst L hb L.size
  clear hb
  have OH := ho
  clear ho
  have c0W := Row.cell RW 0
  have c1W := Row.cell RW 1
  have c2W := Row.cell RW 2
  have c3W := Row.cell RW 3
  have ltW := Row.lt RW
  have c0G := Row.cell RG 0
  have c1G := Row.cell RG 1
  have c2G := Row.cell RG 2
  have c3G := Row.cell RG 3
  have ltG := Row.lt RG
  go_wp2_with fail
  clear c0W c1W c2W c3W ltW c0G c1G c2G c3G ltG
  replace RW := Row.alloc RW (.cells (c4 fr cr lr (.slice gH nr cH)) 27)
  replace RG := Row.alloc RG (.cells (c4 fr cr lr (.slice gH nr cH)) 27)
  have RH := Row.new wH 27 (c4 fr cr lr (.slice gH nr cH))
  replace OW := Own.below OW ((Below.refl _ _).alloc (Nat.le_refl _) (.cells (c4 fr cr lr (.slice gH nr cH)) 27))
  replace OG := Own.below OG ((Below.refl _ _).alloc (Nat.le_refl _) (.cells (c4 fr cr lr (.slice gH nr cH)) 27))
  replace OH := Own.below OH ((Below.refl _ _).alloc (Nat.le_refl _) (.cells (c4 fr cr lr (.slice gH nr cH)) 27))
  replace L := Below.alloc L L.size (.cells (c4 fr cr lr (.slice gH nr cH)) 27)
  refine (c_eqSpan fr cr lr (.slice gH nr cH) (.slice gW nr cW) rs _ OH.ints OW.ints (by rw [HNR.out]; omega)).mono ?_
  rintro e w3e ⟨rfl, hb⟩
  replace RW := Row.below RW hb
  replace RG := Row.below RG hb
  replace RH := Row.below RH hb
  replace OW := Own.below OW hb
  replace OG := Own.below OG hb
  replace OH := Own.below OH hb
  have hs6 := hb.size
  try simp only [World.size_alloc] at hs6
  replace L := bst L hb L.size
  clear hb
  have c0W := Row.cell RW 0
  have c1W := Row.cell RW 1
  have c2W := Row.cell RW 2
  have c3W := Row.cell RW 3
  have ltW := Row.lt RW
  have c0G := Row.cell RG 0
  have c1G := Row.cell RG 1
  have c2G := Row.cell RG 2
  have c3G := Row.cell RG 3
  have ltG := Row.lt RG
  have c0H := Row.cell RH 0
  have c1H := Row.cell RH 1
  have c2H := Row.cell RH 2
  have c3H := Row.cell RH 3
  have ltH := Row.lt RH
  go_wp2_with fail
  clear c0W c1W c2W c3W ltW c0G c1G c2G c3G ltG c0H c1H c2H c3H ltH
  refine (c_heldSpan fr cr lr (.slice gG nr cG) nr 1 _ OG.ints (by omega) (by omega)).mono ?_
  rintro e wh2 ⟨rfl, hb⟩
  replace RW := Row.below RW hb
  replace RG := Row.below RG hb
  replace RH := Row.below RH hb
  replace OW := Own.below OW hb
  replace OG := Own.below OG hb
  replace OH := Own.below OH hb
  have hs7 := hb.size
  try simp only [World.size_alloc] at hs7
  replace L := bst L hb L.size
  clear hb
  have c0W := Row.cell RW 0
  have c1W := Row.cell RW 1
  have c2W := Row.cell RW 2
  have c3W := Row.cell RW 3
  have ltW := Row.lt RW
  have c0G := Row.cell RG 0
  have c1G := Row.cell RG 1
  have c2G := Row.cell RG 2
  have c3G := Row.cell RG 3
  have ltG := Row.lt RG
  have c0H := Row.cell RH 0
  have c1H := Row.cell RH 1
  have c2H := Row.cell RH 2
  have c3H := Row.cell RH 3
  have ltH := Row.lt RH
  go_wp2
  go_ret
  exact ⟨rfl, L⟩
set_option maxHeartbeats 1600000 in
set_option maxRecDepth 100000 in
theorem walk_FnExactNewSpan (x y : Int) (w : World) (_ : -9223372036854775808 ≤ x ∧ x ≤ 9223372036854775807) (_ : -9223372036854775808 ≤ y ∧ y ≤ 9223372036854775807) (hT : TabW w) : Calls Tryd.prog 6 #[.int .i64 x, .int .i64 y] w fun e w' => e = .returned (.bool true) ∧ Below w.heap.size w w' := by
  by_cases hc : Pl.isCl y = true
  · by_cases hf : 0 ≤ x ∧ x ≤ 32 - Pl.pgOf y
    · have hl := sl_bd hc
      exact core_FnExactNewSpan x y x y (Pl.slOf y) (wl ((Pl.slOf y + 15) / 16).toNat fun _ => 0) true TabW w (by rw [wl_length]; omega) (fun w' hb => hT.below hb hT.pos) (fun w => c_sNewSpan_yes x y w hc hf) (fun w ht => c_iNewSpan_yes x y w ht hc hf)
    · exact core_FnExactNewSpan x y 0 0 0 [] false TabW w (by simp) (fun w' hb => hT.below hb hT.pos) (fun w => (c_sNewSpan_from x y w hc hf).mono fun _ _ ⟨he, hb⟩ => spanEnd_none he hb) (fun w ht => (c_iNewSpan_no x y w ht (fun h => hf h.2)).mono fun _ _ ⟨he, hb⟩ => spanEnd_none he hb)
  · have hc' : Pl.isCl y = false := by simpa using hc
    exact core_FnExactNewSpan x y 0 0 0 [] false TabW w (by simp) (fun w' hb => hT.below hb hT.pos) (fun w => (c_sNewSpan_class x y w hc').mono fun _ _ ⟨he, hb⟩ => spanEnd_none he hb) (fun w ht => (c_iNewSpan_no x y w ht (fun h => hc h.1)).mono fun _ _ ⟨he, hb⟩ => spanEnd_none he hb)
end Go.Proofs.YtcelebblcjhpaaaDoor
