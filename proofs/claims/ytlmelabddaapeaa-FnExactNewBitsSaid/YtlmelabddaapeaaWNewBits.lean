/- The walk of laws.FnExactNewBits. -/
import Derived.Test.YtlmelabddaapeaaBi1
import Derived.Test.YtlmelabddaapeaaBs5
import Derived.Test.YtlmelabddaapeaaBe1
namespace Go.Proofs.Ytlmelabddaapeaa
open Go.RowKit Pb

set_option maxHeartbeats 6400000 in
set_option maxRecDepth 100000 in
theorem core_FnExactNewBits (long : Int) (lr : Int) (rs : List Int) (ok : Bool) (w : World) (hrs : rs.length ≤ 1000)
    (hS : ∀ (w : World), Calls Try.prog 10 #[.int .i64 long] w (BitsEnd lr rs ok w))
    (hI : ∀ (w : World), Calls Try.prog 11 #[.int .i64 long] w (BitsEnd lr rs ok w)) :
    Calls Try.prog 3 #[.int .i64 long] w fun e w' => e = .returned (.bool true) ∧ Below w.heap.size w w' := by
  have HS := Lib.hid hS; have HI := Lib.hid hI
  obtain ⟨nr, hnr⟩ : ∃ n, n = rs.length := ⟨_, rfl⟩
  have HNR : Hid (rs.length = nr) := hnr.symm
  rw [← hnr] at hrs
  clear hnr hS hI
  have e2 : (ok != ok) = false := by simp
  have ek : ¬ (1 : Int) + (nr : Int) < 0 := by omega
  have em : ((1 : Int) + (nr : Int) != 1 + (nr : Int)) = false := by simp
  have L := Below.refl w.heap.size w
  go_enter Try.func3, Try.ntmps3
  go_wp2_with fail
  refine (HS.out _).mono ?_
  rintro e wW ⟨vW, rfl, ho, hb⟩
  have hU := World.ownsRow.lt ho
  try simp only [World.size_alloc] at hU
  have UW := Lib.hid hU
  clear hU
  obtain ⟨gW, cW, hvs, _⟩ := ho.shape
  rw [HNR.out] at hvs
  subst hvs
  have hs0 := hb.size
  try simp only [World.size_alloc] at hs0
  replace L := bst L hb L.size
  clear hb
  have OW := ho
  clear ho
  go_wp2_with fail
  have RW := Row.new wW 24 (cb lr (.slice gW nr cW))
  replace OW := Own.below OW ((Below.refl _ _).alloc (Nat.le_refl _) (.cells (cb lr (.slice gW nr cW)) 24))
  replace L := Below.alloc L L.size (.cells (cb lr (.slice gW nr cW)) 24)
  refine (HI.out _).mono ?_
  rintro e wG ⟨vG, rfl, ho, hb⟩
  have hU := World.ownsRow.lt ho
  try simp only [World.size_alloc] at hU
  have UG := Lib.hid hU
  clear hU
  obtain ⟨gG, cG, hvs, _⟩ := ho.shape
  rw [HNR.out] at hvs
  subst hvs
  replace RW := Row.below RW hb
  replace OW := Own.below OW hb
  have hs1 := hb.size
  try simp only [World.size_alloc] at hs1
  replace L := bst L hb L.size
  clear hb
  have OG := ho
  clear ho
  have c0W := Row.cell RW 0
  have c1W := Row.cell RW 1
  have ltW := Row.lt RW
  go_wp2_with fail
  clear c0W c1W ltW
  replace RW := Row.alloc RW (.cells (cb lr (.slice gG nr cG)) 24)
  have RG := Row.new wG 24 (cb lr (.slice gG nr cG))
  replace OW := Own.below OW ((Below.refl _ _).alloc (Nat.le_refl _) (.cells (cb lr (.slice gG nr cG)) 24))
  replace OG := Own.below OG ((Below.refl _ _).alloc (Nat.le_refl _) (.cells (cb lr (.slice gG nr cG)) 24))
  replace L := Below.alloc L L.size (.cells (cb lr (.slice gG nr cG)) 24)
  refine (c_eqBits lr (.slice gG nr cG) (.slice gW nr cW) rs _ OG.ints OW.ints (by rw [HNR.out]; omega)).mono ?_
  rintro e w1e ⟨rfl, hb⟩
  replace RW := Row.below RW hb
  replace RG := Row.below RG hb
  replace OW := Own.below OW hb
  replace OG := Own.below OG hb
  have hs2 := hb.size
  try simp only [World.size_alloc] at hs2
  replace L := bst L hb L.size
  clear hb
  have c0W := Row.cell RW 0
  have c1W := Row.cell RW 1
  have ltW := Row.lt RW
  have c0G := Row.cell RG 0
  have c1G := Row.cell RG 1
  have ltG := Row.lt RG
  go_wp2_with fail
  clear c0W c1W ltW c0G c1G ltG
  refine (c_markBits lr (.slice gG nr cG) rs _ (1) _ OG (by omega) (by rw [HNR.out]; omega)).mono ?_
  rintro e wmG ⟨rfl, ho, hg⟩
  rw [HNR.out] at ho
  rw [HNR.out]
  replace RW := Row.grownBy RW hg (rowApart UG.out (by omega))
  replace RG := Row.grownBy RG hg (rowApart UG.out (by omega))
  replace OW : Own _ _ _ _ := World.ownsRow.kept OW hg (ownApart UW.out UG.out (by omega))
  have hs3 := hg.size
  replace L := Below.grown L hg L.size (fun k hk => by have := UG.out k hk; omega)
  clear hg
  replace OG := ho
  clear ho
  have c0W := Row.cell RW 0
  have c1W := Row.cell RW 1
  have ltW := Row.lt RW
  have c0G := Row.cell RG 0
  have c1G := Row.cell RG 1
  have ltG := Row.lt RG
  go_wp2_with fail
  clear c0W c1W ltW c0G c1G ltG
  refine (c_heldBits lr (.slice gG nr cG) nr 1 _ OG.ints (by omega) (by omega)).mono ?_
  rintro e wh1 ⟨rfl, hb⟩
  replace RW := Row.below RW hb
  replace RG := Row.below RG hb
  replace OW := Own.below OW hb
  replace OG := Own.below OG hb
  have hs4 := hb.size
  try simp only [World.size_alloc] at hs4
  replace L := bst L hb L.size
  clear hb
  have c0W := Row.cell RW 0
  have c1W := Row.cell RW 1
  have ltW := Row.lt RW
  have c0G := Row.cell RG 0
  have c1G := Row.cell RG 1
  have ltG := Row.lt RG
  go_wp2_with fail
  clear c0W c1W ltW c0G c1G ltG
  refine (HI.out _).mono ?_
  rintro e wH ⟨vH, rfl, ho, hb⟩
  have hU := World.ownsRow.lt ho
  try simp only [World.size_alloc] at hU
  have UH := Lib.hid hU
  clear hU
  obtain ⟨gH, cH, hvs, _⟩ := ho.shape
  rw [HNR.out] at hvs
  subst hvs
  replace RW := Row.below RW hb
  replace RG := Row.below RG hb
  replace OW := Own.below OW hb
  replace OG := Own.below OG hb
  have hs5 := hb.size
  try simp only [World.size_alloc] at hs5
  replace L := bst L hb L.size
  clear hb
  have OH := ho
  clear ho
  have c0W := Row.cell RW 0
  have c1W := Row.cell RW 1
  have ltW := Row.lt RW
  have c0G := Row.cell RG 0
  have c1G := Row.cell RG 1
  have ltG := Row.lt RG
  go_wp2_with fail
  clear c0W c1W ltW c0G c1G ltG
  replace RW := Row.alloc RW (.cells (cb lr (.slice gH nr cH)) 24)
  replace RG := Row.alloc RG (.cells (cb lr (.slice gH nr cH)) 24)
  have RH := Row.new wH 24 (cb lr (.slice gH nr cH))
  replace OW := Own.below OW ((Below.refl _ _).alloc (Nat.le_refl _) (.cells (cb lr (.slice gH nr cH)) 24))
  replace OG := Own.below OG ((Below.refl _ _).alloc (Nat.le_refl _) (.cells (cb lr (.slice gH nr cH)) 24))
  replace OH := Own.below OH ((Below.refl _ _).alloc (Nat.le_refl _) (.cells (cb lr (.slice gH nr cH)) 24))
  replace L := Below.alloc L L.size (.cells (cb lr (.slice gH nr cH)) 24)
  refine (c_eqBits lr (.slice gH nr cH) (.slice gW nr cW) rs _ OH.ints OW.ints (by rw [HNR.out]; omega)).mono ?_
  rintro e w3e ⟨rfl, hb⟩
  replace RW := Row.below RW hb
  replace RG := Row.below RG hb
  replace RH := Row.below RH hb
  replace OW := Own.below OW hb
  replace OG := Own.below OG hb
  replace OH := Own.below OH hb
  have hs6 := hb.size
  try simp only [World.size_alloc] at hs6
  replace L := bst L hb L.size
  clear hb
  have c0W := Row.cell RW 0
  have c1W := Row.cell RW 1
  have ltW := Row.lt RW
  have c0G := Row.cell RG 0
  have c1G := Row.cell RG 1
  have ltG := Row.lt RG
  have c0H := Row.cell RH 0
  have c1H := Row.cell RH 1
  have ltH := Row.lt RH
  go_wp2_with fail
  clear c0W c1W ltW c0G c1G ltG c0H c1H ltH
  refine (c_heldBits lr (.slice gG nr cG) nr 1 _ OG.ints (by omega) (by omega)).mono ?_
  rintro e wh2 ⟨rfl, hb⟩
  replace RW := Row.below RW hb
  replace RG := Row.below RG hb
  replace RH := Row.below RH hb
  replace OW := Own.below OW hb
  replace OG := Own.below OG hb
  replace OH := Own.below OH hb
  have hs7 := hb.size
  try simp only [World.size_alloc] at hs7
  replace L := bst L hb L.size
  clear hb
  have c0W := Row.cell RW 0
  have c1W := Row.cell RW 1
  have ltW := Row.lt RW
  have c0G := Row.cell RG 0
  have c1G := Row.cell RG 1
  have ltG := Row.lt RG
  have c0H := Row.cell RH 0
  have c1H := Row.cell RH 1
  have ltH := Row.lt RH
  go_wp2
  go_ret
  exact ⟨rfl, L⟩
set_option maxHeartbeats 800000 in
set_option maxRecDepth 100000 in
theorem walk_FnExactNewBits (long : Int) (w : World) (_ : -9223372036854775808 ≤ long ∧ long ≤ 9223372036854775807) : Calls Try.prog 3 #[.int .i64 long] w fun e w' => e = .returned (.bool true) ∧ Below w.heap.size w w' := by
  by_cases h : 0 ≤ long ∧ long ≤ 96
  · exact core_FnExactNewBits long long (wl ((long + 15) / 16).toNat fun _ => 0) true w (by rw [wl_length]; omega) (fun w => c_sNewBits_yes long w h.1 h.2) (fun w => c_iNewBits_yes long w h.1 h.2)
  · exact core_FnExactNewBits long 0 [] false w (by simp) (fun w => (c_sNewBits_no long w h).mono fun _ _ ⟨he, hb⟩ => bitsEnd_none he hb) (fun w => (c_iNewBits_no long w h).mono fun _ _ ⟨he, hb⟩ => bitsEnd_none he hb)
end Go.Proofs.Ytlmelabddaapeaa
