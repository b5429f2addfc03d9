/- The walk of laws.FnExactFreeSlot. -/
import Derived.Test.YtcelebblcjhpaaaDoorSw6
import Derived.Test.YtcelebblcjhpaaaDoorSs2
import Derived.Test.YtcelebblcjhpaaaDoorSe1
namespace Go.Proofs.YtcelebblcjhpaaaDoor
open Go.RowKit Pb

set_option maxHeartbeats 12800000 in
set_option maxRecDepth 100000 in
theorem core_FnExactFreeSlot (fa ca la : Int) (va : Value) (za : List Int) (x : Int) (fr cr lr : Int) (rs : List Int) (ok : Bool) (T : World → Prop) (w : World) (hza : IntsAt w va za) (hm : za.length ≤ 1048576) (hrs : rs.length ≤ 1000) (hT : ∀ w', Below w.heap.size w w' → T w')
    (hS : ∀ (w : World) (va : Value), IntsAt w va za → Calls Tryd.prog 26 #[sp fa ca la va, .int .i64 x] w (SpanEnd fr cr lr rs ok w))
    (hI : ∀ (w : World) (va : Value), IntsAt w va za → T w → Calls Tryd.prog 20 #[sp fa ca la va, .int .i64 x] w (SpanEnd fr cr lr rs ok w)) :
    Calls Tryd.prog 8 #[sp fa ca la va, .int .i64 x] w fun e w' => e = .returned (.bool true) ∧ Below w.heap.size w w' := by
  have HZa := Lib.hid hza
  have HS := Lib.hid hS; have HI := Lib.hid hI; have HT := Lib.hid hT
  clear hS hI hT
  obtain ⟨nr, hnr⟩ : ∃ n, n = rs.length := ⟨_, rfl⟩
  have HNR : Hid (rs.length = nr) := hnr.symm
  rw [← hnr] at hrs
  clear hnr
  obtain ⟨aa, caa, rfl, _⟩ := id hza
  obtain ⟨na, hna⟩ : ∃ n, n = za.length := ⟨_, rfl⟩
  have HNa : Hid (za.length = na) := hna.symm
  rw [← hna] at hm
  rw [← hna] at HZa
  rw [← hna]
  clear hza hna
  have HMa : Hid (za.length ≤ 1048576) := by unfold Hid; rw [HNa.out]; omega
  have e2 : (ok != ok) = false := by simp
  have ek : ¬ (1 : Int) + (nr : Int) < 0 := by omega
  have em : ((1 : Int) + (nr : Int) != 1 + (nr : Int)) = false := by simp
  have hl0 : ¬ (1048576 - (na : Int)) < 0 := by omega
  have ex : ¬ (1 : Int) + (na : Int) < 0 := by omega
  have L := (Below.refl w.heap.size w).alloc (Nat.le_refl _) (.cells (c4 fa ca la (.slice aa na caa)) 53)
  have R0 : Row _ w.heap.size 53 (c4 fa ca la (.slice aa na caa)) := Row.new w _ _
  go_enter Tryd.func8, Tryd.ntmps8
  go_wp2_with fail
  refine (c_szSpan_yes fa ca la aa na caa (1048576) _ (by omega) (by omega)).mono ?_
  rintro e sa ⟨rfl, hb⟩
  replace R0 := Row.below R0 hb
  have hs0 := hb.size
  try simp only [World.size_alloc] at hs0
  replace L := bst L hb L.size
  clear hb
  have c00 := Row.cell R0 0
  have c10 := Row.cell R0 1
  have c20 := Row.cell R0 2
  have c30 := Row.cell R0 3
  have lt0 := Row.lt R0
  go_wp2_with fail
  clear c00 c10 c20 c30 lt0
  refine (c_toSpan fa ca la (.slice aa na caa) za _ (IntsAt.below HZa.out L) HMa.out).mono ?_
  rintro e wsa ⟨vsa, rfl, ho, hb⟩
  have hU := World.ownsRow.lt ho
  try simp only [World.size_alloc] at hU
  have Usa := Lib.hid hU
  clear hU
  obtain ⟨gsa, csa, hvs, _⟩ := ho.shape
  rw [HNa.out] at hvs
  subst hvs
  replace R0 := Row.below R0 hb
  have hs1 := hb.size
  try simp only [World.size_alloc] at hs1
  replace L := bst L hb L.size
  clear hb
  have Osa := ho
  clear ho
  have c00 := Row.cell R0 0
  have c10 := Row.cell R0 1
  have c20 := Row.cell R0 2
  have c30 := Row.cell R0 3
  have lt0 := Row.lt R0
  go_wp2_with fail
  clear c00 c10 c20 c30 lt0
  refine (HS.out _ (.slice gsa na csa) Osa.ints).mono ?_
  rintro e wW ⟨vW, rfl, ho, hb⟩
  have hU := World.ownsRow.lt ho
  try simp only [World.size_alloc] at hU
  have UW := Lib.hid hU
  clear hU
  obtain ⟨gW, cW, hvs, _⟩ := ho.shape
  rw [HNR.out] at hvs
  subst hvs
  replace R0 := Row.below R0 hb
  replace Osa := Own.below Osa hb
  have hs2 := hb.size
  try simp only [World.size_alloc] at hs2
  replace L := bst L hb L.size
  clear hb
  have OW := ho
  clear ho
  clear Osa Usa
  have c00 := Row.cell R0 0
  have c10 := Row.cell R0 1
  have c20 := Row.cell R0 2
  have c30 := Row.cell R0 3
  have lt0 := Row.lt R0
  go_wp2_with fail
  clear c00 c10 c20 c30 lt0
  replace R0 := Row.alloc R0 (.cells (c4 fr cr lr (.slice gW nr cW)) 27)
  have RW := Row.new wW 27 (c4 fr cr lr (.slice gW nr cW))
  replace OW := Own.below OW ((Below.refl _ _).alloc (Nat.le_refl _) (.cells (c4 fr cr lr (.slice gW nr cW)) 27))
  replace L := Below.alloc L L.size (.cells (c4 fr cr lr (.slice gW nr cW)) 27)
  refine (c_toSpan fa ca la (.slice aa na caa) za _ (IntsAt.below HZa.out L) HMa.out).mono ?_
  rintro e wXa ⟨vXa, rfl, ho, hb⟩
  have hU := World.ownsRow.lt ho
  try simp only [World.size_alloc] at hU
  have UXa := Lib.hid hU
  clear hU
  obtain ⟨gXa, cXa, hvs, _⟩ := ho.shape
  rw [HNa.out] at hvs
  subst hvs
  replace R0 := Row.below R0 hb
  replace RW := Row.below RW hb
  replace OW := Own.below OW hb
  have hs3 := hb.size
  try simp only [World.size_alloc] at hs3
  replace L := bst L hb L.size
  clear hb
  have OXa := ho
  clear ho
  have c00 := Row.cell R0 0
  have c10 := Row.cell R0 1
  have c20 := Row.cell R0 2
  have c30 := Row.cell R0 3
  have lt0 := Row.lt R0
  have c0W := Row.cell RW 0
  have c1W := Row.cell RW 1
  have c2W := Row.cell RW 2
  have c3W := Row.cell RW 3
  have ltW := Row.lt RW
  go_wp2_with fail
  clear c00 c10 c20 c30 lt0 c0W c1W c2W c3W ltW
  replace R0 := Row.alloc R0 (.cells (c4 fa ca la (.slice gXa na cXa)) 27)
  replace RW := Row.alloc RW (.cells (c4 fa ca la (.slice gXa na cXa)) 27)
  have RXa := Row.new wXa 27 (c4 fa ca la (.slice gXa na cXa))
  replace OW := Own.below OW ((Below.refl _ _).alloc (Nat.le_refl _) (.cells (c4 fa ca la (.slice gXa na cXa)) 27))
  replace OXa := Own.below OXa ((Below.refl _ _).alloc (Nat.le_refl _) (.cells (c4 fa ca la (.slice gXa na cXa)) 27))
  replace L := Below.alloc L L.size (.cells (c4 fa ca la (.slice gXa na cXa)) 27)
  refine (HI.out _ (.slice gXa na cXa) OXa.ints (HT.out _ L)).mono ?_
  rintro e wG ⟨vG, rfl, ho, hb⟩
  have hU := World.ownsRow.lt ho
  try simp only [World.size_alloc] at hU
  have UG := Lib.hid hU
  clear hU
  obtain ⟨gG, cG, hvs, _⟩ := ho.shape
  rw [HNR.out] at hvs
  subst hvs
  replace R0 := Row.below R0 hb
  replace RW := Row.below RW hb
  replace RXa := Row.below RXa hb
  replace OW := Own.below OW hb
  replace OXa := Own.below OXa hb
  have hs4 := hb.size
  try simp only [World.size_alloc] at hs4
  replace L := bst L hb L.size
  clear hb
  have OG := ho
  clear ho
  have c00 := Row.cell R0 0
  have c10 := Row.cell R0 1
  have c20 := Row.cell R0 2
  have c30 := Row.cell R0 3
  have lt0 := Row.lt R0
  have c0W := Row.cell RW 0
  have c1W := Row.cell RW 1
  have c2W := Row.cell RW 2
  have c3W := Row.cell RW 3
  have ltW := Row.lt RW
  have c0Xa := Row.cell RXa 0
  have c1Xa := Row.cell RXa 1
  have c2Xa := Row.cell RXa 2
  have c3Xa := Row.cell RXa 3
  have ltXa := Row.lt RXa
  go_wp2_with fail
  clear c00 c10 c20 c30 lt0 c0W c1W c2W c3W ltW c0Xa c1Xa c2Xa c3Xa ltXa
  replace R0 := Row.alloc R0 (.cells (c4 fr cr lr (.slice gG nr cG)) 27)
  replace RW := Row.alloc RW (.cells (c4 fr cr lr (.slice gG nr cG)) 27)
  replace RXa := Row.alloc RXa (.cells (c4 fr cr lr (.slice gG nr cG)) 27)
  have RG := Row.new wG 27 (c4 fr cr lr (.slice gG nr cG))
  replace OW := Own.below OW ((Below.refl _ _).alloc (Nat.le_refl _) (.cells (c4 fr cr lr (.slice gG nr cG)) 27))
  replace OXa := Own.below OXa ((Below.refl _ _).alloc (Nat.le_refl _) (.cells (c4 fr cr lr (.slice gG nr cG)) 27))
  replace OG := Own.below OG ((Below.refl _ _).alloc (Nat.le_refl _) (.cells (c4 fr cr lr (.slice gG nr cG)) 27))
  replace L := Below.alloc L L.size (.cells (c4 fr cr lr (.slice gG nr cG)) 27)
  refine (c_eqSpan fr cr lr (.slice gG nr cG) (.slice gW nr cW) rs _ OG.ints OW.ints (by rw [HNR.out]; omega)).mono ?_
  rintro e w1e ⟨rfl, hb⟩
  replace R0 := Row.below R0 hb
  replace RW := Row.below RW hb
  replace RXa := Row.below RXa hb
  replace RG := Row.below RG hb
  replace OW := Own.below OW hb
  replace OXa := Own.below OXa hb
  replace OG := Own.below OG hb
  have hs5 := hb.size
  try simp only [World.size_alloc] at hs5
  replace L := bst L hb L.size
  clear hb
  have c00 := Row.cell R0 0
  have c10 := Row.cell R0 1
  have c20 := Row.cell R0 2
  have c30 := Row.cell R0 3
  have lt0 := Row.lt R0
  have c0W := Row.cell RW 0
  have c1W := Row.cell RW 1
  have c2W := Row.cell RW 2
  have c3W := Row.cell RW 3
  have ltW := Row.lt RW
  have c0Xa := Row.cell RXa 0
  have c1Xa := Row.cell RXa 1
  have c2Xa := Row.cell RXa 2
  have c3Xa := Row.cell RXa 3
  have ltXa := Row.lt RXa
  have c0G := Row.cell RG 0
  have c1G := Row.cell RG 1
  have c2G := Row.cell RG 2
  have c3G := Row.cell RG 3
  have ltG := Row.lt RG
  go_wp2_with fail
  have IZ : IntsAt w1e.drew (.slice aa na caa) za := IntsAt.below HZa.out (below_drew L)
  have IX : IntsAt w1e.drew (.slice gXa na cXa) za := OXa.ints
  have RR0 : w1e.drew.cell? ⟨w.heap.size, 0, none⟩ = some (.int .i64 fa) := Row.cell R0 0
  have RR1 : w1e.drew.cell? ⟨w.heap.size, 1, none⟩ = some (.int .i64 ca) := Row.cell R0 1
  have RR2 : w1e.drew.cell? ⟨w.heap.size, 2, none⟩ = some (.int .i64 la) := Row.cell R0 2
  have RR3 : w1e.drew.cell? ⟨w.heap.size, 3, none⟩ = some (.slice aa na caa) := Row.cell R0 3
  have RX0 : w1e.drew.cell? ⟨wXa.heap.size, 0, none⟩ = some (.int .i64 fa) := Row.cell RXa 0
  have RX1 : w1e.drew.cell? ⟨wXa.heap.size, 1, none⟩ = some (.int .i64 ca) := Row.cell RXa 1
  have RX2 : w1e.drew.cell? ⟨wXa.heap.size, 2, none⟩ = some (.int .i64 la) := Row.cell RXa 2
  have RX3 : w1e.drew.cell? ⟨wXa.heap.size, 3, none⟩ = some (.slice gXa na cXa) := Row.cell RXa 3
  have BD := Below.refl w1e.heap.size w1e
  replace BD := below_drew BD
  clear c00 c10 c20 c30 lt0 c0W c1W c2W c3W ltW c0Xa c1Xa c2Xa c3Xa ltXa c0G c1G c2G c3G ltG
  go_region_held3 (fun w' => w'.cell? ⟨w.heap.size, 0, none⟩ = some (.int .i64 fa) ∧ w'.cell? ⟨w.heap.size, 1, none⟩ = some (.int .i64 ca) ∧ w'.cell? ⟨w.heap.size, 2, none⟩ = some (.int .i64 la) ∧ w'.cell? ⟨w.heap.size, 3, none⟩ = some (.slice aa na caa) ∧ w'.cell? ⟨wXa.heap.size, 0, none⟩ = some (.int .i64 fa) ∧ w'.cell? ⟨wXa.heap.size, 1, none⟩ = some (.int .i64 ca) ∧ w'.cell? ⟨wXa.heap.size, 2, none⟩ = some (.int .i64 la) ∧ w'.cell? ⟨wXa.heap.size, 3, none⟩ = some (.slice gXa na cXa) ∧ Below w1e.heap.size w1e w')
    (first
      | (with_reducible exact ⟨RR0, RR1, RR2, RR3, RX0, RX1, RX2, RX3, BD⟩)
      | (go_split_ands
         exact ⟨cellBelow hbk (by assumption), cellBelow hbk (by assumption), cellBelow hbk (by assumption), cellBelow hbk (by assumption), cellBelow hbk (by assumption), cellBelow hbk (by assumption), cellBelow hbk (by assumption), cellBelow hbk (by assumption), bst (by assumption) hbk (Below.size (by assumption))⟩)
      | (go_split_ands; refine ⟨?_, ?_, ?_, ?_, ?_, ?_, ?_, ?_, ?_⟩ <;> assumption))
    (first
      | (go_at_call 37; refine (c_toSpan fa ca la (.slice aa na caa) za _ IZ HMa.out).mono ?_; rintro e wad1 ⟨vDa, rfl, hoD, hbk⟩; have OD := Lib.hid hoD.ints; have XD := Lib.hid (IX.below hbk); clear hoD)
      | (go_at_call 38; refine (c_eqSpan fa ca la _ _ za _ XD.out OD.out HMa.out).mono ?_; rintro e wad2 ⟨rfl, hbk⟩))
  have hb : Below w1e.heap.size w1e wad2 := by go_split_ands; assumption
  clear OD XD IZ IX RR0 RX0 RR1 RX1 RR2 RX2 RR3 RX3 BD
  replace R0 := Row.below R0 hb
  replace RW := Row.below RW hb
  replace RXa := Row.below RXa hb
  replace RG := Row.below RG hb
  replace OW := Own.below OW hb
  replace OXa := Own.below OXa hb
  replace OG := Own.below OG hb
  have hs6 := hb.size
  try simp only [World.size_alloc] at hs6
  replace L := bst L hb L.size
  clear hb
  have c00 := Row.cell R0 0
  have c10 := Row.cell R0 1
  have c20 := Row.cell R0 2
  have c30 := Row.cell R0 3
  have lt0 := Row.lt R0
  have c0W := Row.cell RW 0
  have c1W := Row.cell RW 1
  have c2W := Row.cell RW 2
  have c3W := Row.cell RW 3
  have ltW := Row.lt RW
  have c0Xa := Row.cell RXa 0
  have c1Xa := Row.cell RXa 1
  have c2Xa := Row.cell RXa 2
  have c3Xa := Row.cell RXa 3
  have ltXa := Row.lt RXa
  have c0G := Row.cell RG 0
  have c1G := Row.cell RG 1
  have c2G := Row.cell RG 2
  have c3G := Row.cell RG 3
  have ltG := Row.lt RG
  go_wp2_with fail
  clear c00 c10 c20 c30 lt0 c0W c1W c2W c3W ltW c0Xa c1Xa c2Xa c3Xa ltXa c0G c1G c2G c3G ltG
  refine (c_markSpan fa ca la (.slice gXa na cXa) za _ (1) _ OXa (by omega) (by rw [HNa.out]; omega)).mono ?_
  rintro e wma ⟨rfl, ho, hg⟩
  rw [HNa.out] at ho
  rw [HNa.out]
  replace R0 := Row.grownBy R0 hg (rowApart UXa.out (by omega))
  replace RW := Row.grownBy RW hg (rowApart UXa.out (by omega))
  replace RXa := Row.grownBy RXa hg (rowApart UXa.out (by omega))
  replace RG := Row.grownBy RG hg (rowApart UXa.out (by omega))
  replace OW : Own _ _ _ _ := World.ownsRow.kept OW hg (ownApart UW.out UXa.out (by omega))
  replace OG : Own _ _ _ _ := World.ownsRow.kept OG hg (ownApart UG.out UXa.out (by omega))
  have hs7 := hg.size
  replace L := Below.grown L hg L.size (fun k hk => by have := UXa.out k hk; omega)
  clear hg
  clear OXa ho
  have c00 := Row.cell R0 0
  have c10 := Row.cell R0 1
  have c20 := Row.cell R0 2
  have c30 := Row.cell R0 3
  have lt0 := Row.lt R0
  have c0W := Row.cell RW 0
  have c1W := Row.cell RW 1
  have c2W := Row.cell RW 2
  have c3W := Row.cell RW 3
  have ltW := Row.lt RW
  have c0Xa := Row.cell RXa 0
  have c1Xa := Row.cell RXa 1
  have c2Xa := Row.cell RXa 2
  have c3Xa := Row.cell RXa 3
  have ltXa := Row.lt RXa
  have c0G := Row.cell RG 0
  have c1G := Row.cell RG 1
  have c2G := Row.cell RG 2
  have c3G := Row.cell RG 3
  have ltG := Row.lt RG
  go_wp2_with fail
  clear c00 c10 c20 c30 lt0 c0W c1W c2W c3W ltW c0Xa c1Xa c2Xa c3Xa ltXa c0G c1G c2G c3G ltG
  refine (c_eqSpan fr cr lr (.slice gG nr cG) (.slice gW nr cW) rs _ OG.ints OW.ints (by rw [HNR.out]; omega)).mono ?_
  rintro e w2e ⟨rfl, hb⟩
  replace R0 := Row.below R0 hb
  replace RW := Row.below RW hb
  replace RXa := Row.below RXa hb
  replace RG := Row.below RG hb
  replace OW := Own.below OW hb
  replace OG := Own.below OG hb
  have hs8 := hb.size
  try simp only [World.size_alloc] at hs8
  replace L := bst L hb L.size
  clear hb
  have c00 := Row.cell R0 0
  have c10 := Row.cell R0 1
  have c20 := Row.cell R0 2
  have c30 := Row.cell R0 3
  have lt0 := Row.lt R0
  have c0W := Row.cell RW 0
  have c1W := Row.cell RW 1
  have c2W := Row.cell RW 2
  have c3W := Row.cell RW 3
  have ltW := Row.lt RW
  have c0Xa := Row.cell RXa 0
  have c1Xa := Row.cell RXa 1
  have c2Xa := Row.cell RXa 2
  have c3Xa := Row.cell RXa 3
  have ltXa := Row.lt RXa
  have c0G := Row.cell RG 0
  have c1G := Row.cell RG 1
  have c2G := Row.cell RG 2
  have c3G := Row.cell RG 3
  have ltG := Row.lt RG
  go_wp2_with fail
  clear c00 c10 c20 c30 lt0 c0W c1W c2W c3W ltW c0Xa c1Xa c2Xa c3Xa ltXa c0G c1G c2G c3G ltG
  refine (c_markSpan fr cr lr (.slice gG nr cG) rs _ (1) _ OG (by omega) (by rw [HNR.out]; omega)).mono ?_
  rintro e wmG ⟨rfl, ho, hg⟩
  rw [HNR.out] at ho
  rw [HNR.out]
  replace R0 := Row.grownBy R0 hg (rowApart UG.out (by omega))
  replace RW := Row.grownBy RW hg (rowApart UG.out (by omega))
  replace RXa := Row.grownBy RXa hg (rowApart UG.out (by omega))
  replace RG := Row.grownBy RG hg (rowApart UG.out (by omega))
  replace OW : Own _ _ _ _ := World.ownsRow.kept OW hg (ownApart UW.out UG.out (by omega))
  have hs9 := hg.size
  replace L := Below.grown L hg L.size (fun k hk => by have := UG.out k hk; omega)
  clear hg
  replace OG := ho
  clear ho
  have c00 := Row.cell R0 0
  have c10 := Row.cell R0 1
  have c20 := Row.cell R0 2
  have c30 := Row.cell R0 3
  have lt0 := Row.lt R0
  have c0W := Row.cell RW 0
  have c1W := Row.cell RW 1
  have c2W := Row.cell RW 2
  have c3W := Row.cell RW 3
  have ltW := Row.lt RW
  have c0Xa := Row.cell RXa 0
  have c1Xa := Row.cell RXa 1
  have c2Xa := Row.cell RXa 2
  have c3Xa := Row.cell RXa 3
  have ltXa := Row.lt RXa
  have c0G := Row.cell RG 0
  have c1G := Row.cell RG 1
  have c2G := Row.cell RG 2
  have c3G := Row.cell RG 3
  have ltG := Row.lt RG
  go_wp2_with fail
  clear c00 c10 c20 c30 lt0 c0W c1W c2W c3W ltW c0Xa c1Xa c2Xa c3Xa ltXa c0G c1G c2G c3G ltG
  refine (c_heldSpan fr cr lr (.slice gG nr cG) nr 1 _ OG.ints (by omega) (by omega)).mono ?_
  rintro e wh1 ⟨rfl, hb⟩
  replace R0 := Row.below R0 hb
  replace RW := Row.below RW hb
  replace RXa := Row.below RXa hb
  replace RG := Row.below RG hb
  replace OW := Own.below OW hb
  replace OG := Own.below OG hb
  have hs10 := hb.size
  try simp only [World.size_alloc] at hs10
  replace L := bst L hb L.size
  clear hb
  have c00 := Row.cell R0 0
  have c10 := Row.cell R0 1
  have c20 := Row.cell R0 2
  have c30 := Row.cell R0 3
  have lt0 := Row.lt R0
  have c0W := Row.cell RW 0
  have c1W := Row.cell RW 1
  have c2W := Row.cell RW 2
  have c3W := Row.cell RW 3
  have ltW := Row.lt RW
  have c0Xa := Row.cell RXa 0
  have c1Xa := Row.cell RXa 1
  have c2Xa := Row.cell RXa 2
  have c3Xa := Row.cell RXa 3
  have ltXa := Row.lt RXa
  have c0G := Row.cell RG 0
  have c1G := Row.cell RG 1
  have c2G := Row.cell RG 2
  have c3G := Row.cell RG 3
  have ltG := Row.lt RG
  go_wp2_with fail
  clear c00 c10 c20 c30 lt0 c0W c1W c2W c3W ltW c0Xa c1Xa c2Xa c3Xa ltXa c0G c1G c2G c3G ltG
  refine (c_toSpan fa ca la (.slice aa na caa) za _ (IntsAt.below HZa.out L) HMa.out).mono ?_
  rintro e wta ⟨vta, rfl, ho, hb⟩
  have hU := World.ownsRow.lt ho
  try simp only [World.size_alloc] at hU
  have Uta := Lib.hid hU
  clear hU
  obtain ⟨gta, cta, hvs, _⟩ := ho.shape
  rw [HNa.out] at hvs
  subst hvs
  replace R0 := Row.below R0 hb
  replace RW := Row.below RW hb
  replace RXa := Row.below RXa hb
  replace RG := Row.below RG hb
  replace OW := Own.below OW hb
  replace OG := Own.below OG hb
  have hs11 := hb.size
  try simp only [World.size_alloc] at hs11
  replace L := bst L hb L.size
  clear hb
  have Ota := ho
  clear ho
  have c00 := Row.cell R0 0
  have c10 := Row.cell R0 1
  have c20 := Row.cell R0 2
  have c30 := Row.cell R0 3
  have lt0 := Row.lt R0
  have c0W := Row.cell RW 0
  have c1W := Row.cell RW 1
  have c2W := Row.cell RW 2
  have c3W := Row.cell RW 3
  have ltW := Row.lt RW
  have c0Xa := Row.cell RXa 0
  have c1Xa := Row.cell RXa 1
  have c2Xa := Row.cell RXa 2
  have c3Xa := Row.cell RXa 3
  have ltXa := Row.lt RXa
  have c0G := Row.cell RG 0
  have c1G := Row.cell RG 1
  have c2G := Row.cell RG 2
  have c3G := Row.cell RG 3
  have ltG := Row.lt RG
  go_wp2_with fail
  clear c00 c10 c20 c30 lt0 c0W c1W c2W c3W ltW c0Xa c1Xa c2Xa c3Xa ltXa c0G c1G c2G c3G ltG
  refine (HI.out _ (.slice gta na cta) Ota.ints (HT.out _ L)).mono ?_
  rintro e wH ⟨vH, rfl, ho, hb⟩
  have hU := World.ownsRow.lt ho
  try simp only [World.size_alloc] at hU
  have UH := Lib.hid hU
  clear hU
  obtain ⟨gH, cH, hvs, _⟩ := ho.shape
  rw [HNR.out] at hvs
  subst hvs
  replace R0 := Row.below R0 hb
  replace RW := Row.below RW hb
  replace RXa := Row.below RXa hb
  replace RG := Row.below RG hb
  replace OW := Own.below OW hb
  replace OG := Own.below OG hb
  replace Ota := Own.below Ota hb
  have hs12 := hb.size
  try simp only [World.size_alloc] at hs12
  replace L := bst L hb L.size
  clear hb
  have OH := ho
  clear ho
  clear Ota Uta
  have c00 := Row.cell R0 0
  have c10 := Row.cell R0 1
  have c20 := Row.cell R0 2
  have c30 := Row.cell R0 3
  have lt0 := Row.lt R0
  have c0W := Row.cell RW 0
  have c1W := Row.cell RW 1
  have c2W := Row.cell RW 2
  have c3W := Row.cell RW 3
  have ltW := Row.lt RW
  have c0Xa := Row.cell RXa 0
  have c1Xa := Row.cell RXa 1
  have c2Xa := Row.cell RXa 2
  have c3Xa := Row.cell RXa 3
  have ltXa := Row.lt RXa
  have c0G := Row.cell RG 0
  have c1G := Row.cell RG 1
  have c2G := Row.cell RG 2
  have c3G := Row.cell RG 3
  have ltG := Row.lt RG
  go_wp2_with fail
  clear c00 c10 c20 c30 lt0 c0W c1W c2W c3W ltW c0Xa c1Xa c2Xa c3Xa ltXa c0G c1G c2G c3G ltG
  replace R0 := Row.alloc R0 (.cells (c4 fr cr lr (.slice gH nr cH)) 27)
  replace RW := Row.alloc RW (.cells (c4 fr cr lr (.slice gH nr cH)) 27)
  replace RXa := Row.alloc RXa (.cells (c4 fr cr lr (.slice gH nr cH)) 27)
  replace RG := Row.alloc RG (.cells (c4 fr cr lr (.slice gH nr cH)) 27)
  have RH := Row.new wH 27 (c4 fr cr lr (.slice gH nr cH))
  replace OW := Own.below OW ((Below.refl _ _).alloc (Nat.le_refl _) (.cells (c4 fr cr lr (.slice gH nr cH)) 27))
  replace OG := Own.below OG ((Below.refl _ _).alloc (Nat.le_refl _) (.cells (c4 fr cr lr (.slice gH nr cH)) 27))
  replace OH := Own.below OH ((Below.refl _ _).alloc (Nat.le_refl _) (.cells (c4 fr cr lr (.slice gH nr cH)) 27))
  replace L := Below.alloc L L.size (.cells (c4 fr cr lr (.slice gH nr cH)) 27)
  refine (c_eqSpan fr cr lr (.slice gH nr cH) (.slice gW nr cW) rs _ OH.ints OW.ints (by rw [HNR.out]; omega)).mono ?_
  rintro e w3e ⟨rfl, hb⟩
  replace R0 := Row.below R0 hb
  replace RW := Row.below RW hb
  replace RXa := Row.below RXa hb
  replace RG := Row.below RG hb
  replace RH := Row.below RH hb
  replace OW := Own.below OW hb
  replace OG := Own.below OG hb
  replace OH := Own.below OH hb
  have hs13 := hb.size
  try simp only [World.size_alloc] at hs13
  replace L := bst L hb L.size
  clear hb
  have c00 := Row.cell R0 0
  have c10 := Row.cell R0 1
  have c20 := Row.cell R0 2
  have c30 := Row.cell R0 3
  have lt0 := Row.lt R0
  have c0W := Row.cell RW 0
  have c1W := Row.cell RW 1
  have c2W := Row.cell RW 2
  have c3W := Row.cell RW 3
  have ltW := Row.lt RW
  have c0Xa := Row.cell RXa 0
  have c1Xa := Row.cell RXa 1
  have c2Xa := Row.cell RXa 2
  have c3Xa := Row.cell RXa 3
  have ltXa := Row.lt RXa
  have c0G := Row.cell RG 0
  have c1G := Row.cell RG 1
  have c2G := Row.cell RG 2
  have c3G := Row.cell RG 3
  have ltG := Row.lt RG
  have c0H := Row.cell RH 0
  have c1H := Row.cell RH 1
  have c2H := Row.cell RH 2
  have c3H := Row.cell RH 3
  have ltH := Row.lt RH
  go_wp2_with fail
  clear c00 c10 c20 c30 lt0 c0W c1W c2W c3W ltW c0Xa c1Xa c2Xa c3Xa ltXa c0G c1G c2G c3G ltG c0H c1H c2H c3H ltH
  refine (c_heldSpan fr cr lr (.slice gG nr cG) nr 1 _ OG.ints (by omega) (by omega)).mono ?_
  rintro e wh2 ⟨rfl, hb⟩
  replace R0 := Row.below R0 hb
  replace RW := Row.below RW hb
  replace RXa := Row.below RXa hb
  replace RG := Row.below RG hb
  replace RH := Row.below RH hb
  replace OW := Own.below OW hb
  replace OG := Own.below OG hb
  replace OH := Own.below OH hb
  have hs14 := hb.size
  try simp only [World.size_alloc] at hs14
  replace L := bst L hb L.size
  clear hb
  have c00 := Row.cell R0 0
  have c10 := Row.cell R0 1
  have c20 := Row.cell R0 2
  have c30 := Row.cell R0 3
  have lt0 := Row.lt R0
  have c0W := Row.cell RW 0
  have c1W := Row.cell RW 1
  have c2W := Row.cell RW 2
  have c3W := Row.cell RW 3
  have ltW := Row.lt RW
  have c0Xa := Row.cell RXa 0
  have c1Xa := Row.cell RXa 1
  have c2Xa := Row.cell RXa 2
  have c3Xa := Row.cell RXa 3
  have ltXa := Row.lt RXa
  have c0G := Row.cell RG 0
  have c1G := Row.cell RG 1
  have c2G := Row.cell RG 2
  have c3G := Row.cell RG 3
  have ltG := Row.lt RG
  have c0H := Row.cell RH 0
  have c1H := Row.cell RH 1
  have c2H := Row.cell RH 2
  have c3H := Row.cell RH 3
  have ltH := Row.lt RH
  go_wp2
  go_ret
  exact ⟨rfl, L⟩
set_option maxHeartbeats 1600000 in
set_option maxRecDepth 100000 in
theorem walk_FnExactFreeSlot (fa ca la : Int) (va : Value) (za : List Int) (x : Int) (w : World) (hza : IntsAt w va za) (hna : za.length ≤ 9223372036854775807) (_ : -9223372036854775808 ≤ x ∧ x ≤ 9223372036854775807) (hT : TabW w) : Calls Tryd.prog 8 #[sp fa ca la va, .int .i64 x] w fun e w' => e = .returned (.bool true) ∧ Below w.heap.size w w' := by
  by_cases hm : za.length ≤ 1048576
  · by_cases hB : Sok fa ca la za
    · have hz4 := hB.len
      by_cases hs : 0 ≤ x ∧ x < la
      · obtain ⟨p, rfl⟩ : ∃ p : Nat, x = p := ⟨x.toNat, by omega⟩
        cases hu : bitL za p with
        | true => exact core_FnExactFreeSlot fa ca la va za p fa ca la (setBit za p false) true TabW w hza hm (by rw [setBit_length]; omega) (fun w' hb => hT.below hb hT.pos) (fun w v h => c_sFreeSlot_yes fa ca la v za p w h hB hs.2 hu) (fun w v h ht => c_iFreeSlot_yes fa ca la v za p w ht h hB hs.2 hu false rfl)
        | false => exact core_FnExactFreeSlot fa ca la va za p 0 0 0 [] false TabW w hza hm (by simp) (fun w' hb => hT.below hb hT.pos) (fun w v h => (c_sFreeSlot_unused fa ca la v za p w h hB hs.2 hu).mono fun _ _ ⟨he, hb⟩ => spanEnd_none he hb) (fun w v h ht => (c_iFreeSlot_unused fa ca la v za p w ht h hB hs.1 hs.2 (by rw [Int.toNat_natCast]; exact hu)).mono fun _ _ ⟨he, hb⟩ => spanEnd_none he hb)
      · exact core_FnExactFreeSlot fa ca la va za x 0 0 0 [] false TabW w hza hm (by simp) (fun w' hb => hT.below hb hT.pos) (fun w v h => (c_sFreeSlot_out fa ca la v za x w h hB hs).mono fun _ _ ⟨he, hb⟩ => spanEnd_none he hb) (fun w v h ht => (c_iFreeSlot_out fa ca la v za x w ht h hB hs).mono fun _ _ ⟨he, hb⟩ => spanEnd_none he hb)
    · exact core_FnExactFreeSlot fa ca la va za x 0 0 0 [] false TabW w hza hm (by simp) (fun w' hb => hT.below hb hT.pos) (fun w v h => (c_sFreeSlot_bad fa ca la v za x w h hB).mono fun _ _ ⟨he, hb⟩ => spanEnd_none he hb) (fun w v h ht => (c_iFreeSlot_bad fa ca la v za x w ht h hB).mono fun _ _ ⟨he, hb⟩ => spanEnd_none he hb)
  · have HB0 := Lib.hid ((Below.refl w.heap.size w).alloc (Nat.le_refl _) (.cells (c4 fa ca la va) 53))
    obtain ⟨a, cap, rfl, _⟩ := hza
    generalize za.length = n at *
    go_enter Tryd.func8, Tryd.ntmps8
    go_wp2_with fail
    refine (c_szSpan_no fa ca la a n cap 1048576 _ (by omega) (by omega) hna (by omega)).mono ?_
    rintro e w1 ⟨rfl, hb1⟩
    have HB1 := Lib.hid (bst HB0.out hb1 HB0.out.size)
    clear hb1
    go_wp2
    go_ret
    exact ⟨rfl, HB1.out⟩
end Go.Proofs.YtcelebblcjhpaaaDoor
