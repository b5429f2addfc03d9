/- The walk of laws.FnExactSetList. -/
import Derived.Test.YtlmelabddaapeaaDoorBd3
import Derived.Test.YtlmelabddaapeaaDoorBe1
import Derived.Test.YtlmelabddaapeaaDoorBe2
namespace Go.Proofs.YtlmelabddaapeaaDoor
open Go.RowKit Pb

set_option maxHeartbeats 6400000 in
set_option maxRecDepth 100000 in
theorem core_FnExactSetList (la : Int) (va : Value) (za : List Int) (rs : List Int) (ok : Bool) (w : World) (hza : IntsAt w va za) (hT : TabB w) (hm : za.length ≤ 1048576) (hrs : rs.length ≤ 1000)
    (hS : ∀ (w : World) (va : Value), IntsAt w va za → Calls Tryd.prog 21 #[bm la va] w (IntsEnd rs ok w))
    (hI : ∀ (w : World) (va : Value), IntsAt w va za → TabB w → Calls Tryd.prog 15 #[bm la va] w (IntsEnd rs ok w)) :
    Calls Tryd.prog 6 #[bm la va] w fun e w' => e = .returned (.bool true) ∧ Below w.heap.size w w' := by
  have HZa := Lib.hid hza
  have HS := Lib.hid hS; have HI := Lib.hid hI
  have HT := Lib.hid hT; clear hT
  obtain ⟨nr, hnr⟩ : ∃ n, n = rs.length := ⟨_, rfl⟩
  have HNR : Hid (rs.length = nr) := hnr.symm
  rw [← hnr] at hrs
  clear hnr hS hI
  obtain ⟨aa, caa, rfl, _⟩ := id hza
  obtain ⟨na, hna⟩ : ∃ n, n = za.length := ⟨_, rfl⟩
  have HNa : Hid (za.length = na) := hna.symm
  rw [← hna] at hm
  rw [← hna] at HZa
  rw [← hna]
  clear hza hna
  have HMa : Hid (za.length ≤ 1048576) := by unfold Hid; rw [HNa.out]; omega
  have e2 : (ok != ok) = false := by simp
  have ek : ¬ (1 : Int) + (nr : Int) < 0 := by omega
  have em : ((1 : Int) + (nr : Int) != 1 + (nr : Int)) = false := by simp
  have hl0 : ¬ (1048576 - (na : Int)) < 0 := by omega
  have ex : ¬ (1 : Int) + (na : Int) < 0 := by omega
  have L := (Below.refl w.heap.size w).alloc (Nat.le_refl _) (.cells (cb la (.slice aa na caa)) 52)
  have R0 : Row _ w.heap.size 52 (cb la (.slice aa na caa)) := Row.new w _ _
  go_enter Tryd.func6, Tryd.ntmps6
  go_wp2_with fail
  refine (c_szBits_yes la aa na caa (1048576) _ (by omega) (by omega)).mono ?_
  rintro e sa ⟨rfl, hb⟩
  replace R0 := Row.below R0 hb
  have hs0 := hb.size
  try simp only [World.size_alloc] at hs0
  replace L := bst L hb L.size
  clear hb
  have c00 := Row.cell R0 0
  have c10 := Row.cell R0 1
  have lt0 := Row.lt R0
  go_wp2_with fail
  clear c00 c10 lt0
  refine (c_toBits la (.slice aa na caa) za _ (IntsAt.below HZa.out L) HMa.out).mono ?_
  rintro e wsa ⟨vsa, rfl, ho, hb⟩
  have hU := World.ownsRow.lt ho
  try simp only [World.size_alloc] at hU
  have Usa := Lib.hid hU
  clear hU
  obtain ⟨gsa, csa, hvs, _⟩ := ho.shape
  rw [HNa.out] at hvs
  subst hvs
  replace R0 := Row.below R0 hb
  have hs1 := hb.size
  try simp only [World.size_alloc] at hs1
  replace L := bst L hb L.size
  clear hb
  have Osa := ho
  clear ho
  have c00 := Row.cell R0 0
  have c10 := Row.cell R0 1
  have lt0 := Row.lt R0
  go_wp2_with fail
  clear c00 c10 lt0
  refine (HS.out _ (.slice gsa na csa) Osa.ints).mono ?_
  rintro e wW ⟨vW, rfl, ho, hb⟩
  have hU := World.ownsRow.lt ho
  try simp only [World.size_alloc] at hU
  have UW := Lib.hid hU
  clear hU
  replace R0 := Row.below R0 hb
  replace Osa := Own.below Osa hb
  have hs2 := hb.size
  try simp only [World.size_alloc] at hs2
  replace L := bst L hb L.size
  clear hb
  have OW := ho
  clear ho
  clear Osa Usa
  have c00 := Row.cell R0 0
  have c10 := Row.cell R0 1
  have lt0 := Row.lt R0
  go_wp2_with fail
  clear c00 c10 lt0
  refine (c_toBits la (.slice aa na caa) za _ (IntsAt.below HZa.out L) HMa.out).mono ?_
  rintro e wXa ⟨vXa, rfl, ho, hb⟩
  have hU := World.ownsRow.lt ho
  try simp only [World.size_alloc] at hU
  have UXa := Lib.hid hU
  clear hU
  obtain ⟨gXa, cXa, hvs, _⟩ := ho.shape
  rw [HNa.out] at hvs
  subst hvs
  replace R0 := Row.below R0 hb
  replace OW := Own.below OW hb
  have hs3 := hb.size
  try simp only [World.size_alloc] at hs3
  replace L := bst L hb L.size
  clear hb
  have OXa := ho
  clear ho
  have c00 := Row.cell R0 0
  have c10 := Row.cell R0 1
  have lt0 := Row.lt R0
  go_wp2_with fail
  clear c00 c10 lt0
  replace R0 := Row.alloc R0 (.cells (cb la (.slice gXa na cXa)) 25)
  have RXa := Row.new wXa 25 (cb la (.slice gXa na cXa))
  replace OW := Own.below OW ((Below.refl _ _).alloc (Nat.le_refl _) (.cells (cb la (.slice gXa na cXa)) 25))
  replace OXa := Own.below OXa ((Below.refl _ _).alloc (Nat.le_refl _) (.cells (cb la (.slice gXa na cXa)) 25))
  replace L := Below.alloc L L.size (.cells (cb la (.slice gXa na cXa)) 25)
  refine (HI.out _ (.slice gXa na cXa) OXa.ints (HT.out.below L)).mono ?_
  rintro e wG ⟨vG, rfl, ho, hb⟩
  have hU := World.ownsRow.lt ho
  try simp only [World.size_alloc] at hU
  have UG := Lib.hid hU
  clear hU
  replace R0 := Row.below R0 hb
  replace RXa := Row.below RXa hb
  replace OW := Own.below OW hb
  replace OXa := Own.below OXa hb
  have hs4 := hb.size
  try simp only [World.size_alloc] at hs4
  replace L := bst L hb L.size
  clear hb
  have OG := ho
  clear ho
  have c00 := Row.cell R0 0
  have c10 := Row.cell R0 1
  have lt0 := Row.lt R0
  have c0Xa := Row.cell RXa 0
  have c1Xa := Row.cell RXa 1
  have ltXa := Row.lt RXa
  go_wp2_with fail
  clear c00 c10 lt0 c0Xa c1Xa ltXa
  refine (c_eqInts_same vG vW rs _ OG.ints OW.ints (by rw [HNR.out]; omega)).mono ?_
  rintro e w1e ⟨rfl, hb⟩
  replace R0 := Row.below R0 hb
  replace RXa := Row.below RXa hb
  replace OW := Own.below OW hb
  replace OXa := Own.below OXa hb
  replace OG := Own.below OG hb
  have hs5 := hb.size
  try simp only [World.size_alloc] at hs5
  replace L := bst L hb L.size
  clear hb
  have c00 := Row.cell R0 0
  have c10 := Row.cell R0 1
  have lt0 := Row.lt R0
  have c0Xa := Row.cell RXa 0
  have c1Xa := Row.cell RXa 1
  have ltXa := Row.lt RXa
  go_wp2_with fail
  have IZ : IntsAt w1e.drew (.slice aa na caa) za := IntsAt.below HZa.out (below_drew L)
  have IX : IntsAt w1e.drew (.slice gXa na cXa) za := OXa.ints
  have RR0 : w1e.drew.cell? ⟨w.heap.size, 0, none⟩ = some (.int .i64 la) := Row.cell R0 0
  have RR1 : w1e.drew.cell? ⟨w.heap.size, 1, none⟩ = some (.slice aa na caa) := Row.cell R0 1
  have RX0 : w1e.drew.cell? ⟨wXa.heap.size, 0, none⟩ = some (.int .i64 la) := Row.cell RXa 0
  have RX1 : w1e.drew.cell? ⟨wXa.heap.size, 1, none⟩ = some (.slice gXa na cXa) := Row.cell RXa 1
  have BD := Below.refl w1e.heap.size w1e
  replace BD := below_drew BD
  clear c00 c10 lt0 c0Xa c1Xa ltXa
  go_region_held3 (fun w' => w'.cell? ⟨w.heap.size, 0, none⟩ = some (.int .i64 la) ∧ w'.cell? ⟨w.heap.size, 1, none⟩ = some (.slice aa na caa) ∧ w'.cell? ⟨wXa.heap.size, 0, none⟩ = some (.int .i64 la) ∧ w'.cell? ⟨wXa.heap.size, 1, none⟩ = some (.slice gXa na cXa) ∧ Below w1e.heap.size w1e w')
    (first
      | (with_reducible exact ⟨RR0, RR1, RX0, RX1, BD⟩)
      | (go_split_ands
         exact ⟨cellBelow hbk (by assumption), cellBelow hbk (by assumption), cellBelow hbk (by assumption), cellBelow hbk (by assumption), bst (by assumption) hbk (Below.size (by assumption))⟩)
      | (go_split_ands; refine ⟨?_, ?_, ?_, ?_, ?_⟩ <;> assumption))
    (first
      | (go_at_call 36; refine (c_toBits la (.slice aa na caa) za _ IZ HMa.out).mono ?_; rintro e wad1 ⟨vDa, rfl, hoD, hbk⟩; have OD := Lib.hid hoD.ints; have XD := Lib.hid (IX.below hbk); clear hoD)
      | (go_at_call 37; refine (c_eqBits la _ _ za _ XD.out OD.out HMa.out).mono ?_; rintro e wad2 ⟨rfl, hbk⟩))
  have hb : Below w1e.heap.size w1e wad2 := by go_split_ands; assumption
  clear OD XD IZ IX RR0 RR1 RX0 RX1 BD
  replace R0 := Row.below R0 hb
  replace RXa := Row.below RXa hb
  replace OW := Own.below OW hb
  replace OXa := Own.below OXa hb
  replace OG := Own.below OG hb
  have hs6 := hb.size
  try simp only [World.size_alloc] at hs6
  replace L := bst L hb L.size
  clear hb
  have c00 := Row.cell R0 0
  have c10 := Row.cell R0 1
  have lt0 := Row.lt R0
  have c0Xa := Row.cell RXa 0
  have c1Xa := Row.cell RXa 1
  have ltXa := Row.lt RXa
  go_wp2_with fail
  clear c00 c10 lt0 c0Xa c1Xa ltXa
  refine (c_markBits la (.slice gXa na cXa) za _ (1) _ OXa (by omega) (by rw [HNa.out]; omega)).mono ?_
  rintro e wma ⟨rfl, ho, hg⟩
  rw [HNa.out] at ho
  rw [HNa.out]
  replace R0 := Row.grownBy R0 hg (rowApart UXa.out (by omega))
  replace RXa := Row.grownBy RXa hg (rowApart UXa.out (by omega))
  replace OW : Own _ _ _ _ := World.ownsRow.kept OW hg (ownApart UW.out UXa.out (by omega))
  replace OG : Own _ _ _ _ := World.ownsRow.kept OG hg (ownApart UG.out UXa.out (by omega))
  have hs7 := hg.size
  replace L := Below.grown L hg L.size (fun k hk => by have := UXa.out k hk; omega)
  clear hg
  clear OXa ho
  have c00 := Row.cell R0 0
  have c10 := Row.cell R0 1
  have lt0 := Row.lt R0
  have c0Xa := Row.cell RXa 0
  have c1Xa := Row.cell RXa 1
  have ltXa := Row.lt RXa
  go_wp2_with fail
  clear c00 c10 lt0 c0Xa c1Xa ltXa
  refine (c_eqInts_same vG vW rs _ OG.ints OW.ints (by rw [HNR.out]; omega)).mono ?_
  rintro e w2e ⟨rfl, hb⟩
  replace R0 := Row.below R0 hb
  replace RXa := Row.below RXa hb
  replace OW := Own.below OW hb
  replace OG := Own.below OG hb
  have hs8 := hb.size
  try simp only [World.size_alloc] at hs8
  replace L := bst L hb L.size
  clear hb
  have c00 := Row.cell R0 0
  have c10 := Row.cell R0 1
  have lt0 := Row.lt R0
  have c0Xa := Row.cell RXa 0
  have c1Xa := Row.cell RXa 1
  have ltXa := Row.lt RXa
  go_wp2_with fail
  clear c00 c10 lt0 c0Xa c1Xa ltXa
  refine (c_markIntS vG rs _ (1) _ OG (by omega) (by rw [HNR.out]; omega)).mono ?_
  rintro e wmG ⟨rfl, ho, hg⟩
  rw [HNR.out] at ho
  rw [HNR.out]
  replace R0 := Row.grownBy R0 hg (rowApart UG.out (by omega))
  replace RXa := Row.grownBy RXa hg (rowApart UG.out (by omega))
  replace OW : Own _ _ _ _ := World.ownsRow.kept OW hg (ownApart UW.out UG.out (by omega))
  have hs9 := hg.size
  replace L := Below.grown L hg L.size (fun k hk => by have := UG.out k hk; omega)
  clear hg
  replace OG := ho
  clear ho
  have c00 := Row.cell R0 0
  have c10 := Row.cell R0 1
  have lt0 := Row.lt R0
  have c0Xa := Row.cell RXa 0
  have c1Xa := Row.cell RXa 1
  have ltXa := Row.lt RXa
  go_wp2_with fail
  clear c00 c10 lt0 c0Xa c1Xa ltXa
  refine (c_heldIntS vG nr 1 _ OG.ints (by omega) (by omega)).mono ?_
  rintro e wh1 ⟨rfl, rfl⟩
  have c00 := Row.cell R0 0
  have c10 := Row.cell R0 1
  have lt0 := Row.lt R0
  have c0Xa := Row.cell RXa 0
  have c1Xa := Row.cell RXa 1
  have ltXa := Row.lt RXa
  go_wp2_with fail
  clear c00 c10 lt0 c0Xa c1Xa ltXa
  refine (c_toBits la (.slice aa na caa) za _ (IntsAt.below HZa.out L) HMa.out).mono ?_
  rintro e wta ⟨vta, rfl, ho, hb⟩
  have hU := World.ownsRow.lt ho
  try simp only [World.size_alloc] at hU
  have Uta := Lib.hid hU
  clear hU
  obtain ⟨gta, cta, hvs, _⟩ := ho.shape
  rw [HNa.out] at hvs
  subst hvs
  replace R0 := Row.below R0 hb
  replace RXa := Row.below RXa hb
  replace OW := Own.below OW hb
  replace OG := Own.below OG hb
  have hs10 := hb.size
  try simp only [World.size_alloc] at hs10
  replace L := bst L hb L.size
  clear hb
  have Ota := ho
  clear ho
  have c00 := Row.cell R0 0
  have c10 := Row.cell R0 1
  have lt0 := Row.lt R0
  have c0Xa := Row.cell RXa 0
  have c1Xa := Row.cell RXa 1
  have ltXa := Row.lt RXa
  go_wp2_with fail
  clear c00 c10 lt0 c0Xa c1Xa ltXa
  refine (HI.out _ (.slice gta na cta) Ota.ints (HT.out.below L)).mono ?_
  rintro e wH ⟨vH, rfl, ho, hb⟩
  have hU := World.ownsRow.lt ho
  try simp only [World.size_alloc] at hU
  have UH := Lib.hid hU
  clear hU
  replace R0 := Row.below R0 hb
  replace RXa := Row.below RXa hb
  replace OW := Own.below OW hb
  replace OG := Own.below OG hb
  replace Ota := Own.below Ota hb
  have hs11 := hb.size
  try simp only [World.size_alloc] at hs11
  replace L := bst L hb L.size
  clear hb
  have OH := ho
  clear ho
  clear Ota Uta
  have c00 := Row.cell R0 0
  have c10 := Row.cell R0 1
  have lt0 := Row.lt R0
  have c0Xa := Row.cell RXa 0
  have c1Xa := Row.cell RXa 1
  have ltXa := Row.lt RXa
  go_wp2_with fail
  clear c00 c10 lt0 c0Xa c1Xa ltXa
  refine (c_eqInts_same vH vW rs _ OH.ints OW.ints (by rw [HNR.out]; omega)).mono ?_
  rintro e w3e ⟨rfl, hb⟩
  replace R0 := Row.below R0 hb
  replace RXa := Row.below RXa hb
  replace OW := Own.below OW hb
  replace OG := Own.below OG hb
  replace OH := Own.below OH hb
  have hs12 := hb.size
  try simp only [World.size_alloc] at hs12
  replace L := bst L hb L.size
  clear hb
  have c00 := Row.cell R0 0
  have c10 := Row.cell R0 1
  have lt0 := Row.lt R0
  have c0Xa := Row.cell RXa 0
  have c1Xa := Row.cell RXa 1
  have ltXa := Row.lt RXa
  go_wp2_with fail
  clear c00 c10 lt0 c0Xa c1Xa ltXa
  refine (c_heldIntS vG nr 1 _ OG.ints (by omega) (by omega)).mono ?_
  rintro e wh2 ⟨rfl, rfl⟩
  have c00 := Row.cell R0 0
  have c10 := Row.cell R0 1
  have lt0 := Row.lt R0
  have c0Xa := Row.cell RXa 0
  have c1Xa := Row.cell RXa 1
  have ltXa := Row.lt RXa
  go_wp2
  go_ret
  exact ⟨rfl, L⟩
set_option maxHeartbeats 800000 in
set_option maxRecDepth 100000 in
theorem walk_FnExactSetList (la : Int) (va : Value) (za : List Int) (w : World) (hza : IntsAt w va za) (hna : za.length ≤ 9223372036854775807) (hT : TabB w) : Calls Tryd.prog 6 #[bm la va] w fun e w' => e = .returned (.bool true) ∧ Below w.heap.size w w' := by
  by_cases hm : za.length ≤ 1048576
  · by_cases hB : Bok la za
    · obtain ⟨L, rfl⟩ : ∃ L : Nat, la = L := ⟨la.toNat, by have := hB.1; omega⟩
      have hl1 := hB.2.1
      have hul := ups_length_le (bitL za) L
      refine core_FnExactSetList L va za (ups (bitL za) L) true w hza hT hm (by omega) (fun w v h => c_sSetList_yes L v za w h hB) (fun w v h ht => ?_)
      rw [← ups_all hB rfl]
      exact c_iSetList_yes L v za w h hB ht
    · exact core_FnExactSetList la va za [] false w hza hT hm (by simp) (fun w v h => (c_sSetList_no la v za w h hB).mono fun _ _ ⟨he, hb⟩ => intsEnd_none he hb) (fun w v h _ => (c_iSetList_no la v za w h hB).mono fun _ _ ⟨he, hb⟩ => intsEnd_none he hb)
  · have HB0 := Lib.hid ((Below.refl w.heap.size w).alloc (Nat.le_refl _) (.cells (cb la va) 52))
    obtain ⟨a, ca, rfl, _⟩ := hza
    generalize za.length = n at *
    go_enter Tryd.func6, Tryd.ntmps6
    go_wp2_with fail
    refine (c_szBits_no la a n ca 1048576 _ (by omega) (by omega) hna (by omega)).mono ?_
    rintro e w1 ⟨rfl, hb1⟩
    have HB1 := Lib.hid (bst HB0.out hb1 HB0.out.size)
    clear hb1
    go_wp2
    go_ret
    exact ⟨rfl, HB1.out⟩
end Go.Proofs.YtlmelabddaapeaaDoor
