/- The walk of laws.FnExactThingAt. -/
import Derived.Test.YtcelebblcjhpaaaDoorSw5
import Derived.Test.YtcelebblcjhpaaaDoorSs3
namespace Go.Proofs.YtcelebblcjhpaaaDoor
open Go.RowKit Pb

set_option maxHeartbeats 12800000 in
set_option maxRecDepth 100000 in
theorem core_FnExactThingAt (fa ca la : Int) (va : Value) (za : List Int) (x : Int) (nn : Int) (ok : Bool) (T : World → Prop) (w : World) (hza : IntsAt w va za) (hm : za.length ≤ 1048576) (hT : ∀ w', Below w.heap.size w w' → T w')
    (hS : ∀ (w : World) (va : Value), IntsAt w va za → Calls Tryd.prog 24 #[sp fa ca la va, .int .i64 x] w (fun e w' => e = .returned (.tuple #[.int .i64 nn, .bool ok]) ∧ Below w.heap.size w w'))
    (hI : ∀ (w : World) (va : Value), IntsAt w va za → T w → Calls Tryd.prog 22 #[sp fa ca la va, .int .i64 x] w (fun e w' => e = .returned (.tuple #[.int .i64 nn, .bool ok]) ∧ Below w.heap.size w w')) :
    Calls Tryd.prog 9 #[sp fa ca la va, .int .i64 x] w fun e w' => e = .returned (.bool true) ∧ Below w.heap.size w w' := by
  have HZa := Lib.hid hza
  have HS := Lib.hid hS; have HI := Lib.hid hI; have HT := Lib.hid hT
  clear hS hI hT
  obtain ⟨aa, caa, rfl, _⟩ := id hza
  obtain ⟨na, hna⟩ : ∃ n, n = za.length := ⟨_, rfl⟩
  have HNa : Hid (za.length = na) := hna.symm
  rw [← hna] at hm
  rw [← hna] at HZa
  rw [← hna]
  clear hza hna
  have HMa : Hid (za.length ≤ 1048576) := by unfold Hid; rw [HNa.out]; omega
  have e2 : (ok != ok) = false := by simp
  have e3 : (nn != nn) = false := by simp
  have hl0 : ¬ (1048576 - (na : Int)) < 0 := by omega
  have L := (Below.refl w.heap.size w).alloc (Nat.le_refl _) (.cells (c4 fa ca la (.slice aa na caa)) 53)
  have R0 : Row _ w.heap.size 53 (c4 fa ca la (.slice aa na caa)) := Row.new w _ _
  go_enter Tryd.func9, Tryd.ntmps9
  go_wp2_with fail
  refine (c_szSpan_yes fa ca la aa na caa (1048576) _ (by omega) (by omega)).mono ?_
  rintro e sa ⟨rfl, hb⟩
  replace R0 := Row.below R0 hb
  have hs0 := hb.size
  try simp only [World.size_alloc] at hs0
  replace L := bst L hb L.size
  clear hb
  have c00 := Row.cell R0 0
  have c10 := Row.cell R0 1
  have c20 := Row.cell R0 2
  have c30 := Row.cell R0 3
  have lt0 := Row.lt R0
  go_wp2_with fail
  clear c00 c10 c20 c30 lt0
  refine (c_toSpan fa ca la (.slice aa na caa) za _ (IntsAt.below HZa.out L) HMa.out).mono ?_
  rintro e wsa ⟨vsa, rfl, ho, hb⟩
  have hU := World.ownsRow.lt ho
  try simp only [World.size_alloc] at hU
  have Usa := Lib.hid hU
  clear hU
  obtain ⟨gsa, csa, hvs, _⟩ := ho.shape
  rw [HNa.out] at hvs
  subst hvs
  replace R0 := Row.below R0 hb
  have hs1 := hb.size
  try simp only [World.size_alloc] at hs1
  replace L := bst L hb L.size
  clear hb
  have Osa := ho
  clear ho
  have c00 := Row.cell R0 0
  have c10 := Row.cell R0 1
  have c20 := Row.cell R0 2
  have c30 := Row.cell R0 3
  have lt0 := Row.lt R0
  go_wp2_with fail
  clear c00 c10 c20 c30 lt0
  refine (HS.out _ (.slice gsa na csa) Osa.ints).mono ?_
  rintro e wW ⟨rfl, hb⟩
  replace R0 := Row.below R0 hb
  replace Osa := Own.below Osa hb
  have hs2 := hb.size
  try simp only [World.size_alloc] at hs2
  replace L := bst L hb L.size
  clear hb
  clear Osa Usa
  have c00 := Row.cell R0 0
  have c10 := Row.cell R0 1
  have c20 := Row.cell R0 2
  have c30 := Row.cell R0 3
  have lt0 := Row.lt R0
  go_wp2_with fail
  clear c00 c10 c20 c30 lt0
  refine (c_toSpan fa ca la (.slice aa na caa) za _ (IntsAt.below HZa.out L) HMa.out).mono ?_
  rintro e wXa ⟨vXa, rfl, ho, hb⟩
  have hU := World.ownsRow.lt ho
  try simp only [World.size_alloc] at hU
  have UXa := Lib.hid hU
  clear hU
  obtain ⟨gXa, cXa, hvs, _⟩ := ho.shape
  rw [HNa.out] at hvs
  subst hvs
  replace R0 := Row.below R0 hb
  have hs3 := hb.size
  try simp only [World.size_alloc] at hs3
  replace L := bst L hb L.size
  clear hb
  have OXa := ho
  clear ho
  have c00 := Row.cell R0 0
  have c10 := Row.cell R0 1
  have c20 := Row.cell R0 2
  have c30 := Row.cell R0 3
  have lt0 := Row.lt R0
  go_wp2_with fail
  clear c00 c10 c20 c30 lt0
  replace R0 := Row.alloc R0 (.cells (c4 fa ca la (.slice gXa na cXa)) 27)
  have RXa := Row.new wXa 27 (c4 fa ca la (.slice gXa na cXa))
  replace OXa := Own.below OXa ((Below.refl _ _).alloc (Nat.le_refl _) (.cells (c4 fa ca la (.slice gXa na cXa)) 27))
  replace L := Below.alloc L L.size (.cells (c4 fa ca la (.slice gXa na cXa)) 27)
  refine (HI.out _ (.slice gXa na cXa) OXa.ints (HT.out _ L)).mono ?_
  rintro e wG ⟨rfl, hb⟩
  replace R0 := Row.below R0 hb
  replace RXa := Row.below RXa hb
  replace OXa := Own.below OXa hb
  have hs4 := hb.size
  try simp only [World.size_alloc] at hs4
  replace L := bst L hb L.size
  clear hb
  have c00 := Row.cell R0 0
  have c10 := Row.cell R0 1
  have c20 := Row.cell R0 2
  have c30 := Row.cell R0 3
  have lt0 := Row.lt R0
  have c0Xa := Row.cell RXa 0
  have c1Xa := Row.cell RXa 1
  have c2Xa := Row.cell RXa 2
  have c3Xa := Row.cell RXa 3
  have ltXa := Row.lt RXa
  go_wp2_with fail
  have IZ : IntsAt wG.drew (.slice aa na caa) za := IntsAt.below HZa.out (below_drew L)
  have IX : IntsAt wG.drew (.slice gXa na cXa) za := OXa.ints
  have RR0 : wG.drew.cell? ⟨w.heap.size, 0, none⟩ = some (.int .i64 fa) := Row.cell R0 0
  have RR1 : wG.drew.cell? ⟨w.heap.size, 1, none⟩ = some (.int .i64 ca) := Row.cell R0 1
  have RR2 : wG.drew.cell? ⟨w.heap.size, 2, none⟩ = some (.int .i64 la) := Row.cell R0 2
  have RR3 : wG.drew.cell? ⟨w.heap.size, 3, none⟩ = some (.slice aa na caa) := Row.cell R0 3
  have RX0 : wG.drew.cell? ⟨wXa.heap.size, 0, none⟩ = some (.int .i64 fa) := Row.cell RXa 0
  have RX1 : wG.drew.cell? ⟨wXa.heap.size, 1, none⟩ = some (.int .i64 ca) := Row.cell RXa 1
  have RX2 : wG.drew.cell? ⟨wXa.heap.size, 2, none⟩ = some (.int .i64 la) := Row.cell RXa 2
  have RX3 : wG.drew.cell? ⟨wXa.heap.size, 3, none⟩ = some (.slice gXa na cXa) := Row.cell RXa 3
  have BD := Below.refl wG.heap.size wG
  replace BD := below_drew BD
  clear c00 c10 c20 c30 lt0 c0Xa c1Xa c2Xa c3Xa ltXa
  go_region_held3 (fun w' => w'.cell? ⟨w.heap.size, 0, none⟩ = some (.int .i64 fa) ∧ w'.cell? ⟨w.heap.size, 1, none⟩ = some (.int .i64 ca) ∧ w'.cell? ⟨w.heap.size, 2, none⟩ = some (.int .i64 la) ∧ w'.cell? ⟨w.heap.size, 3, none⟩ = some (.slice aa na caa) ∧ w'.cell? ⟨wXa.heap.size, 0, none⟩ = some (.int .i64 fa) ∧ w'.cell? ⟨wXa.heap.size, 1, none⟩ = some (.int .i64 ca) ∧ w'.cell? ⟨wXa.heap.size, 2, none⟩ = some (.int .i64 la) ∧ w'.cell? ⟨wXa.heap.size, 3, none⟩ = some (.slice gXa na cXa) ∧ Below wG.heap.size wG w')
    (first
      | (with_reducible exact ⟨RR0, RR1, RR2, RR3, RX0, RX1, RX2, RX3, BD⟩)
      | (go_split_ands
         exact ⟨cellBelow hbk (by assumption), cellBelow hbk (by assumption), cellBelow hbk (by assumption), cellBelow hbk (by assumption), cellBelow hbk (by assumption), cellBelow hbk (by assumption), cellBelow hbk (by assumption), cellBelow hbk (by assumption), bst (by assumption) hbk (Below.size (by assumption))⟩)
      | (go_split_ands; refine ⟨?_, ?_, ?_, ?_, ?_, ?_, ?_, ?_, ?_⟩ <;> assumption))
    (first
      | (go_at_call 37; refine (c_toSpan fa ca la (.slice aa na caa) za _ IZ HMa.out).mono ?_; rintro e wad1 ⟨vDa, rfl, hoD, hbk⟩; have OD := Lib.hid hoD.ints; have XD := Lib.hid (IX.below hbk); clear hoD)
      | (go_at_call 38; refine (c_eqSpan fa ca la _ _ za _ XD.out OD.out HMa.out).mono ?_; rintro e wad2 ⟨rfl, hbk⟩))
  have hb : Below wG.heap.size wG wad2 := by go_split_ands; assumption
  clear OD XD IZ IX RR0 RX0 RR1 RX1 RR2 RX2 RR3 RX3 BD
  replace R0 := Row.below R0 hb
  replace RXa := Row.below RXa hb
  replace OXa := Own.below OXa hb
  have hs5 := hb.size
  try simp only [World.size_alloc] at hs5
  replace L := bst L hb L.size
  clear hb
  have c00 := Row.cell R0 0
  have c10 := Row.cell R0 1
  have c20 := Row.cell R0 2
  have c30 := Row.cell R0 3
  have lt0 := Row.lt R0
  have c0Xa := Row.cell RXa 0
  have c1Xa := Row.cell RXa 1
  have c2Xa := Row.cell RXa 2
  have c3Xa := Row.cell RXa 3
  have ltXa := Row.lt RXa
  go_wp2
  go_ret
  exact ⟨rfl, L⟩
set_option maxHeartbeats 1600000 in
set_option maxRecDepth 100000 in
theorem walk_FnExactThingAt (fa ca la : Int) (va : Value) (za : List Int) (x : Int) (w : World) (hza : IntsAt w va za) (hna : za.length ≤ 9223372036854775807) (hx : -9223372036854775808 ≤ x ∧ x ≤ 9223372036854775807) (hT : TabW w) : Calls Tryd.prog 9 #[sp fa ca la va, .int .i64 x] w fun e w' => e = .returned (.bool true) ∧ Below w.heap.size w w' := by
  by_cases hm : za.length ≤ 1048576
  · by_cases hB : Sok fa ca la za
    · by_cases h1 : x < fa * 64
      · exact core_FnExactThingAt fa ca la va za x 0 false TabW w hza hm (fun w' hb => hT.below hb hT.pos) (fun w v h => c_sThingAt_before fa ca la v za x w h hB h1) (fun w v h ht => c_iThingAt_before fa ca la v za x w ht h hB h1)
      · by_cases h2 : (x - fa * 64) / Pl.szOf ca < la
        · have h3 : x ≤ 2048 := thing_near hB h1 h2
          cases hu : bitL za ((x - fa * 64) / Pl.szOf ca).toNat with
          | true => exact core_FnExactThingAt fa ca la va za x ((x - fa * 64) / Pl.szOf ca) true TabW w hza hm (fun w' hb => hT.below hb hT.pos) (fun w v h => c_sThingAt_in fa ca la v za x w h hB h1 h3 _ rfl h2 hu) (fun w v h ht => c_iThingAt_in fa ca la v za x w ht h hB h1 hx.2 _ rfl h2 hu)
          | false => exact core_FnExactThingAt fa ca la va za x 0 false TabW w hza hm (fun w' hb => hT.below hb hT.pos) (fun w v h => c_sThingAt_unused fa ca la v za x w h hB h1 h3 _ rfl h2 hu) (fun w v h ht => c_iThingAt_unused fa ca la v za x w ht h hB h1 hx.2 _ rfl h2 hu)
        · by_cases h3 : x ≤ 2048
          · exact core_FnExactThingAt fa ca la va za x 0 false TabW w hza hm (fun w' hb => hT.below hb hT.pos) (fun w v h => c_sThingAt_behind fa ca la v za x w h hB h1 h3 _ rfl h2) (fun w v h ht => c_iThingAt_behind fa ca la v za x w ht h hB h1 hx.2 _ rfl h2)
          · exact core_FnExactThingAt fa ca la va za x 0 false TabW w hza hm (fun w' hb => hT.below hb hT.pos) (fun w v h => c_sThingAt_far fa ca la v za x w h hB h1 (by omega)) (fun w v h ht => c_iThingAt_behind fa ca la v za x w ht h hB h1 hx.2 _ rfl h2)
    · exact core_FnExactThingAt fa ca la va za x 0 false TabW w hza hm (fun w' hb => hT.below hb hT.pos) (fun w v h => c_sThingAt_bad fa ca la v za x w h hB) (fun w v h ht => c_iThingAt_bad fa ca la v za x w ht h hB)
  · have HB0 := Lib.hid ((Below.refl w.heap.size w).alloc (Nat.le_refl _) (.cells (c4 fa ca la va) 53))
    obtain ⟨a, cap, rfl, _⟩ := hza
    generalize za.length = n at *
    go_enter Tryd.func9, Tryd.ntmps9
    go_wp2_with fail
    refine (c_szSpan_no fa ca la a n cap 1048576 _ (by omega) (by omega) hna (by omega)).mono ?_
    rintro e w1 ⟨rfl, hb1⟩
    have HB1 := Lib.hid (bst HB0.out hb1 HB0.out.size)
    clear hb1
    go_wp2
    go_ret
    exact ⟨rfl, HB1.out⟩
end Go.Proofs.YtcelebblcjhpaaaDoor
