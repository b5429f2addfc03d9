/- The walk of laws.FnExactNextFree. -/
import Derived.Test.YtlmelabddaapeaaDoorBd2
import Derived.Test.YtlmelabddaapeaaDoorBl1
namespace Go.Proofs.YtlmelabddaapeaaDoor
open Go.RowKit Pb

set_option maxHeartbeats 3200000 in
set_option maxRecDepth 100000 in
theorem core_FnExactNextFree (long : Int) (v : Value) (zs : List Int) (p : Int) (c : Int) (ok : Bool) (w : World) (hz : IntsAt w v zs) (hm : zs.length ≤ 1048576) (hT : TabB w)
    (hS : ∀ (w : World) (v : Value), IntsAt w v zs → Calls Tryd.prog 28 #[bm long v, .int .i64 p] w fun e w' => e = .returned (.tuple #[.int .i64 c, .bool ok]) ∧ Below w.heap.size w w')
    (hI : ∀ (w : World) (v : Value), IntsAt w v zs → TabB w → Calls Tryd.prog 27 #[bm long v, .int .i64 p] w fun e w' => e = .returned (.tuple #[.int .i64 c, .bool ok]) ∧ Below w.heap.size w w') :
    Calls Tryd.prog 5 #[bm long v, .int .i64 p] w fun e w' => e = .returned (.bool true) ∧ Below w.heap.size w w' := by
  have HZ := Lib.hid hz
  have HM := Lib.hid hm
  have HS := Lib.hid hS; have HI := Lib.hid hI
  have HT := Lib.hid hT; clear hT
  obtain ⟨a, ca, rfl, _⟩ := id hz
  have hl : ¬ (1048576 - (zs.length : Int)) < 0 := by omega
  have hlx : (zs.length : Int) ≤ 1048576 := by omega
  clear hz hm hS hI
  obtain ⟨n, hn⟩ : ∃ n, n = zs.length := ⟨_, rfl⟩
  rw [← hn] at hl hlx HZ ⊢
  have HN : Hid (zs.length = n) := hn.symm
  clear hn
  have HB0 := Lib.hid ((Below.refl w.heap.size w).alloc (Nat.le_refl _) (.cells (cb long (.slice a n ca)) 52))
  have r0 : Row (w.alloc (.cells (cb long (.slice a n ca)) 52)) w.heap.size 52 (cb long (.slice a n ca)) := Row.new w _ _
  have e1 : (c != c) = false := by simp
  have e2 : (ok != ok) = false := by simp
  go_enter Tryd.func5, Tryd.ntmps5
  go_wp2_with fail
  refine (c_szBits_yes long a n ca 1048576 _ (by omega) hlx).mono ?_
  rintro e w1 ⟨rfl, hb1⟩
  have r1 := Row.below r0 hb1
  have q0 : w1.cell? ⟨w.heap.size, 0, none⟩ = some (.int .i64 long) := Row.cell r1 0
  have q1 : w1.cell? ⟨w.heap.size, 1, none⟩ = some (.slice a n ca) := Row.cell r1 1
  have HB1 := Lib.hid (bst HB0.out hb1 HB0.out.size)
  clear r0 hb1
  go_wp2_with fail
  refine (c_toBits long _ zs _ (HZ.out.below HB1.out) HM.out).mono ?_
  rintro e w2 ⟨v2, rfl, ho2, hb2⟩
  have r2 := Row.below r1 hb2
  have HB2 := Lib.hid (bst HB1.out hb2 HB1.out.size)
  have O2 := Lib.hid ho2
  clear r1 hb2 q0 q1 ho2
  go_wp2_with fail
  refine (HS.out w2 v2 O2.out.ints).mono ?_
  rintro e w3 ⟨rfl, hb3⟩
  have r3 := Row.below r2 hb3
  have q0 : w3.cell? ⟨w.heap.size, 0, none⟩ = some (.int .i64 long) := Row.cell r3 0
  have q1 : w3.cell? ⟨w.heap.size, 1, none⟩ = some (.slice a n ca) := Row.cell r3 1
  have HB3 := Lib.hid (bst HB2.out hb3 HB2.out.size)
  clear r2 hb3 O2
  go_wp2_with fail
  refine (c_toBits long _ zs _ (HZ.out.below HB3.out) HM.out).mono ?_
  rintro e w4 ⟨v4, rfl, ho4, hb4⟩
  have r4 := (Row.below r3 hb4).alloc (.cells (cb long v4) 25)
  have hlt : w.heap.size < w4.heap.size := Row.lt (Row.below r3 hb4)
  have B4 := bst HB3.out hb4 HB3.out.size
  have HB4 := Lib.hid (B4.alloc B4.size (.cells (cb long v4) 25))
  have O4 := Lib.hid (ho4.below ((Below.refl _ _).alloc (Nat.le_refl _) (.cells (cb long v4) 25)))
  have x4 : RowB (w4.alloc (.cells (cb long v4) 25)) w4.heap.size long v4 := Row.new w4 _ _
  obtain ⟨vg, vc, hvs, _⟩ := ho4.shape
  rw [HN.out] at hvs
  have HVS := Lib.hid hvs
  clear r3 hb4 q0 q1 B4 ho4 hvs
  rw [HVS.out] at O4 HB4 r4 x4 ⊢
  go_wp2_with fail
  refine (HI.out _ _ O4.out.ints (HT.out.below HB4.out)).mono ?_
  rintro e w5 ⟨rfl, hb5⟩
  have r5 := Row.below r4 hb5
  have x5 := Row.below x4 hb5
  have O5 := O4.out.below hb5
  have HB5 := Lib.hid (bst HB4.out hb5 HB4.out.size)
  clear r4 x4 hb5 O4
  have q0 : w5.cell? ⟨w.heap.size, 0, none⟩ = some (.int .i64 long) := Row.cell r5 0
  have q1 : w5.cell? ⟨w.heap.size, 1, none⟩ = some (.slice a n ca) := Row.cell r5 1
  have p0 := RowB.c0 x5
  have p1 := RowB.c1 x5
  have HZ5 := HZ.out.below HB5.out
  have HX5 := O5.ints
  clear r5 x5 O5
  go_wp2_with fail
  generalize w4.heap.size = gx at *
  replace q0 : w5.drew.cell? ⟨w.heap.size, 0, none⟩ = some (.int .i64 long) := q0
  replace q1 : w5.drew.cell? ⟨w.heap.size, 1, none⟩ = some (.slice a n ca) := q1
  replace p0 : w5.drew.cell? ⟨gx, 0, none⟩ = some (.int .i64 long) := p0
  replace p1 : w5.drew.cell? ⟨gx, 1, none⟩ = some (.slice vg n vc) := p1
  replace HZ5 : IntsAt w5.drew (.slice a n ca) zs := HZ5
  replace HX5 : IntsAt w5.drew (.slice vg n vc) zs := HX5
  have L5 := below_drew HB5.out
  go_region_held3 (fun w' => w'.cell? ⟨w.heap.size, 0, none⟩ = some (.int .i64 long) ∧ w'.cell? ⟨w.heap.size, 1, none⟩ = some (.slice a n ca) ∧ w'.cell? ⟨gx, 0, none⟩ = some (.int .i64 long) ∧ w'.cell? ⟨gx, 1, none⟩ = some (.slice vg n vc) ∧ IntsAt w' (.slice a n ca) zs ∧ IntsAt w' (.slice vg n vc) zs ∧ Below w.heap.size w w')
    (first
      | (with_reducible exact ⟨q0, q1, p0, p1, HZ5, HX5, L5⟩)
      | (go_split_ands
         exact ⟨cellBelow hbk (by assumption), cellBelow hbk (by assumption), cellBelow hbk (by assumption), cellBelow hbk (by assumption), IntsAt.below (by assumption) hbk, IntsAt.below (by assumption) hbk, bst (by assumption) hbk (Below.size (by assumption))⟩)
      | (go_split_ands; refine ⟨?_, ?_, ?_, ?_, ?_, ?_, ?_⟩ <;> assumption))
    (first
      | (go_at_call 36; refine (c_toBits long (.slice a n ca) zs _ HZ5 HM.out).mono ?_; rintro e w6 ⟨v6, rfl, ho6, hbk⟩; have O6 := Lib.hid ho6.ints; have X6 := Lib.hid (HX5.below hbk); clear ho6)
      | (go_at_call 37; refine (c_eqBits long _ _ zs _ X6.out O6.out HM.out).mono ?_; rintro e w7 ⟨rfl, hbk⟩))
  go_split_ands
  go_wp2
  go_ret
  exact ⟨rfl, by assumption⟩
set_option maxHeartbeats 800000 in
theorem walk_FnExactNextFree (long : Int) (v : Value) (zs : List Int) (p : Int) (w : World) (hz : IntsAt w v zs) (hn : zs.length ≤ 9223372036854775807) (_ : -9223372036854775808 ≤ p ∧ p ≤ 9223372036854775807) (hT : TabB w) : Calls Tryd.prog 5 #[bm long v, .int .i64 p] w fun e w' => e = .returned (.bool true) ∧ Below w.heap.size w w' := by
  by_cases hm : zs.length ≤ 1048576
  · by_cases hB : Bok long zs ∧ 0 ≤ p ∧ p ≤ long
    · obtain ⟨hB, h0, h1⟩ := hB
      obtain ⟨m, rfl⟩ : ∃ m : Nat, p = m := ⟨p.toNat, by omega⟩
      obtain ⟨L, rfl⟩ : ∃ L : Nat, long = L := ⟨long.toNat, by omega⟩
      refine core_FnExactNextFree L v zs m (optN (findP (fun k => !bitL zs k) m (L - m))) (findP (fun k => !bitL zs k) m (L - m)).isSome w hz hm hT (fun w v h => c_sNextFree_yes L v zs m w h hB (by omega)) (fun w v h ht => ?_)
      rw [← free_eq hB rfl (show m ≤ L by omega)]
      exact c_iNextFree_yes L v zs m w h hB h0 h1 ht
    · exact core_FnExactNextFree long v zs p 0 false w hz hm hT (fun w v h => c_sNextFree_no long v zs p w h hB) (fun w v h _ => c_iNextFree_no long v zs p w h hB)
  · have HB0 := Lib.hid ((Below.refl w.heap.size w).alloc (Nat.le_refl _) (.cells (cb long v) 52))
    obtain ⟨a, ca, rfl, _⟩ := hz
    generalize zs.length = n at *
    go_enter Tryd.func5, Tryd.ntmps5
    go_wp2_with fail
    refine (c_szBits_no long a n ca 1048576 _ (by omega) (by omega) hn (by omega)).mono ?_
    rintro e w1 ⟨rfl, hb1⟩
    have HB1 := Lib.hid (bst HB0.out hb1 HB0.out.size)
    clear hb1
    go_wp2
    go_ret
    exact ⟨rfl, HB1.out⟩
end Go.Proofs.YtlmelabddaapeaaDoor
