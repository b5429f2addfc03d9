/- Contracts of chapter 2: the reference's NewBits, IsSet, CountSet, and what it asks of a run and of a pair. -/
import Derived.Test.YtcelebblcjhpaaaDoorBs2
namespace Go.Proofs.YtcelebblcjhpaaaDoor
open Go.RowKit Pb

set_option maxHeartbeats 800000 in
theorem c_l2Run_yes (long : Int) (v : Value) (zs : List Int) (a b : Int) (w : World) (hv : IntsAt w v zs) (hB : Bok long zs) (hR : InRun long a b) : Calls Tryd.prog 91 #[bm long v, .int .i64 a, .int .i64 b] w fun e w' => e = .returned (.bool true) ∧ Below w.heap.size w w' := by
  have HB := Lib.hid ((Below.refl w.heap.size w).alloc (Nat.le_refl _) (.cells (cb long v) 25))
  have hv' := Lib.hid (hv.below HB.out); clear hv
  have r0 : RowB (w.alloc (.cells (cb long v) 25)) w.heap.size long v := Row.new w 25 (cb long v)
  obtain ⟨h0, h1, h2⟩ := hR
  go_enter Tryd.func91, Tryd.ntmps91
  go_wp2_with fail
  refine (c_sGoodBits_yes long v zs _ hv'.out hB).mono ?_
  rintro e w1 ⟨rfl, hb1⟩
  have q0 := RowB.c0 (Row.below r0 hb1)
  have B1 := Lib.hid (bstep' HB.out hb1 HB.out.size)
  clear r0 hb1
  go_wp2
  go_ret
  exact ⟨rfl, B1.out⟩
set_option maxHeartbeats 800000 in
theorem c_l2Run_no (long : Int) (v : Value) (zs : List Int) (a b : Int) (w : World) (hv : IntsAt w v zs) (hN : ¬ (Bok long zs ∧ InRun long a b)) : Calls Tryd.prog 91 #[bm long v, .int .i64 a, .int .i64 b] w fun e w' => e = .returned (.bool false) ∧ Below w.heap.size w w' := by
  have HB := Lib.hid ((Below.refl w.heap.size w).alloc (Nat.le_refl _) (.cells (cb long v) 25))
  have hv' := Lib.hid (hv.below HB.out); clear hv
  have r0 : RowB (w.alloc (.cells (cb long v) 25)) w.heap.size long v := Row.new w 25 (cb long v)
  by_cases hB : Bok long zs
  · have hR : a < 0 ∨ (0 ≤ a ∧ b < a) ∨ (0 ≤ a ∧ a ≤ b ∧ long < b) := by
      have : ¬ InRun long a b := fun h => hN ⟨hB, h⟩
      unfold InRun at this
      omega
    clear hN
    rcases hR with h0 | ⟨h0, h1⟩ | ⟨h0, h1, h2⟩
    all_goals
      go_enter Tryd.func91, Tryd.ntmps91
      go_wp2_with fail
      refine (c_sGoodBits_yes long v zs _ hv'.out hB).mono ?_
      rintro e w1 ⟨rfl, hb1⟩
      have q0 := RowB.c0 (Row.below r0 hb1)
      have B1 := Lib.hid (bstep' HB.out hb1 HB.out.size)
      clear r0 hb1
      go_wp2
      go_ret
      exact ⟨by first | rfl | exact r_b (decide_eq_false (by omega)), B1.out⟩
  · clear hN
    go_enter Tryd.func91, Tryd.ntmps91
    go_wp2_with fail
    refine (c_sGoodBits_no long v zs _ hv'.out hB).mono ?_
    rintro e w1 ⟨rfl, hb1⟩
    have B1 := Lib.hid (bstep' HB.out hb1 HB.out.size)
    clear r0 hb1
    go_wp2
    go_ret
    exact ⟨rfl, B1.out⟩

set_option maxHeartbeats 800000 in
theorem c_l2Two_yes (la lb : Int) (va vb : Value) (za zb : List Int) (w : World) (ha : IntsAt w va za) (hb : IntsAt w vb zb) (ga : Bok la za) (gb : Bok lb zb) (hl : la = lb) : Calls Tryd.prog 107 #[bm la va, bm lb vb] w fun e w' => e = .returned (.bool true) ∧ Below w.heap.size w w' := by
  subst hl
  have HB := Lib.hid (((Below.refl w.heap.size w).alloc (Nat.le_refl _) (.cells (cb la va) 25)).alloc (by simp) (.cells (cb la vb) 25))
  have va' := Lib.hid (ha.below HB.out)
  have vb' := Lib.hid (hb.below HB.out); clear ha hb
  have r0 : RowB ((w.alloc (.cells (cb la va) 25)).alloc (.cells (cb la vb) 25)) w.heap.size la va := (Row.new w 25 (cb la va)).alloc _
  have s0 : RowB ((w.alloc (.cells (cb la va) 25)).alloc (.cells (cb la vb) 25)) (w.heap.size + 1) la vb := Row.new1 w _ 25 (cb la vb)
  go_enter Tryd.func107, Tryd.ntmps107
  go_wp2_with fail
  refine (c_sGoodBits_yes la va za _ va'.out ga).mono ?_
  rintro e w1 ⟨rfl, hb1⟩
  have r1 := Row.below r0 hb1
  have s1 := Row.below s0 hb1
  have q0 := RowB.c0 s1
  have q1 := RowB.c1 s1
  have v1 := Lib.hid (vb'.out.below hb1)
  have B1 := Lib.hid (bstep' HB.out hb1 HB.out.size)
  clear r0 s0 hb1
  go_wp2_with fail
  refine (c_sGoodBits_yes la vb zb _ v1.out gb).mono ?_
  rintro e w2 ⟨rfl, hb2⟩
  clear q0 q1
  have q0 := RowB.c0 (Row.below r1 hb2)
  have q1 := RowB.c0 (Row.below s1 hb2)
  have B2 := Lib.hid (bstep' B1.out hb2 B1.out.size)
  clear r1 s1 hb2
  go_wp2
  go_ret
  exact ⟨rfl, B2.out⟩
set_option maxHeartbeats 800000 in
theorem c_l2Two_no (la lb : Int) (va vb : Value) (za zb : List Int) (w : World) (ha : IntsAt w va za) (hb : IntsAt w vb zb) (hN : ¬ (Bok la za ∧ Bok lb zb ∧ la = lb)) : Calls Tryd.prog 107 #[bm la va, bm lb vb] w fun e w' => e = .returned (.bool false) ∧ Below w.heap.size w w' := by
  have HB := Lib.hid (((Below.refl w.heap.size w).alloc (Nat.le_refl _) (.cells (cb la va) 25)).alloc (by simp) (.cells (cb lb vb) 25))
  have va' := Lib.hid (ha.below HB.out)
  have vb' := Lib.hid (hb.below HB.out); clear ha hb
  have r0 : RowB ((w.alloc (.cells (cb la va) 25)).alloc (.cells (cb lb vb) 25)) w.heap.size la va := (Row.new w 25 (cb la va)).alloc _
  have s0 : RowB ((w.alloc (.cells (cb la va) 25)).alloc (.cells (cb lb vb) 25)) (w.heap.size + 1) lb vb := Row.new1 w _ 25 (cb lb vb)
  by_cases ga : Bok la za
  · by_cases gb : Bok lb zb
    · have hne : (la == lb) = false := by rw [beq_eq_false_iff_ne]; exact fun e => hN ⟨ga, gb, e⟩
      clear hN
      go_enter Tryd.func107, Tryd.ntmps107
      go_wp2_with fail
      refine (c_sGoodBits_yes la va za _ va'.out ga).mono ?_
      rintro e w1 ⟨rfl, hb1⟩
      have r1 := Row.below r0 hb1
      have s1 := Row.below s0 hb1
      have q0 := RowB.c0 s1
      have q1 := RowB.c1 s1
      have v1 := Lib.hid (vb'.out.below hb1)
      have B1 := Lib.hid (bstep' HB.out hb1 HB.out.size)
      clear r0 s0 hb1
      go_wp2_with fail
      refine (c_sGoodBits_yes lb vb zb _ v1.out gb).mono ?_
      rintro e w2 ⟨rfl, hb2⟩
      clear q0 q1
      have q0 := RowB.c0 (Row.below r1 hb2)
      have q1 := RowB.c0 (Row.below s1 hb2)
      have B2 := Lib.hid (bstep' B1.out hb2 B1.out.size)
      clear r1 s1 hb2
      go_wp2
      go_ret
      exact ⟨rfl, B2.out⟩
    · clear hN
      go_enter Tryd.func107, Tryd.ntmps107
      go_wp2_with fail
      refine (c_sGoodBits_yes la va za _ va'.out ga).mono ?_
      rintro e w1 ⟨rfl, hb1⟩
      have s1 := Row.below s0 hb1
      have q0 := RowB.c0 s1
      have q1 := RowB.c1 s1
      have v1 := Lib.hid (vb'.out.below hb1)
      have B1 := Lib.hid (bstep' HB.out hb1 HB.out.size)
      clear r0 s0 hb1
      go_wp2_with fail
      refine (c_sGoodBits_no lb vb zb _ v1.out gb).mono ?_
      rintro e w2 ⟨rfl, hb2⟩
      have B2 := Lib.hid (bstep' B1.out hb2 B1.out.size)
      clear s1 hb2 q0 q1
      go_wp2
      go_ret
      exact ⟨rfl, B2.out⟩
  · clear hN
    go_enter Tryd.func107, Tryd.ntmps107
    go_wp2_with fail
    refine (c_sGoodBits_no la va za _ va'.out ga).mono ?_
    rintro e w1 ⟨rfl, hb1⟩
    have B1 := Lib.hid (bstep' HB.out hb1 HB.out.size)
    clear r0 s0 hb1
    go_wp2
    go_ret
    exact ⟨rfl, B1.out⟩

set_option maxHeartbeats 800000 in
theorem c_sCountSet_no (long : Int) (v : Value) (zs : List Int) (a b : Int) (w : World) (hv : IntsAt w v zs) (hN : ¬ (Bok long zs ∧ InRun long a b)) : Calls Tryd.prog 80 #[bm long v, .int .i64 a, .int .i64 b] w fun e w' => e = .returned (.tuple #[.int .i64 0, .bool false]) ∧ Below w.heap.size w w' := by
  have HB := Lib.hid ((Below.refl w.heap.size w).alloc (Nat.le_refl _) (.cells (cb long v) 25))
  have hv' := Lib.hid (hv.below HB.out); clear hv
  go_enter Tryd.func80, Tryd.ntmps80
  go_wp2_with fail
  refine (c_l2Run_no long v zs a b _ hv'.out hN).mono ?_
  rintro e w1 ⟨rfl, hb1⟩
  have B1 := Lib.hid (bstep' HB.out hb1 HB.out.size)
  clear hb1
  go_wp2
  go_ret2
  exact ⟨rfl, B1.out⟩
set_option maxHeartbeats 800000 in
theorem c_sCountSet_yes (long : Int) (v : Value) (zs : List Int) (a b : Nat) (w : World) (hv : IntsAt w v zs) (hB : Bok long zs) (hR : InRun long a b) : Calls Tryd.prog 80 #[bm long v, .int .i64 a, .int .i64 b] w fun e w' => e = .returned (.tuple #[.int .i64 (countTo (fun i => bitL zs (a + i)) (b - a)), .bool true]) ∧ Below w.heap.size w w' := by
  have HB := Lib.hid ((Below.refl w.heap.size w).alloc (Nat.le_refl _) (.cells (cb long v) 25))
  have hv' := Lib.hid (hv.below HB.out); clear hv
  have r0 : RowB (w.alloc (.cells (cb long v) 25)) w.heap.size long v := Row.new w 25 (cb long v)
  obtain ⟨hR0, hR1, hR2⟩ := id hR
  have hl1 := hB.2.1
  have HL : Hid ((zs.length : Int) = (long + 15) / 16) := hB.2.2.1
  go_enter Tryd.func80, Tryd.ntmps80
  go_wp2_with fail
  refine (c_l2Run_yes long v zs a b _ hv'.out hB hR).mono ?_
  rintro e w1 ⟨rfl, hb1⟩
  have r1 := Lib.hid (Row.below r0 hb1)
  have B1 := Lib.hid (bstep' HB.out hb1 HB.out.size)
  have v1 := Lib.hid (hv'.out.below hb1)
  clear r0 hb1
  go_wp2
  go_loopw [8, 9] (fun c i wr => ∃ k : Nat, a + k ≤ b ∧ i = .int .i64 ((a + k : Nat) : Int) ∧ c = .int .i64 (countTo (fun i => bitL zs (a + i)) k) ∧ RowB wr w.heap.size long v ∧ IntsAt wr v zs ∧ Below w.heap.size w wr) (fun _ i _ => b - (intOf i).toNat)
  case atStart => exact ⟨0, by omega, rfl, rfl, r1.out, v1.out, B1.out⟩
  case round =>
    obtain ⟨k, hk, rfl, rfl, hr, hi, hb⟩ := hrel
    have hbd := countTo_bd (fun i => bitL zs (a + i)) k
    have q0 := hr.c0
    have q1 := hr.c1
    by_cases hlt : a + k < b
    · have HI := Lib.hid hi; have HR := Lib.hid hr; have HB2 := Lib.hid hb
      have HS : Hid (countTo (fun i => bitL zs (a + i)) (k + 1) = countTo (fun i => bitL zs (a + i)) k + if bitL zs (a + k) then 1 else 0) := rfl
      clear hi hr hb
      generalize countTo (fun i => bitL zs (a + i)) k = c at *
      have hlt' : ((a + k : Nat) : Int) < (b : Int) := by omega
      go_wp2_with fail
      refine (c_l2Is long v zs (a + k) wr HI.out (by have := HL.out; omega) (by have := HL.out; omega) (hB.w _)).mono ?_
      rintro e w2 ⟨rfl, hb2⟩
      have HI2 := Lib.hid (HI.out.below hb2)
      have HR2 := Lib.hid (Row.below HR.out hb2)
      have HB3 := Lib.hid (bstep' HB2.out hb2 HB2.out.size)
      clear hb2 q0 q1
      cases hq : bitL zs (a + k)
      all_goals
        rw [hq] at HS
        clear hq
        go_wp2
        go_roundw
        case rel => exact ⟨k + 1, by omega, by go_num, by rw [HS.out]; simp, HR2.out, HI2.out, HB3.out⟩
        case measure => simp [intOf]; omega
    · have HK : Hid (k = b - a) := by unfold Hid; omega
      have HB2 := Lib.hid hb
      clear hi hr hb q0 q1
      generalize hcc : countTo (fun i => bitL zs (a + i)) k = c at *
      have HC := Lib.hid hcc; clear hcc
      have hge : ¬ ((a + k : Nat) : Int) < (b : Int) := by omega
      go_wp2
      go_ret2
      exact ⟨by rw [← HK.out, HC.out]; rfl, HB2.out⟩
end Go.Proofs.YtcelebblcjhpaaaDoor
