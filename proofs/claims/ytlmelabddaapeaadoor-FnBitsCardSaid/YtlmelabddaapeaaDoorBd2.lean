/- Contracts of chapter 2: NextFree, both sides. -/
import Derived.Test.YtlmelabddaapeaaDoorBd1
import Derived.Test.YtlmelabddaapeaaDoorBi1
import Derived.Test.YtlmelabddaapeaaDoorBi5
import Derived.Test.YtlmelabddaapeaaDoorBs3
namespace Go.Proofs.YtlmelabddaapeaaDoor
open Go.RowKit Pb

set_option maxHeartbeats 800000 in
theorem c_iNextFree_no (long : Int) (v : Value) (zs : List Int) (p : Int) (w : World) (hv : IntsAt w v zs) (hB : ¬ (Bok long zs ∧ 0 ≤ p ∧ p ≤ long)) : Calls Tryd.prog 27 #[bm long v, .int .i64 p] w fun e w' => e = .returned (.tuple #[.int .i64 0, .bool false]) ∧ Below w.heap.size w w' := by
  have HB := Lib.hid ((Below.refl w.heap.size w).alloc (Nat.le_refl _) (.cells (cb long v) 25))
  have hv' := Lib.hid (hv.below HB.out); clear hv
  have r0 : RowB (w.alloc (.cells (cb long v) 25)) w.heap.size long v := Row.new w 25 (cb long v)
  obtain ⟨f, hf⟩ : ∃ f : Nat → Int, f = fun k => zs.getD k 0 := ⟨_, rfl⟩
  have HF := Lib.hid hf; clear hf
  by_cases hb : Bok long zs
  · have hp : p < 0 ∨ long < p := by
      by_cases h0 : 0 ≤ p
      · by_cases h1 : p ≤ long
        · exact absurd ⟨hb, h0, h1⟩ hB
        · omega
      · omega
    clear hB
    by_cases h0 : p < 0
    all_goals
      go_enter Tryd.func27, Tryd.ntmps27
      go_wp2_with fail
      refine (c_wordsOf_yes long v zs f HF.out _ hv'.out hb).mono ?_
      rintro e w1 ⟨rfl, hb1⟩
      have q0 := RowB.c0 (Row.below r0 hb1)
      have B1 := Lib.hid (bstep HB.out hb1 HB.out.size)
      have hsz := hb1.size
      have hw1 : w.heap.size < w1.heap.size := by simp at hsz; omega
      clear r0 hb1 hsz
      go_wp2
      go_ret2
      exact ⟨rfl, B1.out.alloc B1.out.size _⟩
  · go_enter Tryd.func27, Tryd.ntmps27
    go_wp2_with fail
    refine (c_wordsOf_no long v zs _ hv'.out hb).mono ?_
    rintro e w1 ⟨rfl, hb1⟩
    have B1 := Lib.hid (bstep HB.out hb1 HB.out.size)
    clear r0 hb1
    go_wp2
    go_ret2
    exact ⟨rfl, B1.out.alloc B1.out.size _⟩
set_option maxHeartbeats 1600000 in
theorem c_iNextFree_yes (long : Int) (v : Value) (zs : List Int) (p : Int) (w : World) (hv : IntsAt w v zs) (hB : Bok long zs) (h0 : 0 ≤ p) (h1 : p ≤ long) (hT : TabB w) :
    Calls Tryd.prog 27 #[bm long v, .int .i64 p] w fun e w' => e = .returned (.tuple #[.int .i64 (optN (findP (bitF fun j => bits .andNot .u16 (runW p long j) (zs.getD j 0)) 0 96)), .bool (findP (bitF fun j => bits .andNot .u16 (runW p long j) (zs.getD j 0)) 0 96).isSome]) ∧ Below w.heap.size w w' := by
  have HB := Lib.hid ((Below.refl w.heap.size w).alloc (Nat.le_refl _) (.cells (cb long v) 25))
  have hv' := Lib.hid (hv.below HB.out); clear hv
  have r0 : RowB (w.alloc (.cells (cb long v) 25)) w.heap.size long v := Row.new w 25 (cb long v)
  obtain ⟨f, hf⟩ : ∃ f : Nat → Int, f = fun k => zs.getD k 0 := ⟨_, rfl⟩
  obtain ⟨F, hF⟩ : ∃ F : Nat → Int, F = fun j => bits .andNot .u16 (runW p long j) (f j) := ⟨_, rfl⟩
  have EF : (fun j => bits .andNot .u16 (runW p long j) (zs.getD j 0)) = F := by rw [hF, hf]
  have hwF : ∀ k, k < 6 → W16 (F k) := fun k _ => by rw [hF]; exact w_andNot _ _
  rw [EF]
  have HWF := Lib.hid hwF; have HFF := Lib.hid hF; have HF := Lib.hid hf
  have hl0 := hB.1
  have hl1 := hB.2.1
  have HT := Lib.hid hT
  clear hf hF EF hwF hT
  obtain ⟨o, ho⟩ : ∃ o, o = findP (bitF F) 0 96 := ⟨_, rfl⟩
  have HO := Lib.hid ho
  rw [← ho]
  clear ho
  go_enter Tryd.func27, Tryd.ntmps27
  go_wp2_with fail
  refine (c_wordsOf_yes long v zs f HF.out _ hv'.out hB).mono ?_
  rintro e w1 ⟨rfl, hb1⟩
  have r1 : RowB (w1.alloc (.cells (c6 f) 69)) w.heap.size long v := (Row.below r0 hb1).alloc _
  have b6 : Blk (w1.alloc (.cells (c6 f) 69)) w1.heap.size f := Row.new w1 _ _
  have B1 := bstep HB.out hb1 HB.out.size
  have L1 := B1.alloc B1.size (.cells (c6 f) 69)
  have hsz := hb1.size
  have hw1 : w.heap.size < w1.heap.size := by simp at hsz; omega
  have q0 := RowB.c0 (Row.below r0 hb1)
  clear r0 hb1 hsz B1
  go_wp2_with fail
  clear q0
  have q0 := RowB.c0 r1
  have p0 := b6.at (k := 0) (by omega)
  have p1 := b6.at (k := 1) (by omega)
  have p2 := b6.at (k := 2) (by omega)
  have p3 := b6.at (k := 3) (by omega)
  have p4 := b6.at (k := 4) (by omega)
  have p5 := b6.at (k := 5) (by omega)
  clear r1 b6
  generalize w1.alloc (.cells (c6 f) 69) = wx at *
  generalize w1.heap.size = gx at *
  replace q0 : wx.drew.cell? ⟨w.heap.size, 0, none⟩ = some (.int .i64 long) := q0
  replace p0 : wx.drew.cell? ⟨gx, 0, none⟩ = some (.int .u16 (f 0)) := p0
  replace p1 : wx.drew.cell? ⟨gx, 1, none⟩ = some (.int .u16 (f 1)) := p1
  replace p2 : wx.drew.cell? ⟨gx, 2, none⟩ = some (.int .u16 (f 2)) := p2
  replace p3 : wx.drew.cell? ⟨gx, 3, none⟩ = some (.int .u16 (f 3)) := p3
  replace p4 : wx.drew.cell? ⟨gx, 4, none⟩ = some (.int .u16 (f 4)) := p4
  replace p5 : wx.drew.cell? ⟨gx, 5, none⟩ = some (.int .u16 (f 5)) := p5
  have L2 := below_drew L1
  have TX : TabB wx := HT.out.below L1
  clear L1
  go_region_held3 (fun w' => w'.cell? ⟨w.heap.size, 0, none⟩ = some (.int .i64 long) ∧ w'.cell? ⟨gx, 0, none⟩ = some (.int .u16 (f 0)) ∧ w'.cell? ⟨gx, 1, none⟩ = some (.int .u16 (f 1)) ∧ w'.cell? ⟨gx, 2, none⟩ = some (.int .u16 (f 2)) ∧ w'.cell? ⟨gx, 3, none⟩ = some (.int .u16 (f 3)) ∧ w'.cell? ⟨gx, 4, none⟩ = some (.int .u16 (f 4)) ∧ w'.cell? ⟨gx, 5, none⟩ = some (.int .u16 (f 5)) ∧ Below w.heap.size w w')
    (first
      | (with_reducible exact ⟨q0, p0, p1, p2, p3, p4, p5, L2⟩)
      | (go_split_ands
         exact ⟨cellBelow hbk (by assumption), cellBelow hbk (by assumption), cellBelow hbk (by assumption), cellBelow hbk (by assumption), cellBelow hbk (by assumption), cellBelow hbk (by assumption), cellBelow hbk (by assumption), bstep (by assumption) hbk (Below.size (by assumption))⟩)
      | (go_split_ands; refine ⟨?_, ?_, ?_, ?_, ?_, ?_, ?_, ?_⟩ <;> assumption))
    (first
      | (go_at_call 49; refine (c_runBits _ _ _ (by omega) (by omega) (by omega) (by omega)).mono ?_; rintro e w3 ⟨rfl, hbk⟩)
      | (go_at_call 48; refine (c_without_eq (runW p long) f F HFF.out _).mono ?_; rintro e w4 ⟨rfl, hbk⟩; have L4 : Below w.heap.size w w4 := bstep (by go_split_ands; assumption) hbk (Below.size (by go_split_ands; assumption)))
      | (go_at_call 65; refine (c_first F _ HWF.out (HT.out.below L4)).mono ?_; rintro e w5 ⟨rfl, hbk⟩; rw [← HO.out]))
  go_split_ands
  go_wp2
  go_ret2
  exact ⟨rfl, by assumption⟩
set_option maxHeartbeats 800000 in
theorem c_sNextFree_no (long : Int) (v : Value) (zs : List Int) (p : Int) (w : World) (hv : IntsAt w v zs) (hN : ¬ (Bok long zs ∧ 0 ≤ p ∧ p ≤ long)) : Calls Tryd.prog 28 #[bm long v, .int .i64 p] w fun e w' => e = .returned (.tuple #[.int .i64 0, .bool false]) ∧ Below w.heap.size w w' := by
  have HB := Lib.hid ((Below.refl w.heap.size w).alloc (Nat.le_refl _) (.cells (cb long v) 25))
  have hv' := Lib.hid (hv.below HB.out); clear hv
  have hN' : ¬ (Bok long zs ∧ InRun long p long) := fun h => hN ⟨h.1, h.2.1, h.2.2.1⟩
  clear hN
  go_enter Tryd.func28, Tryd.ntmps28
  go_wp2_with fail
  refine (c_l2Run_no long v zs p long _ hv'.out hN').mono ?_
  rintro e w1 ⟨rfl, hb1⟩
  have B1 := Lib.hid (bstep' HB.out hb1 HB.out.size)
  clear hb1
  go_wp2
  go_ret2
  exact ⟨rfl, B1.out⟩
set_option maxHeartbeats 800000 in
theorem c_sNextFree_yes (L : Nat) (v : Value) (zs : List Int) (a : Nat) (w : World) (hv : IntsAt w v zs) (hB : Bok L zs) (h1 : a ≤ L) : Calls Tryd.prog 28 #[bm L v, .int .i64 a] w fun e w' => e = .returned (.tuple #[.int .i64 (optN (findP (fun k => !bitL zs k) a (L - a))), .bool (findP (fun k => !bitL zs k) a (L - a)).isSome]) ∧ Below w.heap.size w w' := by
  have HB := Lib.hid ((Below.refl w.heap.size w).alloc (Nat.le_refl _) (.cells (cb L v) 25))
  have hv' := Lib.hid (hv.below HB.out); clear hv
  have r0 : RowB (w.alloc (.cells (cb L v) 25)) w.heap.size L v := Row.new w 25 (cb L v)
  have hl1 := hB.2.1
  have HL : Hid ((zs.length : Int) = ((L : Int) + 15) / 16) := hB.2.2.1
  have hR : InRun L a L := ⟨by omega, by omega, by omega⟩
  obtain ⟨o, ho⟩ : ∃ o, o = findP (fun k => !bitL zs k) a (L - a) := ⟨_, rfl⟩
  have HO := Lib.hid ho
  rw [← ho]
  clear ho
  go_enter Tryd.func28, Tryd.ntmps28
  go_wp2_with fail
  refine (c_l2Run_yes L v zs a L _ hv'.out hB hR).mono ?_
  rintro e w1 ⟨rfl, hb1⟩
  have r1 := Lib.hid (Row.below r0 hb1)
  have B1 := Lib.hid (bstep' HB.out hb1 HB.out.size)
  have v1 := Lib.hid (hv'.out.below hb1)
  clear r0 hb1
  go_wp2
  go_loopw [6] (fun i wr => ∃ k : Nat, a + k ≤ L ∧ i = .int .i64 ((a + k : Nat) : Int) ∧ Hid (o = findP (fun k => !bitL zs k) (a + k) (L - (a + k))) ∧ RowB wr w.heap.size L v ∧ IntsAt wr v zs ∧ Below w.heap.size w wr) (fun i _ => L - (intOf i).toNat)
  case atStart => exact ⟨0, by omega, rfl, HO.out, r1.out, v1.out, B1.out⟩
  case round =>
    obtain ⟨k, hk, rfl, hinv, hr, hi, hb⟩ := hrel
    have q0 := hr.c0
    have q1 := hr.c1
    by_cases hlt : a + k < L
    · have HI := Lib.hid hi; have HR := Lib.hid hr; have HB2 := Lib.hid hb
      clear hi hr hb
      have hlt' : ((a + k : Nat) : Int) < (L : Int) := by omega
      go_wp2_with fail
      refine (c_l2Is L v zs (a + k) wr HI.out (by have := HL.out; omega) (by have := HL.out; omega) (hB.w _)).mono ?_
      rintro e w2 ⟨rfl, hb2⟩
      have HI2 := Lib.hid (HI.out.below hb2)
      have HR2 := Lib.hid (Row.below HR.out hb2)
      have HB3 := Lib.hid (bstep' HB2.out hb2 HB2.out.size)
      clear hb2 q0 q1
      cases hq : bitL zs (a + k)
      · have HS : Hid (o = some (a + k)) := by unfold Hid; rw [hinv.out, findP_hit (by simp [hq]) (by omega)]
        clear hq hinv
        go_wp2
        go_ret2
        exact ⟨by rw [HS.out]; rfl, HB3.out⟩
      · have HS : Hid (o = findP (fun k => !bitL zs k) (a + (k + 1)) (L - (a + (k + 1)))) := by
          unfold Hid
          rw [hinv.out, findP_skip1 (by simp [hq]) (by omega)]
          rw [show a + k + 1 = a + (k + 1) by omega, show L - (a + k) - 1 = L - (a + (k + 1)) by omega]
        clear hq hinv
        go_wp2
        go_roundw
        case rel => exact ⟨k + 1, by omega, by go_num, HS.out, HR2.out, HI2.out, HB3.out⟩
        case measure => simp [intOf]; omega
    · have HS : Hid (o = none) := by unfold Hid; rw [hinv.out, show L - (a + k) = 0 by omega]; rfl
      have hge : ¬ ((a + k : Nat) : Int) < (L : Int) := by omega
      go_wp2
      go_ret2
      exact ⟨by rw [HS.out]; rfl, hb⟩
end Go.Proofs.YtlmelabddaapeaaDoor
