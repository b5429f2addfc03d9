/- Contracts of chapter 2: NextFree, both sides. -/
import Derived.Test.YtcelebblcjhpaaaDoorBd1
import Derived.Test.YtcelebblcjhpaaaDoorBi1
import Derived.Test.YtcelebblcjhpaaaDoorBi5
import Derived.Test.YtcelebblcjhpaaaDoorBs3
namespace Go.Proofs.YtcelebblcjhpaaaDoor
open Go.RowKit Pb

set_option maxHeartbeats 800000 in
theorem c_sNextFree_no (long : Int) (v : Value) (zs : List Int) (p : Int) (w : World) (hv : IntsAt w v zs) (hN : ¬ (Bok long zs ∧ 0 ≤ p ∧ p ≤ long)) : Calls Tryd.prog 53 #[bm long v, .int .i64 p] w fun e w' => e = .returned (.tuple #[.int .i64 0, .bool false]) ∧ Below w.heap.size w w' := by
  have HB := Lib.hid ((Below.refl w.heap.size w).alloc (Nat.le_refl _) (.cells (cb long v) 25))
  have hv' := Lib.hid (hv.below HB.out); clear hv
  have hN' : ¬ (Bok long zs ∧ InRun long p long) := fun h => hN ⟨h.1, h.2.1, h.2.2.1⟩
  clear hN
  go_enter Tryd.func53, Tryd.ntmps53
  go_wp2_with fail
  refine (c_l2Run_no long v zs p long _ hv'.out hN').mono ?_
  rintro e w1 ⟨rfl, hb1⟩
  have B1 := Lib.hid (bstep' HB.out hb1 HB.out.size)
  clear hb1
  go_wp2
  go_ret2
  exact ⟨rfl, B1.out⟩
set_option maxHeartbeats 800000 in
theorem c_sNextFree_yes (L : Nat) (v : Value) (zs : List Int) (a : Nat) (w : World) (hv : IntsAt w v zs) (hB : Bok L zs) (h1 : a ≤ L) : Calls Tryd.prog 53 #[bm L v, .int .i64 a] w fun e w' => e = .returned (.tuple #[.int .i64 (optN (findP (fun k => !bitL zs k) a (L - a))), .bool (findP (fun k => !bitL zs k) a (L - a)).isSome]) ∧ Below w.heap.size w w' := by
  have HB := Lib.hid ((Below.refl w.heap.size w).alloc (Nat.le_refl _) (.cells (cb L v) 25))
  have hv' := Lib.hid (hv.below HB.out); clear hv
  have r0 : RowB (w.alloc (.cells (cb L v) 25)) w.heap.size L v := Row.new w 25 (cb L v)
  have hl1 := hB.2.1
  have HL : Hid ((zs.length : Int) = ((L : Int) + 15) / 16) := hB.2.2.1
  have hR : InRun L a L := ⟨by omega, by omega, by omega⟩
  obtain ⟨o, ho⟩ : ∃ o, o = findP (fun k => !bitL zs k) a (L - a) := ⟨_, rfl⟩
  have HO := Lib.hid ho
  rw [← ho]
  clear ho
  go_enter Tryd.func53, Tryd.ntmps53
  go_wp2_with fail
  refine (c_l2Run_yes L v zs a L _ hv'.out hB hR).mono ?_
  rintro e w1 ⟨rfl, hb1⟩
  have r1 := Lib.hid (Row.below r0 hb1)
  have B1 := Lib.hid (bstep' HB.out hb1 HB.out.size)
  have v1 := Lib.hid (hv'.out.below hb1)
  clear r0 hb1
  go_wp2
  go_loopw [6] (fun i wr => ∃ k : Nat, a + k ≤ L ∧ i = .int .i64 ((a + k : Nat) : Int) ∧ Hid (o = findP (fun k => !bitL zs k) (a + k) (L - (a + k))) ∧ RowB wr w.heap.size L v ∧ IntsAt wr v zs ∧ Below w.heap.size w wr) (fun i _ => L - (intOf i).toNat)
  case atStart => exact ⟨0, by omega, rfl, HO.out, r1.out, v1.out, B1.out⟩
  case round =>
    obtain ⟨k, hk, rfl, hinv, hr, hi, hb⟩ := hrel
    have q0 := hr.c0
    have q1 := hr.c1
    by_cases hlt : a + k < L
    · have HI := Lib.hid hi; have HR := Lib.hid hr; have HB2 := Lib.hid hb
      clear hi hr hb
      have hlt' : ((a + k : Nat) : Int) < (L : Int) := by omega
      go_wp2_with fail
      refine (c_l2Is L v zs (a + k) wr HI.out (by have := HL.out; omega) (by have := HL.out; omega) (hB.w _)).mono ?_
      rintro e w2 ⟨rfl, hb2⟩
      have HI2 := Lib.hid (HI.out.below hb2)
      have HR2 := Lib.hid (Row.below HR.out hb2)
      have HB3 := Lib.hid (bstep' HB2.out hb2 HB2.out.size)
      clear hb2 q0 q1
      cases hq : bitL zs (a + k)
      · have HS : Hid (o = some (a + k)) := by unfold Hid; rw [hinv.out, findP_hit (by simp [hq]) (by omega)]
        clear hq hinv
        go_wp2
        go_ret2
        exact ⟨by rw [HS.out]; rfl, HB3.out⟩
      · have HS : Hid (o = findP (fun k => !bitL zs k) (a + (k + 1)) (L - (a + (k + 1)))) := by
          unfold Hid
          rw [hinv.out, findP_skip1 (by simp [hq]) (by omega)]
          rw [show a + k + 1 = a + (k + 1) by omega, show L - (a + k) - 1 = L - (a + (k + 1)) by omega]
        clear hq hinv
        go_wp2
        go_roundw
        case rel => exact ⟨k + 1, by omega, by go_num, HS.out, HR2.out, HI2.out, HB3.out⟩
        case measure => simp [intOf]; omega
    · have HS : Hid (o = none) := by unfold Hid; rw [hinv.out, show L - (a + k) = 0 by omega]; rfl
      have hge : ¬ ((a + k : Nat) : Int) < (L : Int) := by omega
      go_wp2
      go_ret2
      exact ⟨by rw [HS.out]; rfl, hb⟩
end Go.Proofs.YtcelebblcjhpaaaDoor
