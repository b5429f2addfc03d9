/- Contracts of chapter 2: the project's own functions. -/
import Derived.Test.YtlmelabddaapeaaDoorBi1
import Derived.IntWalk
import Derived.Deep.RegionWith
namespace Go.Proofs.YtlmelabddaapeaaDoor
open Go.RowKit Pb


set_option maxHeartbeats 800000 in
theorem c_iSetRun_no (long : Int) (v : Value) (zs : List Int) (a b : Int) (on : Bool) (w : World) (hv : IntsAt w v zs) (hB : ¬ (Bok long zs ∧ InRun long a b)) : Calls Tryd.prog 8 #[bm long v, .int .i64 a, .int .i64 b, .bool on] w fun e w' => e = .returned (.tuple #[bm 0 (.slice none 0 0), .bool false]) ∧ Below w.heap.size w w' := by
  have HB := Lib.hid (((Below.refl w.heap.size w).alloc (Nat.le_refl _) (.cells (cb long v) 25)).alloc (by simp) (.cells (cb 0 (.slice none 0 0)) 25))
  have hv' := Lib.hid (hv.below HB.out); clear hv
  have r0 : RowB ((w.alloc (.cells (cb long v) 25)).alloc (.cells (cb 0 (.slice none 0 0)) 25)) w.heap.size long v := (Row.new w 25 (cb long v)).alloc _
  have s0 : RowB ((w.alloc (.cells (cb long v) 25)).alloc (.cells (cb 0 (.slice none 0 0)) 25)) (w.heap.size + 1) 0 (.slice none 0 0) := Row.new1 w _ _ _
  obtain ⟨f, hf⟩ : ∃ f : Nat → Int, f = fun k => zs.getD k 0 := ⟨_, rfl⟩
  have HF := Lib.hid hf; clear hf
  by_cases hb : Bok long zs
  · have hR : ¬ InRun long a b := fun h => hB ⟨hb, h⟩
    clear hB
    go_enter Tryd.func8, Tryd.ntmps8
    go_wp2_with fail
    refine (c_wordsOf_yes long v zs f HF.out _ hv'.out hb).mono ?_
    rintro e w1 ⟨rfl, hb1⟩
    have s1 := (Row.below s0 hb1).alloc (.cells (c6 f) 69)
    have B1 := bstep HB.out hb1 HB.out.size
    have HB1 := Lib.hid (B1.alloc B1.size (.cells (c6 f) 69))
    have hsz := hb1.size
    have hw1 : w.heap.size < w1.heap.size := by simp at hsz; omega
    have q0 := RowB.c0 (Row.below r0 hb1)
    have q1 := RowB.c1 (Row.below r0 hb1)
    clear r0 s0 hb1 hsz B1
    go_wp2_with fail
    refine (c_isRunIn_no long v a b _ hR).mono ?_
    rintro e w2 ⟨rfl, hb2⟩
    have B2 := Lib.hid (bstep HB1.out hb2 HB1.out.size)
    have s2 := Row.below s1 hb2
    clear hb2 q0 q1 s1
    go_wp2_with (refine wl_storeB rfl _ _ rfl (w.heap.size + 1) 0 (.slice none 0 0) _ _ s2 rfl rfl rfl ?_)
    exact bodyPost_ret (res_row_slot Tryd.results8 (Row.put s2 (cb 0 (.slice none 0 0))) rfl rfl Tryd.underlying25 rfl info_bits) rfl ⟨rfl, below_setRow B2.out (by omega) _⟩
  · go_enter Tryd.func8, Tryd.ntmps8
    go_wp2_with fail
    refine (c_wordsOf_no long v zs _ hv'.out hb).mono ?_
    rintro e w1 ⟨rfl, hb1⟩
    have B1 := bstep HB.out hb1 HB.out.size
    have HB1 := Lib.hid (B1.alloc B1.size (.cells (c6 fun _ => 0) 69))
    have s1 := (Row.below s0 hb1).alloc (.cells (c6 fun _ => 0) 69)
    clear r0 s0 hb1 B1
    go_wp2_with (refine wl_storeB rfl _ _ rfl (w.heap.size + 1) 0 (.slice none 0 0) _ _ s1 rfl rfl rfl ?_)
    exact bodyPost_ret (res_row_slot Tryd.results8 (Row.put s1 (cb 0 (.slice none 0 0))) rfl rfl Tryd.underlying25 rfl info_bits) rfl ⟨rfl, below_setRow HB1.out (by omega) _⟩
end Go.Proofs.YtlmelabddaapeaaDoor
