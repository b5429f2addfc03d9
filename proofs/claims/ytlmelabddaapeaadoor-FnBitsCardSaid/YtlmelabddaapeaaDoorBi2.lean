/- Contracts of chapter 2: the project's own functions. -/
import Derived.Test.YtlmelabddaapeaaDoorBi1
import Derived.IntWalk
namespace Go.Proofs.YtlmelabddaapeaaDoor
open Go.RowKit Pb


set_option maxHeartbeats 800000 in
theorem c_iIsSet_no (long : Int) (v : Value) (zs : List Int) (p : Int) (w : World) (hv : IntsAt w v zs) (hB : ¬ (Bok long zs ∧ 0 ≤ p ∧ p < long)) : Calls Tryd.prog 13 #[bm long v, .int .i64 p] w fun e w' => e = .returned (.tuple #[.bool false, .bool false]) ∧ Below w.heap.size w w' := by
  have HB := Lib.hid ((Below.refl w.heap.size w).alloc (Nat.le_refl _) (.cells (cb long v) 25))
  have hv' := Lib.hid (hv.below HB.out); clear hv
  have r0 : RowB (w.alloc (.cells (cb long v) 25)) w.heap.size long v := Row.new w 25 (cb long v)
  obtain ⟨f, hf⟩ : ∃ f : Nat → Int, f = fun k => zs.getD k 0 := ⟨_, rfl⟩
  have HF := Lib.hid hf
  clear hf
  by_cases hb : Bok long zs
  · have hp : p < 0 ∨ long ≤ p := by
      by_cases h0 : 0 ≤ p
      · by_cases h1 : p < long
        · exact absurd ⟨hb, h0, h1⟩ hB
        · omega
      · omega
    clear hB
    by_cases h0 : p < 0
    all_goals
      go_enter Tryd.func13, Tryd.ntmps13
      go_wp2_with fail
      refine (c_wordsOf_yes long v zs f HF.out _ hv'.out hb).mono ?_
      rintro e w1 ⟨rfl, hb1⟩
      have q0 := RowB.c0 (Row.below r0 hb1)
      have B1 := Lib.hid (bstep HB.out hb1 HB.out.size)
      have hsz := hb1.size
      have hw1 : w.heap.size < w1.heap.size := by simp at hsz; omega
      clear r0 hb1 hsz
      go_wp2
      go_ret2
      exact ⟨rfl, B1.out.alloc B1.out.size _⟩
  · go_enter Tryd.func13, Tryd.ntmps13
    go_wp2_with fail
    refine (c_wordsOf_no long v zs _ hv'.out hb).mono ?_
    rintro e w1 ⟨rfl, hb1⟩
    have B1 := Lib.hid (bstep HB.out hb1 HB.out.size)
    clear r0 hb1
    go_wp2
    go_ret2
    exact ⟨rfl, B1.out.alloc B1.out.size _⟩
set_option maxHeartbeats 1600000 in
theorem c_iIsSet_yes (long : Int) (v : Value) (zs : List Int) (p : Int) (w : World) (hv : IntsAt w v zs) (hB : Bok long zs) (h0 : 0 ≤ p) (h1 : p < long) : Calls Tryd.prog 13 #[bm long v, .int .i64 p] w fun e w' => e = .returned (.tuple #[.bool (bitL zs p.toNat), .bool true]) ∧ Below w.heap.size w w' := by
  have HB := Lib.hid ((Below.refl w.heap.size w).alloc (Nat.le_refl _) (.cells (cb long v) 25))
  have hv' := Lib.hid (hv.below HB.out); clear hv
  have r0 : RowB (w.alloc (.cells (cb long v) 25)) w.heap.size long v := Row.new w 25 (cb long v)
  obtain ⟨f, hf⟩ : ∃ f : Nat → Int, f = fun k => zs.getD k 0 := ⟨_, rfl⟩
  have HF := Lib.hid hf
  have hl := hB.2.1
  have hE : ∀ w, (Op.equalIn 10000 69 (.agg #[.int .u16 (bits .and .u16 (f 0) (runW p (p + 1) 0)), .int .u16 (bits .and .u16 (f 1) (runW p (p + 1) 1)), .int .u16 (bits .and .u16 (f 2) (runW p (p + 1) 2)), .int .u16 (bits .and .u16 (f 3) (runW p (p + 1) 3)), .int .u16 (bits .and .u16 (f 4) (runW p (p + 1) 4)), .int .u16 (bits .and .u16 (f 5) (runW p (p + 1) 5))]) (.agg #[.int .u16 0, .int .u16 0, .int .u16 0, .int .u16 0, .int .u16 0, .int .u16 0])).run Tryd.prog w = .ok (!bitL zs p.toNat) w := fun w => by
    rw [← one_bit hB h0 h1]
    subst hf
    exact eq6_run w (fun j => bits .and .u16 (zs.getD j 0) (runW p (p + 1) j)) (fun _ => 0)
  clear hf
  generalize bitL zs p.toNat = bb at *
  have i1 : IntKind.i64.wrap (p + 1) = p + 1 := IntWalk.i64_in _ (by omega)
  go_enter Tryd.func13, Tryd.ntmps13
  go_wp2_with fail
  refine (c_wordsOf_yes long v zs f HF.out _ hv'.out hB).mono ?_
  rintro e w1 ⟨rfl, hb1⟩
  have q0 := RowB.c0 (Row.below r0 hb1)
  have B1 := Lib.hid (bstep HB.out hb1 HB.out.size)
  have hsz := hb1.size
  have hw1 : w.heap.size < w1.heap.size := by simp at hsz; omega
  clear r0 hb1 hsz
  have b6 : Blk (w1.alloc (.cells (c6 f) 69)) w1.heap.size f := Row.new w1 _ _
  have p0 := b6.at (k := 0) (by omega)
  have p1 := b6.at (k := 1) (by omega)
  have p2 := b6.at (k := 2) (by omega)
  have p3 := b6.at (k := 3) (by omega)
  have p4 := b6.at (k := 4) (by omega)
  have p5 := b6.at (k := 5) (by omega)
  have B2 := B1.out.alloc B1.out.size (.cells (c6 f) 69)
  have HB2 := Lib.hid B2; clear B2
  go_wp2_with fail
  go_region_held3 (fun w' => w'.cell? ⟨w1.heap.size, 0, none⟩ = some (.int .u16 (f 0)) ∧ w'.cell? ⟨w1.heap.size, 1, none⟩ = some (.int .u16 (f 1)) ∧ w'.cell? ⟨w1.heap.size, 2, none⟩ = some (.int .u16 (f 2)) ∧ w'.cell? ⟨w1.heap.size, 3, none⟩ = some (.int .u16 (f 3)) ∧ w'.cell? ⟨w1.heap.size, 4, none⟩ = some (.int .u16 (f 4)) ∧ w'.cell? ⟨w1.heap.size, 5, none⟩ = some (.int .u16 (f 5)) ∧ Below w.heap.size w w')
    (first
      | exact ⟨p0, p1, p2, p3, p4, p5, below_drew HB2.out⟩
      | (go_split_ands
         exact ⟨cellBelow hbk (by assumption), cellBelow hbk (by assumption), cellBelow hbk (by assumption), cellBelow hbk (by assumption), cellBelow hbk (by assumption), cellBelow hbk (by assumption), bstep (by assumption) hbk (Below.size (by assumption))⟩)
      | (go_split_ands; refine ⟨?_, ?_, ?_, ?_, ?_, ?_, ?_⟩ <;> assumption))
    (first
      | (go_at_call 49; refine (c_runBits _ _ _ (by omega) (by omega) (by omega) (by omega)).mono ?_; rintro e w2 ⟨rfl, hbk⟩)
      | (go_at_call 59; refine (c_both f (runW p (p + 1)) _).mono ?_; rintro e w3 ⟨rfl, hbk⟩))
  clear b6 p0 p1 p2 p3 p4 p5
  go_split_ands
  go_wp2
  go_ret2
  exact ⟨by first | rfl | (cases bb <;> rfl), by assumption⟩
end Go.Proofs.YtlmelabddaapeaaDoor
