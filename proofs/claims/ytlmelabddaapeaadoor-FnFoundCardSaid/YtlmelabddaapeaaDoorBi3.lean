/- Contracts of chapter 2: the project's own functions. -/
import Derived.Test.YtlmelabddaapeaaDoorBi1
import Derived.IntWalk
namespace Go.Proofs.YtlmelabddaapeaaDoor
open Go.RowKit Pb


set_option maxHeartbeats 800000 in
theorem c_iCountSet_no (long : Int) (v : Value) (zs : List Int) (a b : Int) (w : World) (hv : IntsAt w v zs) (hB : ¬ (Bok long zs ∧ InRun long a b)) : Calls Tryd.prog 14 #[bm long v, .int .i64 a, .int .i64 b] w fun e w' => e = .returned (.tuple #[.int .i64 0, .bool false]) ∧ Below w.heap.size w w' := by
  have HB := Lib.hid ((Below.refl w.heap.size w).alloc (Nat.le_refl _) (.cells (cb long v) 25))
  have hv' := Lib.hid (hv.below HB.out); clear hv
  have r0 : RowB (w.alloc (.cells (cb long v) 25)) w.heap.size long v := Row.new w 25 (cb long v)
  obtain ⟨f, hf⟩ : ∃ f : Nat → Int, f = fun k => zs.getD k 0 := ⟨_, rfl⟩
  have HF := Lib.hid hf
  clear hf
  by_cases hb : Bok long zs
  · have hR : ¬ InRun long a b := fun h => hB ⟨hb, h⟩
    clear hB
    go_enter Tryd.func14, Tryd.ntmps14
    go_wp2_with fail
    refine (c_wordsOf_yes long v zs f HF.out _ hv'.out hb).mono ?_
    rintro e w1 ⟨rfl, hb1⟩
    have r1 : RowB (w1.alloc (.cells (c6 f) 69)) w.heap.size long v := (Row.below r0 hb1).alloc _
    have b6 : Blk (w1.alloc (.cells (c6 f) 69)) w1.heap.size f := Row.new w1 _ _
    have B1 := bstep HB.out hb1 HB.out.size
    have HB1 := Lib.hid (B1.alloc B1.size (.cells (c6 f) 69))
    have hsz := hb1.size
    have hw1 : w.heap.size < w1.heap.size := by simp at hsz; omega
    have q0 := RowB.c0 (Row.below r0 hb1)
    have q1 := RowB.c1 (Row.below r0 hb1)
    clear r0 hb1 hsz B1
    go_wp2_with fail
    refine (c_isRunIn_no long v a b _ hR).mono ?_
    rintro e w2 ⟨rfl, hb2⟩
    have B2 := Lib.hid (bstep HB1.out hb2 HB1.out.size)
    clear hb2 r1 b6 q0 q1
    go_wp2
    go_ret2
    exact ⟨rfl, B2.out⟩
  · go_enter Tryd.func14, Tryd.ntmps14
    go_wp2_with fail
    refine (c_wordsOf_no long v zs _ hv'.out hb).mono ?_
    rintro e w1 ⟨rfl, hb1⟩
    have B1 := Lib.hid (bstep HB.out hb1 HB.out.size)
    clear r0 hb1
    go_wp2
    go_ret2
    exact ⟨rfl, B1.out.alloc B1.out.size _⟩
set_option maxHeartbeats 1600000 in
theorem c_iCountSet_yes (long : Int) (v : Value) (zs : List Int) (a b : Int) (w : World) (hv : IntsAt w v zs) (hB : Bok long zs) (hR : InRun long a b) : Calls Tryd.prog 14 #[bm long v, .int .i64 a, .int .i64 b] w fun e w' => e = .returned (.tuple #[.int .i64 (countTo (bitF fun k => bits .and .u16 (zs.getD k 0) (runW a b k)) 96), .bool true]) ∧ Below w.heap.size w w' := by
  have HB := Lib.hid ((Below.refl w.heap.size w).alloc (Nat.le_refl _) (.cells (cb long v) 25))
  have hv' := Lib.hid (hv.below HB.out); clear hv
  have r0 : RowB (w.alloc (.cells (cb long v) 25)) w.heap.size long v := Row.new w 25 (cb long v)
  obtain ⟨f, hf⟩ : ∃ f : Nat → Int, f = fun k => zs.getD k 0 := ⟨_, rfl⟩
  have HF := Lib.hid hf
  have hl := hB.2.1
  obtain ⟨hR0, hR1, hR2⟩ := id hR
  have HC : Hid (∀ g : Nat → Int, (fun k => bits .and .u16 (zs.getD k 0) (g k)) = fun k => bits .and .u16 (f k) (g k)) := fun g => by rw [hf]
  rw [HC.out]
  clear hf HC
  have h96 := countTo_bd (bitF fun k => bits .and .u16 (f k) (runW a b k)) 96
  go_enter Tryd.func14, Tryd.ntmps14
  go_wp2_with fail
  refine (c_wordsOf_yes long v zs f HF.out _ hv'.out hB).mono ?_
  rintro e w1 ⟨rfl, hb1⟩
  have r1 : RowB (w1.alloc (.cells (c6 f) 69)) w.heap.size long v := (Row.below r0 hb1).alloc _
  have b6 : Blk (w1.alloc (.cells (c6 f) 69)) w1.heap.size f := Row.new w1 _ _
  have B1 := bstep HB.out hb1 HB.out.size
  have HB1 := Lib.hid (B1.alloc B1.size (.cells (c6 f) 69))
  have hsz := hb1.size
  have hw1 : w.heap.size < w1.heap.size := by simp at hsz; omega
  have q0 := RowB.c0 (Row.below r0 hb1)
  have q1 := RowB.c1 (Row.below r0 hb1)
  clear r0 hb1 hsz B1
  go_wp2_with fail
  refine (c_isRunIn_yes long v a b _ hR).mono ?_
  rintro e w2 ⟨rfl, hb2⟩
  have b6' : Blk w2 w1.heap.size f := Row.below b6 hb2
  have B2 := Lib.hid (bstep HB1.out hb2 HB1.out.size)
  have p0 := b6'.at (k := 0) (by omega)
  have p1 := b6'.at (k := 1) (by omega)
  have p2 := b6'.at (k := 2) (by omega)
  have p3 := b6'.at (k := 3) (by omega)
  have p4 := b6'.at (k := 4) (by omega)
  have p5 := b6'.at (k := 5) (by omega)
  clear hb2 r1 b6 q0 q1
  go_wp2_with fail
  go_region_held3 (fun w' => w'.cell? ⟨w1.heap.size, 0, none⟩ = some (.int .u16 (f 0)) ∧ w'.cell? ⟨w1.heap.size, 1, none⟩ = some (.int .u16 (f 1)) ∧ w'.cell? ⟨w1.heap.size, 2, none⟩ = some (.int .u16 (f 2)) ∧ w'.cell? ⟨w1.heap.size, 3, none⟩ = some (.int .u16 (f 3)) ∧ w'.cell? ⟨w1.heap.size, 4, none⟩ = some (.int .u16 (f 4)) ∧ w'.cell? ⟨w1.heap.size, 5, none⟩ = some (.int .u16 (f 5)) ∧ Below w.heap.size w w')
    (first
      | exact ⟨p0, p1, p2, p3, p4, p5, below_drew B2.out⟩
      | (go_split_ands
         exact ⟨cellBelow hbk (by assumption), cellBelow hbk (by assumption), cellBelow hbk (by assumption), cellBelow hbk (by assumption), cellBelow hbk (by assumption), cellBelow hbk (by assumption), bstep (by assumption) hbk (Below.size (by assumption))⟩)
      | (go_split_ands; refine ⟨?_, ?_, ?_, ?_, ?_, ?_, ?_⟩ <;> assumption))
    (first
      | (go_at_call 49; refine (c_runBits _ _ _ (by omega) (by omega) (by omega) (by omega)).mono ?_; rintro e w3 ⟨rfl, hbk⟩)
      | (go_at_call 59; refine (c_both f (runW a b) _).mono ?_; rintro e w3 ⟨rfl, hbk⟩)
      | (go_at_call 60; refine (c_count (fun k => bits .and .u16 (f k) (runW a b k)) _ (fun _ _ => w_and _ _)).mono ?_; rintro e w3 ⟨rfl, hbk⟩))
  clear b6' p0 p1 p2 p3 p4 p5
  go_split_ands
  go_wp2
  go_ret2
  exact ⟨rfl, by assumption⟩
end Go.Proofs.YtlmelabddaapeaaDoor
