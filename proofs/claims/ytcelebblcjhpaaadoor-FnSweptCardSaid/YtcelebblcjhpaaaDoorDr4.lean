/- What the laws of chapter 2 draw: the draws themselves. -/
import Derived.Test.YtcelebblcjhpaaaDoorDr3
namespace Go.Proofs.YtcelebblcjhpaaaDoor
open Go.RowKit Pb

/-- A drawn bitmap, seen from outside. -/
def BitsOut (w : World) (e : Ending) (w' : World) : Prop := ∃ (lr : Int) (v' : Value) (zs : List Int), zs.length ≤ 6 ∧ (0 ≤ lr ∧ lr ≤ 96) ∧ e = .returned (bm lr v') ∧ Own w' w.heap.size v' zs ∧ Below w.heap.size w w'
/-- A drawn bitmap and a small number. -/
def BitsIntOut (w : World) (e : Ending) (w' : World) : Prop := ∃ (lr : Int) (v' : Value) (zs : List Int) (x : Int), zs.length ≤ 6 ∧ (0 ≤ lr ∧ lr ≤ 96) ∧ (-1 ≤ x ∧ x ≤ 97) ∧ e = .returned (.tuple #[bm lr v', .int .i64 x]) ∧ Own w' w.heap.size v' zs ∧ Below w.heap.size w w'
/-- Where a draw stands behind its first two variables: the result's row, and the reader. -/
def drawnAt (w : World) (v : Value) : World := (w.alloc (.cells (cb 0 (.slice none 0 0)) 25)).alloc (.cells #[v, .int .i64 0, .int .u64 0] 92)
theorem drawnAt_cur {w : World} {v : Value} {zs : List Int} (h : BytesAt w v zs) : CurIs (drawnAt w v) (w.heap.size + 1) 0 := by
  have := cur_new (h.below ((Below.refl w.heap.size w).alloc (Nat.le_refl _) (.cells (cb 0 (.slice none 0 0)) 25)))
  simpa [drawnAt] using this
theorem drawnAt_row (w : World) (v : Value) : RowB (drawnAt w v) w.heap.size 0 (.slice none 0 0) :=
  Row.alloc (show RowB (w.alloc (.cells (cb 0 (.slice none 0 0)) 25)) w.heap.size 0 (.slice none 0 0) from Row.new w _ _) _
theorem drawnAt_below (w : World) (v : Value) : Below w.heap.size w (drawnAt w v) :=
  ((Below.refl w.heap.size w).alloc (Nat.le_refl _) _).alloc (by simp) _
theorem drawnAt_out {w w' : World} {v : Value} (h : (drawnAt w v).grownBy w' (some (w.heap.size + 1))) : Below w.heap.size w w' :=
  (drawnAt_below w v).grown h (by simp [drawnAt]; omega) (fun k hk => by simp at hk; omega)

end Go.Proofs.YtcelebblcjhpaaaDoor
