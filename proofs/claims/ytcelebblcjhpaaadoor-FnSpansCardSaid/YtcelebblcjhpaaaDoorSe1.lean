/- How the laws whose answer is a span end. -/
import Derived.Test.YtcelebblcjhpaaaDoorSw1
import Derived.Test.YtcelebblcjhpaaaDoorSw3
import Derived.Test.YtcelebblcjhpaaaDoorBe1
namespace Go.Proofs.YtcelebblcjhpaaaDoor
open Go.RowKit Pb

/-- A span of words of its own, and a bool; a span, a number and a bool. -/
def SpanEnd (fr cr lr : Int) (rs : List Int) (ok : Bool) (w : World) (e : Ending) (w' : World) : Prop := ∃ v', e = .returned (.tuple #[sp fr cr lr v', .bool ok]) ∧ Own w' w.heap.size v' rs ∧ Below w.heap.size w w'
def SpanEnd3 (fr cr lr : Int) (rs : List Int) (nn : Int) (ok : Bool) (w : World) (e : Ending) (w' : World) : Prop := ∃ v', e = .returned (.tuple #[sp fr cr lr v', .int .i64 nn, .bool ok]) ∧ Own w' w.heap.size v' rs ∧ Below w.heap.size w w'
theorem spanEnd_none {w w' : World} {e : Ending} (he : e = .returned (.tuple #[sp 0 0 0 (.slice none 0 0), .bool false])) (hb : Below w.heap.size w w') : SpanEnd 0 0 0 [] false w e w' := ⟨_, he, ⟨rfl, .inl ⟨rfl, rfl⟩⟩, hb⟩
theorem spanEnd3_none {w w' : World} {e : Ending} (he : e = .returned (.tuple #[sp 0 0 0 (.slice none 0 0), .int .i64 0, .bool false])) (hb : Below w.heap.size w w') : SpanEnd3 0 0 0 [] 0 false w e w' := ⟨_, he, ⟨rfl, .inl ⟨rfl, rfl⟩⟩, hb⟩
theorem Own.setApart4 {w : World} {B : Nat} {v : Value} {zs : List Int} (h : Own w B v zs) (g : Nat) (x0 x1 x2 x3 : Value) (hn : v.ownBlock ≠ some g) : Own ((((w.setCell ⟨g, 0, none⟩ x0).setCell ⟨g, 1, none⟩ x1).setCell ⟨g, 2, none⟩ x2).setCell ⟨g, 3, none⟩ x3) B v zs := by
  obtain ⟨h1, h2⟩ := h
  refine ⟨h1, ?_⟩
  rcases h2 with h2 | ⟨g0, cap, cur, hv, hg, hh, r⟩
  · exact .inl h2
  · have e : g0 ≠ g := fun e => hn (by rw [hv, e]; rfl)
    exact .inr ⟨g0, cap, cur, hv, hg, by rw [heap_setCell_other _ ⟨g, 3, none⟩ g0 _ e, heap_setCell_other _ ⟨g, 2, none⟩ g0 _ e, heap_setCell_other _ ⟨g, 1, none⟩ g0 _ e, heap_setCell_other w ⟨g, 0, none⟩ g0 _ e]; exact hh, r⟩
theorem row_set4 {w : World} {g g' : Nat} {T : TypeId} {cs : Array Value} (h : Row w g T cs) (hn : g ≠ g') (x0 x1 x2 x3 : Value) : Row ((((w.setCell ⟨g', 0, none⟩ x0).setCell ⟨g', 1, none⟩ x1).setCell ⟨g', 2, none⟩ x2).setCell ⟨g', 3, none⟩ x3) g T cs :=
  Row.other (Row.other (Row.other (Row.other h ⟨g', 0, none⟩ hn _) ⟨g', 1, none⟩ hn _) ⟨g', 2, none⟩ hn _) ⟨g', 3, none⟩ hn _
end Go.Proofs.YtcelebblcjhpaaaDoor
