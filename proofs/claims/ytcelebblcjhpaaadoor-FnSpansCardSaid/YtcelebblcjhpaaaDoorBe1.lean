/- How the laws whose answer is a bitmap end. -/
import Derived.Test.YtcelebblcjhpaaaDoorBl1
import Derived.Test.YtcelebblcjhpaaaDoorBw5
namespace Go.Proofs.YtcelebblcjhpaaaDoor
open Go.RowKit Pb

/-- A bitmap of words of its own, and a bool. -/
def BitsEnd (lr : Int) (rs : List Int) (ok : Bool) (w : World) (e : Ending) (w' : World) : Prop := ∃ v', e = .returned (.tuple #[bm lr v', .bool ok]) ∧ Own w' w.heap.size v' rs ∧ Below w.heap.size w w'
theorem bitsEnd_none {w w' : World} {e : Ending} (he : e = .returned (.tuple #[bm 0 (.slice none 0 0), .bool false])) (hb : Below w.heap.size w w') : BitsEnd 0 [] false w e w' := ⟨_, he, ⟨rfl, .inl ⟨rfl, rfl⟩⟩, hb⟩
theorem ownApart {v v' : Value} {a b c d : Nat} (h : ∀ k, v.ownBlock = some k → a ≤ k ∧ k < b) (h' : ∀ k, v'.ownBlock = some k → c ≤ k ∧ k < d) (hd : b ≤ c ∨ d ≤ a) : v.ownBlock = none ∨ v.ownBlock ≠ v'.ownBlock := by
  cases hq : v.ownBlock with
  | none => exact .inl rfl
  | some k =>
    refine .inr fun e => ?_
    have h1 := h k hq
    have h2 := h' k e.symm
    omega
theorem Own.setApart {w : World} {B : Nat} {v : Value} {zs : List Int} (h : Own w B v zs) (g : Nat) (l : Int) (x : Value) (hn : v.ownBlock ≠ some g) : Own ((w.setCell ⟨g, 0, none⟩ (.int .i64 l)).setCell ⟨g, 1, none⟩ x) B v zs := by
  obtain ⟨h1, h2⟩ := h
  refine ⟨h1, ?_⟩
  rcases h2 with h2 | ⟨g0, cap, cur, hv, hg, hh, r⟩
  · exact .inl h2
  · have e : g0 ≠ g := fun e => hn (by rw [hv, e]; rfl)
    exact .inr ⟨g0, cap, cur, hv, hg, by rw [heap_setCell_other _ ⟨g, 1, none⟩ g0 _ e, heap_setCell_other w ⟨g, 0, none⟩ g0 _ e]; exact hh, r⟩
theorem rowApart {v : Value} {a b g : Nat} (h : ∀ k, v.ownBlock = some k → a ≤ k ∧ k < b) (hg : g < a ∨ b ≤ g) : v.ownBlock ≠ some g := fun e => by
  have := h g e
  omega
end Go.Proofs.YtcelebblcjhpaaaDoor
