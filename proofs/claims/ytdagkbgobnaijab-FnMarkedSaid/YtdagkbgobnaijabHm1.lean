/- Lists of ints compared: the library's Equal and the reference's; what two heaps have in common. -/
import Derived.Test.YtdagkbgobnaijabHr3
import Derived.Test.YtdagkbgobnaijabHs4
namespace Go.Proofs.Ytdagkbgobnaijab.Ph
/-- The same roots, the same objects reached, and the same fields of these. -/
def Same (a b : H) : Prop := a.r = b.r ∧ ∀ k, (Reach a.f a.r k ↔ Reach b.f b.r k) ∧ (Reach a.f a.r k → a.f.getD k [] = b.f.getD k [])
noncomputable def sameP (a b : H) : Bool := @decide (Same a b) (Classical.propDecidable _)
theorem sameP_iff {a b : H} : sameP a b = true ↔ Same a b := by unfold sameP; simp
theorem sameP_false {a b : H} (h : ¬ Same a b) : sameP a b = false := by
  cases hq : sameP a b with
  | false => rfl
  | true => exact absurd (sameP_iff.1 hq) h
/-- The project's test is enough. -/
theorem same_of {a b : H} (hr : a.r = b.r) (hf : ∀ k, Reach a.f a.r k → a.f.getD k [] = b.f.getD k []) : Same a b := by
  refine ⟨hr, fun k => ⟨⟨fun h => ?_, fun h => ?_⟩, hf k⟩⟩
  · induction h with
    | root hz => exact .root (by rw [← hr]; exact hz)
    | step hy hk ih => exact .step ih (by rw [← hf _ hy]; exact hk)
  · induction h with
    | root hz => exact .root (by rw [hr]; exact hz)
    | step hy hk ih => exact .step ih (by rw [hf _ ih]; exact hk)
theorem reach_live {h : H} (g : Ph.Good h) {k : Nat} (hk : Reach h.f h.r k) : h.l.getD k false = true ∧ k < h.f.length := by
  have key : ∀ z : Int, (z = -1 ∨ (0 ≤ z ∧ z < h.f.length ∧ h.l.getD z.toNat false = true)) → z = (k : Int) → h.l.getD k false = true ∧ k < h.f.length := fun z hz e => by
    subst e
    rcases hz with h1 | ⟨_, h2, h3⟩
    · omega
    · exact ⟨by simpa using h3, by omega⟩
  cases hk with
  | root hz => exact key _ (refs_bound g g.rr _ hz) rfl
  | step _ hz => exact key _ (g.field hz) rfl
end Go.Proofs.Ytdagkbgobnaijab.Ph
namespace Go.Proofs.Ytdagkbgobnaijab
open Go.RowKit Ph

end Go.Proofs.Ytdagkbgobnaijab
