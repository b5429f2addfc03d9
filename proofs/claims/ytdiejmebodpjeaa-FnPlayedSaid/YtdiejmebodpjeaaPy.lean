/- Steps taken and given by turns. -/
import Derived.Test.YtdiejmebodpjeaaMw7
namespace Go.Proofs.Ytdiejmebodpjeaa.Pr
def stepO (l : List R) (s : R) : Option (List R × Int) := if s.1 < 0 then takeR l s.2 else (giveR l s).map fun ts => (ts, 0)
def stepL (l : List R) (s : R) : List R × Int := match stepO l s with | some x => x | none => (l, -1)
def playTo (ss : List R) : List R × List Int := ss.foldl (fun a s => ((stepL a.1 s).1, a.2 ++ [(stepL a.1 s).2])) ([(0, 32)], [])
theorem playTo_take_succ {ss : List R} {k : Nat} (h : k < ss.length) : playTo (ss.take (k + 1)) = ((stepL (playTo (ss.take k)).1 (ss.getD k (0, 0))).1, (playTo (ss.take k)).2 ++ [(stepL (playTo (ss.take k)).1 (ss.getD k (0, 0))).2]) := by
  have e : ss.getD k (0, 0) = ss[k] := by simp [List.getD, List.getElem?_eq_getElem h]
  rw [List.take_succ_eq_append_getElem h, e]
  generalize ss.take k = u
  simp [playTo]
theorem stepO_good {l : List R} {s : R} {ts : List R} {p : Int} (h : stepO l s = some (ts, p)) : good 0 ts = true ∧ 0 ≤ p ∧ p ≤ 31 := by
  unfold stepO at h
  split at h
  · exact takeR_good h
  · obtain ⟨x, hx, e⟩ := Option.map_eq_some_iff.1 h
    simp only [Prod.mk.injEq] at e
    obtain ⟨rfl, rfl⟩ := e
    exact ⟨giveR_good hx, by omega, by omega⟩
theorem stepL_good {l : List R} (hg : good 0 l = true) (s : R) : good 0 (stepL l s).1 = true ∧ -1 ≤ (stepL l s).2 ∧ (stepL l s).2 ≤ 31 := by
  unfold stepL
  cases h : stepO l s with
  | none => exact ⟨hg, by simp only []; omega, by simp only []; omega⟩
  | some x => obtain ⟨ts, p⟩ := x; have := stepO_good h; exact ⟨this.1, by simp only []; omega, this.2.2⟩
theorem playTo_good (ss : List R) (k : Nat) (hk : k ≤ ss.length) : good 0 (playTo (ss.take k)).1 = true ∧ (playTo (ss.take k)).2.length = k := by
  induction k with
  | zero => exact ⟨rfl, rfl⟩
  | succ k ih =>
    obtain ⟨h1, h2⟩ := ih (by omega)
    rw [playTo_take_succ (by omega)]
    exact ⟨(stepL_good h1 _).1, by simp [h2]⟩
end Go.Proofs.Ytdiejmebodpjeaa.Pr
