/- What changed heaps weigh. -/
import Derived.Test.YtdagkbgobnaijabHw7
namespace Go.Proofs.Ytdagkbgobnaijab
open Go.RowKit Ph

/-- Few objects of few fields weigh little. -/
theorem small_wt {h : H} (h1 : h.f.length ≤ 12) (h2 : ∀ i, i < h.f.length → (h.f.getD i []).length ≤ 3) (h3 : h.l.length ≤ 12) (h4 : h.r.length ≤ 4) : wtH h ≤ 1000 := by
  have hs : ∀ k, k ≤ h.f.length → sumL h.f k ≤ 3 * k := fun k => by
    induction k with
    | zero => intro _; rw [sumL_zero]; exact Nat.zero_le _
    | succ k ih =>
      intro hk
      rw [sumL_succ (by omega)]
      have := ih (by omega)
      have := h2 k (by omega)
      omega
  have := hs _ (Nat.le_refl _)
  unfold wtH wt; omega
theorem nil_wt : wtH ⟨[], [], []⟩ ≤ 1000 := by decide
theorem setF_wt (h : H) (t f z : Int) : wtH (setF h t f z) ≤ 1000 := by
  cases hk : setFOk h t f z with
  | false => rw [setF_no hk]; exact nil_wt
  | true =>
    rw [setF_yes hk]
    unfold setFOk at hk
    simp only [Bool.and_eq_true] at hk
    have g := good_iff.1 hk.1.1
    obtain ⟨_, e1, e2, e3, e4⟩ := good_wt g
    refine small_wt (by simp; omega) (fun i hi => ?_) e1 e2
    simp only [List.length_set] at hi
    by_cases ht : t.toNat < h.f.length
    · simp only
      rw [getD_setL ht]
      by_cases e : i = t.toNat
      · rw [if_pos e, List.length_set]; exact e4 _ ht
      · rw [if_neg e]; exact e4 i hi
    · simp only
      rw [List.set_eq_of_length_le (by omega)]; exact e4 i hi
theorem setR_wt (h : H) (t z : Int) : wtH (setR h t z) ≤ 1000 := by
  cases hk : setROk h t z with
  | false => rw [setR_no hk]; exact nil_wt
  | true =>
    rw [setR_yes hk]
    unfold setROk at hk
    simp only [Bool.and_eq_true] at hk
    obtain ⟨_, e1, e2, e3, e4⟩ := good_wt (good_iff.1 hk.1.1)
    exact small_wt e3 e4 e1 (by simp; omega)
end Go.Proofs.Ytdagkbgobnaijab
