/- The project's SameReached. -/
import Derived.Test.YtdagkbgobnaijaaHm2
namespace Go.Proofs.Ytdagkbgobnaijaa.Ph
theorem sfB_same {a b : H} (ga : Ph.Good a) (gb : Ph.Good b) (hr : a.r = b.r) : sfB a b (reachL a.f a.r) a.f.length = sameP a b := by
  rw [Bool.eq_iff_iff, sameP_iff]
  unfold sfB
  rw [List.all_eq_true]
  constructor
  · intro h
    refine same_of hr fun k hk => ?_
    have hl := reach_live ga hk
    have h1 := h k (by simpa using hl.2)
    rw [reachL_getD.2 ⟨hl.2, hk⟩] at h1
    simp only [Bool.not_true, Bool.false_or, Bool.and_eq_true, decide_eq_true_eq] at h1
    exact h1.2
  · rintro ⟨_, hs⟩ k hk
    by_cases hq : (reachL a.f a.r).getD k false = true
    · have hrk := (reachL_getD.1 hq).2
      have hl := reach_live gb ((hs k).1.1 hrk)
      rw [hq]
      simp only [Bool.not_true, Bool.false_or, Bool.and_eq_true, decide_eq_true_eq]
      exact ⟨liveB_iff.2 ⟨by omega, by simpa using hl.1⟩, (hs k).2 hrk⟩
    · have : (reachL a.f a.r).getD k false = false := by simpa using hq
      rw [this]; rfl
theorem sameP_roots {a b : H} (h : ¬ a.r = b.r) : sameP a b = false := sameP_false fun k => h k.1
def both (a b : H) : Bool := good a && good b
noncomputable def sameQ (a b : H) : Bool := both a b && sameP a b
end Go.Proofs.Ytdagkbgobnaijaa.Ph
namespace Go.Proofs.Ytdagkbgobnaijaa
open Go.RowKit Ph

theorem r_bb {a a' b b' : Bool} (h : a = a') (k : b = b') : Ending.returned (.tuple #[.bool a, .bool b]) = .returned (.tuple #[.bool a', .bool b']) := by rw [h, k]
end Go.Proofs.Ytdagkbgobnaijaa
