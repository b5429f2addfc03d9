/- The project's IsSound. -/
import Derived.Test.YtdagkbgobnaijaaCs3
namespace Go.Proofs.Ytdagkbgobnaijaa.Ph
/-- None of the references zs names a White object. -/
def noWhite (cs zs : List Int) : Bool := zs.all fun x => !(decide (0 ≤ x) && decide (cs.getD x.toNat 0 = 0))
theorem noWhite_take_succ {cs zs : List Int} {j : Nat} (h : j < zs.length) : noWhite cs (zs.take (j + 1)) = (noWhite cs (zs.take j) && !(decide (0 ≤ zs.getD j 0) && decide (cs.getD (zs.getD j 0).toNat 0 = 0))) := by
  have e : zs.getD j 0 = zs[j] := by simp [List.getD, List.getElem?_eq_getElem h]
  unfold noWhite
  rw [List.take_succ_eq_append_getElem h, List.all_append, e]; simp
theorem noWhite_false {cs zs : List Int} {j : Nat} (h : j < zs.length) (h0 : 0 ≤ zs.getD j 0) (hw : cs.getD (zs.getD j 0).toNat 0 = 0) : noWhite cs zs = false := by
  cases hq : noWhite cs zs with
  | false => rfl
  | true =>
    have e : zs.getD j 0 = zs[j] := by simp [List.getD, List.getElem?_eq_getElem h]
    have := (List.all_eq_true.1 hq) zs[j] (List.getElem_mem h)
    rw [← e, decide_eq_true h0, decide_eq_true hw] at this
    cases this
theorem soundB_iff {h : H} {cs : List Int} : soundB h cs = true ↔ ∀ k, k < h.f.length → cs.getD k 0 = 2 → noWhite cs (h.f.getD k []) = true := by
  unfold soundB noWhite
  simp only [List.all_eq_true, List.mem_range, Bool.not_eq_true', Bool.and_eq_false_imp, Bool.and_eq_true, decide_eq_true_eq, decide_eq_false_iff_not, and_imp]
  exact ⟨fun q k hk h2 x hx h0 => q k hk x hx h0 h2, fun q k hk x hx h0 h2 => q k hk h2 x hx h0⟩
theorem soundB_false {h : H} {cs : List Int} {k : Nat} (hk : k < h.f.length) (h2 : cs.getD k 0 = 2) (hn : noWhite cs (h.f.getD k []) = false) : soundB h cs = false := by
  cases hq : soundB h cs with
  | false => rfl
  | true => have := soundB_iff.1 hq k hk h2; rw [hn] at this; cases this
end Go.Proofs.Ytdagkbgobnaijaa.Ph
namespace Go.Proofs.Ytdagkbgobnaijaa
open Go.RowKit Ph

theorem soundR_no {h : H} {cs : List Int} (k : bothB h cs = false) : soundR h cs = false := by unfold soundR; rw [k]; rfl
theorem soundR_yes {h : H} {cs : List Int} (k : bothB h cs = true) : soundR h cs = soundB h cs := by unfold soundR; rw [k]; rfl
theorem r_bb {a a' b b' : Bool} (h : a = a') (k : b = b') : Ending.returned (.tuple #[.bool a, .bool b]) = .returned (.tuple #[.bool a', .bool b']) := by rw [h, k]
end Go.Proofs.Ytdagkbgobnaijaa
