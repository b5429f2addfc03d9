/- The project's CleanHeap. -/
import Derived.Test.YtdagkbgobnaijabHk1
import Derived.Test.YtdagkbgobnaijabHp1
namespace Go.Proofs.Ytdagkbgobnaijab.Ph
noncomputable def cleanP (h : H) : H × Nat := if good h = true then keepTo h (reachL h.f h.r) h.f.length else (⟨[], [], []⟩, 0)
theorem cleanP_no {h : H} (k : good h = false) : cleanP h = (⟨[], [], []⟩, 0) := by unfold cleanP; rw [k]; rfl
theorem cleanP_yes {h : H} (k : good h = true) : cleanP h = keepTo h (reachL h.f h.r) h.f.length := by unfold cleanP; rw [k]; rfl
theorem keepTo_rows {h : H} {ks : List Bool} (hr : ∀ i, i < h.f.length → (h.f.getD i []).length ≤ 3) (j : Nat) : ∀ i, i < h.f.length → ((keepTo h ks j).1.f.getD i []).length ≤ 3 := by
  induction j with
  | zero => exact hr
  | succ j ih =>
    intro i hi
    simp only [keepTo, keepStep]
    split
    · simp only
      by_cases hj : j < (keepTo h ks j).1.f.length
      · rw [getD_setL hj]
        by_cases e : i = j
        · rw [if_pos e]; simp
        · rw [if_neg e]; exact ih i hi
      · rw [List.set_eq_of_length_le (by omega)]; exact ih i hi
    · exact ih i hi
end Go.Proofs.Ytdagkbgobnaijab.Ph
namespace Go.Proofs.Ytdagkbgobnaijab
open Go.RowKit Ph

theorem clean_wt (h : H) : wtH (cleanP h).1 ≤ 1000 := by
  cases hg : good h with
  | false => rw [cleanP_no hg]; exact nil_wt
  | true =>
    rw [cleanP_yes hg]
    obtain ⟨_, e1, e2, e3, e4⟩ := good_wt (good_iff.1 hg)
    obtain ⟨k1, k2, k3, _⟩ := keepTo_len h (reachL h.f h.r) h.f.length
    exact small_wt (by omega) (fun i hi => keepTo_rows e4 _ i (by omega)) (by omega) (by rw [k3]; exact e2)
theorem endHI_no {w w' : World} {h : H} {n : Int} {ok : Bool} (hb : Below w.heap.size w w') (h1 : h = ⟨[], [], []⟩) (h2 : n = 0) (h3 : ok = false) : EndHI h n ok w (.returned (.tuple #[hv (.slice none 0 0) (.slice none 0 0) (.slice none 0 0), .int .i64 0, .bool false])) w' := by
  subst h1; subst h2; subst h3
  exact ⟨_, _, _, rfl, OwnH.nil w' _ _, hb⟩
theorem endHI_yes {w w' : World} {h h' : H} {n n' : Int} {ok : Bool} {a b c : Value} {lo hi : Nat} (hb : Below w.heap.size w w') (ho : OwnH w' lo hi a b c h') (hl : w.heap.size ≤ lo) (hi' : hi ≤ w'.heap.size) (h1 : h = h') (h2 : n = n') (h3 : ok = true) : EndHI h n ok w (.returned (.tuple #[hv a b c, .int .i64 n', .bool true])) w' := by
  subst h1; subst h2; subst h3
  exact ⟨_, _, _, rfl, ho.wide hl hi', hb⟩
theorem res_row_slot2 {P : Program} {fn : Func} {p q r : Tmp} {ty : TypeId} (h : fn.results = #[.cell p ty, .tmp q, .tmp r]) {tmps : Array Value} {w : World} {g : Nat} {t : TypeId} {cs : Array Value} {d : TypeDesc} {v u : Value} (hg : Row w g t cs)
    (hp : tmps.getD p undef = .pointer (some ⟨g, 0, none⟩)) (hq : tmps.getD q undef = v) (hr : tmps.getD r undef = u) (hu : P.underlying ty = some d) (hd : (match d with | .struct _ | .array _ _ => true | _ => false) = true) (hi : (P.info? ty).map (·.size) = some cs.size) :
    (results fn tmps).run P w = .ok (.tuple #[.agg cs, v, u]) w := by
  have hp' : tmps[p]?.getD undef = .pointer (some ⟨g, 0, none⟩) := by simpa using hp
  have hq' : tmps[q]?.getD undef = v := by simpa using hq
  have hr' : tmps[r]?.getD undef = u := by simpa using hr
  simp [results, h, hp', hq', hr', asAddr, run_loadVar_row w g t ty cs (0, 0) d hg hu hd hi]
end Go.Proofs.Ytdagkbgobnaijab
