/- Mathematics of lists of runs: valid lists, the pages that they hold, what is taken and given. -/
import Derived.Test.YtdiejmebodpjeaaProg
namespace Go.Proofs.Ytdiejmebodpjeaa.Pr

abbrev R := Int × Int
/-- A run of pages. -/
def okR (r : R) : Bool := decide (0 ≤ r.1) && (decide (1 ≤ r.2) && decide (r.1 + r.2 ≤ 32))
theorem okR_iff (r : R) : okR r = true ↔ 0 ≤ r.1 ∧ 1 ≤ r.2 ∧ r.1 + r.2 ≤ 32 := by simp [okR]
/-- The list is in order, from the page least on, with a page between any two runs. -/
def good (least : Int) : List R → Bool
  | [] => true
  | r :: rs => decide (least ≤ r.1) && (okR r && good (r.1 + r.2 + 1) rs)
theorem good_nil (least : Int) : good least [] = true := rfl
theorem good_cons (least : Int) (r : R) (rs : List R) : good least (r :: rs) = (decide (least ≤ r.1) && (okR r && good (r.1 + r.2 + 1) rs)) := rfl
theorem good_cons_iff (least : Int) (r : R) (rs : List R) : good least (r :: rs) = true ↔ least ≤ r.1 ∧ okR r = true ∧ good (r.1 + r.2 + 1) rs = true := by simp [good_cons]
/-- What the run before index k asks of the run at k. -/
def leastAt (rs : List R) (k : Nat) : Int := if k = 0 then 0 else (rs.getD (k - 1) (0, 0)).1 + (rs.getD (k - 1) (0, 0)).2 + 1
theorem leastAt_zero (rs : List R) : leastAt rs 0 = 0 := rfl
theorem leastAt_succ (rs : List R) (k : Nat) : leastAt rs (k + 1) = (rs.getD k (0, 0)).1 + (rs.getD k (0, 0)).2 + 1 := by simp [leastAt]
theorem drop_getD {rs : List R} {k : Nat} (h : k < rs.length) : rs.drop k = rs.getD k (0, 0) :: rs.drop (k + 1) := by
  rw [List.drop_eq_getElem_cons h]; simp [List.getD, List.getElem?_eq_getElem h]
theorem good_drop {rs : List R} {k : Nat} (h : k < rs.length) (least : Int) : good least (rs.drop k) = (decide (least ≤ (rs.getD k (0, 0)).1) && (okR (rs.getD k (0, 0)) && good (leastAt rs (k + 1)) (rs.drop (k + 1)))) := by
  rw [drop_getD h, good_cons, leastAt_succ]
theorem good_end {rs : List R} {k : Nat} (h : rs.length ≤ k) (least : Int) : good least (rs.drop k) = true := by
  rw [List.drop_of_length_le h]; rfl
/-- The first k runs are as they ought to be, and the rest decides. -/
def Pre (rs : List R) (k : Nat) : Prop := good 0 rs = good (leastAt rs k) (rs.drop k) ∧ (0 < k → okR (rs.getD (k - 1) (0, 0)) = true)
theorem Pre.start (rs : List R) : Pre rs 0 := ⟨by simp [leastAt], fun h => by omega⟩
theorem Pre.step {rs : List R} {k : Nat} (h : Pre rs k) (hk : k < rs.length) (h1 : leastAt rs k ≤ (rs.getD k (0, 0)).1) (h2 : okR (rs.getD k (0, 0)) = true) : Pre rs (k + 1) := by
  refine ⟨?_, fun _ => h2⟩
  rw [h.1, good_drop hk, h2, decide_eq_true h1]; simp
theorem Pre.low {rs : List R} {k : Nat} (h : Pre rs k) (hk : k < rs.length) (h1 : ¬ leastAt rs k ≤ (rs.getD k (0, 0)).1) : good 0 rs = false := by
  rw [h.1, good_drop hk, decide_eq_false h1]; simp
theorem Pre.bad {rs : List R} {k : Nat} (h : Pre rs k) (hk : k < rs.length) (h2 : okR (rs.getD k (0, 0)) = false) : good 0 rs = false := by
  rw [h.1, good_drop hk, h2]; simp
theorem Pre.done {rs : List R} {k : Nat} (h : Pre rs k) (hk : rs.length ≤ k) : good 0 rs = true := by
  rw [h.1, good_end hk]
theorem Pre.bound {rs : List R} {k : Nat} (h : Pre rs k) : 0 ≤ leastAt rs k ∧ leastAt rs k ≤ 33 := by
  by_cases e : k = 0
  · subst e; simp [leastAt]
  · have := (okR_iff _).1 (h.2 (by omega))
    unfold leastAt
    rw [if_neg e]
    omega
/-- Every run of a valid list is a run of pages, from least on. -/
theorem good_mem {least : Int} {rs : List R} (h : good least rs = true) : ∀ r ∈ rs, okR r = true ∧ least ≤ r.1 := by
  induction rs generalizing least with
  | nil => intro r hr; simp at hr
  | cons x rs ih =>
    obtain ⟨h1, h2, h3⟩ := (good_cons_iff _ _ _).1 h
    intro r hr
    rcases List.mem_cons.1 hr with rfl | hr
    · exact ⟨h2, h1⟩
    · obtain ⟨i1, i2⟩ := ih h3 r hr
      have := (okR_iff _).1 h2
      exact ⟨i1, by omega⟩
theorem good_length {least : Int} {rs : List R} (h : good least rs = true) (hl : 0 ≤ least) : 2 * (rs.length : Int) + least ≤ 33 ∨ rs = [] := by
  induction rs generalizing least with
  | nil => exact .inr rfl
  | cons x rs ih =>
    left
    obtain ⟨h1, h2, h3⟩ := (good_cons_iff _ _ _).1 h
    have h2 := (okR_iff _).1 h2
    rcases ih h3 (by omega) with i | i
    · simp only [List.length_cons]; omega
    · subst i; simp only [List.length_cons, List.length_nil]; omega
theorem good_len16 {rs : List R} (h : good 0 rs = true) : rs.length ≤ 16 := by
  rcases good_length h (Int.le_refl _) with i | i
  · omega
  · subst i; simp
/-- The pages in all. -/
def sumR (rs : List R) : Int := (rs.map (·.2)).sum
/-- The longest run. -/
def maxR (rs : List R) : Int := rs.foldl (fun m r => max m r.2) 0
theorem sumR_take_succ {rs : List R} {k : Nat} (h : k < rs.length) : sumR (rs.take (k + 1)) = sumR (rs.take k) + (rs.getD k (0, 0)).2 := by
  have e : rs.getD k (0, 0) = rs[k] := by simp [List.getD, List.getElem?_eq_getElem h]
  rw [List.take_succ_eq_append_getElem h, e]
  generalize rs.take k = u
  simp [sumR]
theorem maxR_take_succ {rs : List R} {k : Nat} (h : k < rs.length) : maxR (rs.take (k + 1)) = max (maxR (rs.take k)) (rs.getD k (0, 0)).2 := by
  have e : rs.getD k (0, 0) = rs[k] := by simp [List.getD, List.getElem?_eq_getElem h]
  rw [List.take_succ_eq_append_getElem h, e]
  generalize rs.take k = u
  simp [maxR]
theorem getD_mem {rs : List R} {k : Nat} (h : k < rs.length) : rs.getD k (0, 0) ∈ rs := by
  simp [List.getD, List.getElem?_eq_getElem h]
theorem sumR_bound {rs : List R} (h : ∀ r ∈ rs, okR r = true) (k : Nat) (hk : k ≤ rs.length) : 0 ≤ sumR (rs.take k) ∧ sumR (rs.take k) ≤ 32 * (k : Int) := by
  induction k with
  | zero => simp [sumR]
  | succ k ih =>
    rw [sumR_take_succ (by omega)]
    have := (okR_iff _).1 (h _ (getD_mem (rs := rs) (k := k) (by omega)))
    have := ih (by omega)
    omega
theorem maxR_bound {rs : List R} (h : ∀ r ∈ rs, okR r = true) (k : Nat) (hk : k ≤ rs.length) : 0 ≤ maxR (rs.take k) ∧ maxR (rs.take k) ≤ 32 := by
  induction k with
  | zero => simp [maxR]
  | succ k ih =>
    rw [maxR_take_succ (by omega)]
    have := (okR_iff _).1 (h _ (getD_mem (rs := rs) (k := k) (by omega)))
    have := ih (by omega)
    omega
end Go.Proofs.Ytdiejmebodpjeaa.Pr
