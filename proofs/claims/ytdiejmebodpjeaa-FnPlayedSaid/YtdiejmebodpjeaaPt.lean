/- What is taken of a list of runs, and what is given back. -/
import Derived.Test.YtdiejmebodpjeaaPm
namespace Go.Proofs.Ytdiejmebodpjeaa.Pr

/-- The first of the shortest runs that are long enough. -/
def fit (long : Int) (acc : Option R) (r : R) : Option R := if decide (long ≤ r.2) && (match acc with | none => true | some b => decide (r.2 < b.2)) then some r else acc
def bestOf (long : Int) (rs : List R) : Option R := rs.foldl (fit long) none
theorem bestOf_take_succ (long : Int) {rs : List R} {k : Nat} (h : k < rs.length) : bestOf long (rs.take (k + 1)) = fit long (bestOf long (rs.take k)) (rs.getD k (0, 0)) := by
  have e : rs.getD k (0, 0) = rs[k] := by simp [List.getD, List.getElem?_eq_getElem h]
  rw [List.take_succ_eq_append_getElem h, e]
  generalize rs.take k = u
  simp [bestOf]
def BestIn (long : Int) (rs : List R) : Option R → Prop
  | none => ∀ x ∈ rs, ¬ long ≤ x.2
  | some b => b ∈ rs ∧ long ≤ b.2 ∧ ∀ x ∈ rs, long ≤ x.2 → b.2 ≤ x.2
theorem best_step {long : Int} {rs : List R} {acc : Option R} (h : BestIn long rs acc) (r : R) : BestIn long (rs ++ [r]) (fit long acc r) := by
  unfold fit
  cases acc with
  | none =>
    by_cases h1 : long ≤ r.2
    · simp only [h1, decide_true, Bool.and_true, if_true]
      refine ⟨by simp, h1, fun x hx hl => ?_⟩
      rcases List.mem_append.1 hx with hx | hx
      · exact absurd hl (h x hx)
      · simp at hx; subst hx; omega
    · simp only [h1, decide_false, Bool.false_and]
      intro x hx
      rcases List.mem_append.1 hx with hx | hx
      · exact h x hx
      · simp at hx; subst hx; exact h1
  | some b =>
    obtain ⟨b1, b2, b3⟩ := h
    by_cases h1 : long ≤ r.2
    · by_cases h2 : r.2 < b.2
      · simp only [h1, h2, decide_true, Bool.and_true, if_true]
        refine ⟨by simp, h1, fun x hx hl => ?_⟩
        rcases List.mem_append.1 hx with hx | hx
        · have := b3 x hx hl; omega
        · simp at hx; subst hx; omega
      · simp only [h1, h2, decide_true, decide_false, Bool.and_false]
        refine ⟨by simp [b1], b2, fun x hx hl => ?_⟩
        rcases List.mem_append.1 hx with hx | hx
        · exact b3 x hx hl
        · simp at hx; subst hx; omega
    · simp only [h1, decide_false, Bool.false_and]
      refine ⟨by simp [b1], b2, fun x hx hl => ?_⟩
      rcases List.mem_append.1 hx with hx | hx
      · exact b3 x hx hl
      · simp at hx; subst hx; exact absurd hl h1
theorem best_fold {long : Int} : ∀ (rs pre : List R) (acc : Option R), BestIn long pre acc → BestIn long (pre ++ rs) (rs.foldl (fit long) acc)
  | [], pre, acc, h => by simpa using h
  | r :: t, pre, acc, h => by
    have := best_fold t (pre ++ [r]) (fit long acc r) (best_step h r)
    simpa using this
theorem bestOf_spec (long : Int) (rs : List R) : BestIn long rs (bestOf long rs) := by
  have := best_fold (long := long) rs [] none (fun x hx => by simp at hx)
  simpa [bestOf] using this
theorem bestOf_some {long : Int} {rs : List R} {b : R} (h : bestOf long rs = some b) : b ∈ rs ∧ long ≤ b.2 ∧ ∀ x ∈ rs, long ≤ x.2 → b.2 ≤ x.2 := by
  have := bestOf_spec long rs; rw [h] at this; exact this
theorem bestOf_none {long : Int} {rs : List R} (h : bestOf long rs = none) : ∀ x ∈ rs, ¬ long ≤ x.2 := by
  have := bestOf_spec long rs; rw [h] at this; exact this

def cutR (b : R) (long : Int) (r : R) : List R := if r.1 = b.1 then (if long < r.2 then [(r.1 + long, r.2 - long)] else []) else [r]
/-- The list without the first pages of the run b. -/
def takeL (rs : List R) (long : Int) (b : R) : List R := rs.flatMap (cutR b long)
theorem takeL_take_succ (long : Int) (b : R) {rs : List R} {k : Nat} (h : k < rs.length) : takeL (rs.take (k + 1)) long b = takeL (rs.take k) long b ++ cutR b long (rs.getD k (0, 0)) := by
  have e : rs.getD k (0, 0) = rs[k] := by simp [List.getD, List.getElem?_eq_getElem h]
  rw [List.take_succ_eq_append_getElem h, e]
  generalize rs.take k = u
  simp [takeL]
theorem takeL_good {long : Int} (b : R) (hl : 1 ≤ long) : ∀ {rs : List R} {least : Int}, good least rs = true → good least (takeL rs long b) = true
  | [], _, _ => rfl
  | r :: t, least, h => by
    obtain ⟨h1, h2, h3⟩ := (good_cons_iff _ _ _).1 h
    have ih := takeL_good b hl h3
    have h2' := (okR_iff _).1 h2
    show good least (cutR b long r ++ takeL t long b) = true
    unfold cutR
    by_cases e : r.1 = b.1
    · rw [if_pos e]
      by_cases c : long < r.2
      · rw [if_pos c]
        refine (good_cons_iff _ _ _).2 ⟨by simp only []; omega, (okR_iff _).2 ⟨by simp only []; omega, by simp only []; omega, by simp only []; omega⟩, ?_⟩
        have : r.1 + long + (r.2 - long) + 1 = r.1 + r.2 + 1 := by omega
        simp only [this]
        exact ih
      · rw [if_neg c]
        exact good_mono ih (by omega)
    · rw [if_neg e]
      exact (good_cons_iff _ _ _).2 ⟨h1, h2, ih⟩
theorem mem_takeL {rs : List R} {long : Int} {b : R} (hs : SortK rs) (hb : b ∈ rs) {r : R} : r ∈ takeL rs long b ↔ (r ∈ rs ∧ r.1 ≠ b.1) ∨ (long < b.2 ∧ r = (b.1 + long, b.2 - long)) := by
  unfold takeL
  rw [List.mem_flatMap]
  constructor
  · rintro ⟨x, hx, hr⟩
    unfold cutR at hr
    by_cases e : x.1 = b.1
    · rw [if_pos e] at hr
      obtain rfl := sort_inj hs hx hb e
      by_cases c : long < x.2
      · rw [if_pos c] at hr
        exact .inr ⟨c, by simpa using hr⟩
      · rw [if_neg c] at hr; simp at hr
    · rw [if_neg e] at hr
      simp at hr
      subst hr
      exact .inl ⟨hx, e⟩
  · rintro (⟨h1, h2⟩ | ⟨h1, rfl⟩)
    · exact ⟨r, h1, by simp [cutR, h2]⟩
    · exact ⟨b, hb, by simp [cutR, h1]⟩
/-- As the map has it. -/
theorem takeL_map {rs : List R} {long : Int} {b : R} (hg : good 0 rs = true) (hb : b ∈ rs) (hl : 1 ≤ long) :
    takeL rs long b = if 0 < b.2 - long then putR (b.1 + long) (b.2 - long) (delR b.1 rs) else delR b.1 rs := by
  have hs := good_sort hg
  have hbo := (okR_iff _).1 (good_mem hg b hb).1
  have h2 := good_sort (takeL_good b hl hg)
  split
  · rename_i c
    refine sort_ext h2 (sort_putR (sort_delR hs)) fun r => ?_
    rw [mem_takeL hs hb, mem_putR, mem_delR]
    constructor
    · rintro (⟨h1, h2⟩ | ⟨_, rfl⟩)
      · refine .inr ⟨⟨h1, h2⟩, fun e => ?_⟩
        have := good_sep hg hb h1 (by omega)
        omega
      · exact .inl rfl
    · rintro (rfl | ⟨⟨h1, h2⟩, _⟩)
      · exact .inr ⟨by omega, rfl⟩
      · exact .inl ⟨h1, h2⟩
  · rename_i c
    refine sort_ext h2 (sort_delR hs) fun r => ?_
    rw [mem_takeL hs hb, mem_delR]
    constructor
    · rintro (h | ⟨h, _⟩)
      · exact h
      · omega
    · exact .inl
theorem takeL_pg {rs : List R} {long : Int} {b : R} (hg : good 0 rs = true) (hb : b ∈ rs) (hl : 1 ≤ long) (hf : long ≤ b.2) (p : Int) : pg (takeL rs long b) p ↔ pg rs p ∧ ¬ (b.1 ≤ p ∧ p < b.1 + long) := by
  have hs := good_sort hg
  constructor
  · rintro ⟨x, hx, h1, h2⟩
    rcases (mem_takeL hs hb).1 hx with ⟨h3, h4⟩ | ⟨h3, rfl⟩
    · refine ⟨⟨x, h3, h1, h2⟩, fun h => ?_⟩
      have ho := (okR_iff _).1 (good_mem hg x h3).1
      by_cases c : x.1 < b.1
      · have := good_sep hg h3 hb c; omega
      · have := good_sep hg hb h3 (by omega); omega
    · simp only [] at h1 h2
      exact ⟨⟨b, hb, by omega, by omega⟩, by omega⟩
  · rintro ⟨⟨x, hx, h1, h2⟩, h⟩
    by_cases e : x.1 = b.1
    · obtain rfl := sort_inj hs hx hb e
      exact ⟨(x.1 + long, x.2 - long), (mem_takeL hs hb).2 (.inr ⟨by omega, rfl⟩), by simp only []; omega, by simp only []; omega⟩
    · exact ⟨x, (mem_takeL hs hb).2 (.inl ⟨hx, e⟩), h1, h2⟩
theorem sumR_cons (r : R) (t : List R) : sumR (r :: t) = r.2 + sumR t := by simp [sumR]
theorem sumR_append (a b : List R) : sumR (a ++ b) = sumR a + sumR b := by simp [sumR]
theorem takeL_other {long : Int} {b : R} : ∀ {rs : List R}, (∀ r ∈ rs, r.1 ≠ b.1) → takeL rs long b = rs
  | [], _ => rfl
  | r :: t, h => by
    show cutR b long r ++ takeL t long b = r :: t
    rw [takeL_other fun r hr => h r (by simp [hr]), cutR, if_neg (h r (by simp))]
    rfl
theorem takeL_sum {long : Int} {b : R} (hf : long ≤ b.2) : ∀ {rs : List R}, SortK rs → b ∈ rs → sumR (takeL rs long b) + long = sumR rs
  | [], _, hb => by simp at hb
  | r :: t, hs, hb => by
    obtain ⟨h1, h2⟩ := List.pairwise_cons.1 hs
    show sumR (cutR b long r ++ takeL t long b) + long = _
    rw [sumR_append, sumR_cons]
    rcases List.mem_cons.1 hb with rfl | hb'
    · rw [takeL_other fun x hx => by have := h1 x hx; omega, cutR, if_pos rfl]
      split
      · simp [sumR]; omega
      · simp [sumR]; omega
    · have := takeL_sum hf h2 hb'
      have hlt := h1 b hb'
      rw [cutR, if_neg (by omega)]
      simp only [sumR_cons] at *
      simp only [sumR, List.map_nil, List.sum_nil] at *
      omega
theorem maxR_fold : ∀ (rs : List R) (m : Int), (∀ x ∈ rs, x.2 ≤ rs.foldl (fun m r => max m r.2) m) ∧ m ≤ rs.foldl (fun m r => max m r.2) m ∧ (rs.foldl (fun m r => max m r.2) m = m ∨ ∃ x ∈ rs, x.2 = rs.foldl (fun m r => max m r.2) m)
  | [], m => by simp
  | r :: t, m => by
    obtain ⟨h1, h2, h3⟩ := maxR_fold t (max m r.2)
    simp only [List.foldl_cons]
    refine ⟨fun x hx => ?_, by omega, ?_⟩
    · rcases List.mem_cons.1 hx with rfl | hx
      · omega
      · exact h1 x hx
    · rcases h3 with h3 | ⟨x, hx, h3⟩
      · rw [h3]
        by_cases c : m ≤ r.2
        · exact .inr ⟨r, by simp, by omega⟩
        · exact .inl (by omega)
      · exact .inr ⟨x, by simp [hx], h3⟩
theorem bestOf_max {rs : List R} {long : Int} (hl : 1 ≤ long) (h : bestOf long rs = none) : ¬ long ≤ maxR rs := by
  intro hm
  obtain ⟨_, _, h3⟩ := maxR_fold rs 0
  rcases h3 with h3 | ⟨x, hx, h3⟩
  · unfold maxR at hm; omega
  · exact bestOf_none h x hx (by unfold maxR at hm; omega)
end Go.Proofs.Ytdiejmebodpjeaa.Pr
