/- Heaps of objects: what is valid, what is reached, what changes make of them. Mathematics alone. -/
import Derived.WalkKit
namespace Go.Proofs.Ytdagkbgobnaijab.Ph

structure H where
  f : List (List Int)
  l : List Bool
  r : List Int

def liveB (l : List Bool) (z : Int) : Bool := decide (0 ≤ z) && l.getD z.toNat false
def refB (l : List Bool) (z : Int) : Bool := decide (z = -1) || liveB l z
def refsB (l : List Bool) (zs : List Int) : Bool := zs.all (refB l)
def rowB (l : List Bool) (on : Bool) (zs : List Int) : Bool := decide (zs.length ≤ 3) && (on || zs.isEmpty) && refsB l zs
def rowsB (l : List Bool) (fs : List (List Int)) (n : Nat) : Bool := (List.range n).all fun i => rowB l (l.getD i false) (fs.getD i [])
def good (h : H) : Bool := decide (h.f.length ≤ 12) && decide (h.l.length = h.f.length) && rowsB h.l h.f h.f.length && decide (h.r.length ≤ 4) && refsB h.l h.r

theorem getD_lt {l : List Bool} {k : Nat} (h : l.getD k false = true) : k < l.length := by
  by_cases e : k < l.length
  · exact e
  · simp [List.getD, List.getElem?_eq_none (Nat.le_of_not_lt e)] at h
theorem liveB_iff {l : List Bool} {z : Int} : liveB l z = true ↔ 0 ≤ z ∧ l.getD z.toNat false = true := by simp [liveB]
theorem liveB_lt {l : List Bool} {z : Int} (h : liveB l z = true) : 0 ≤ z ∧ z < l.length := by
  obtain ⟨h1, h2⟩ := liveB_iff.1 h
  have := getD_lt h2
  omega
theorem refB_iff {l : List Bool} {z : Int} : refB l z = true ↔ z = -1 ∨ liveB l z = true := by simp [refB]
theorem refsB_iff {l : List Bool} {zs : List Int} : refsB l zs = true ↔ ∀ z ∈ zs, refB l z = true := by simp [refsB]
theorem refsB_take_succ {l : List Bool} {zs : List Int} {k : Nat} (h : k < zs.length) : refsB l (zs.take (k + 1)) = (refsB l (zs.take k) && refB l (zs.getD k 0)) := by
  have e : zs.getD k 0 = zs[k] := by simp [List.getD, List.getElem?_eq_getElem h]
  unfold refsB
  rw [List.take_succ_eq_append_getElem h, List.all_append, e]; simp
theorem refsB_false {l : List Bool} {zs : List Int} {k : Nat} (h : k < zs.length) (hn : refB l (zs.getD k 0) = false) : refsB l zs = false := by
  cases hq : refsB l zs with
  | false => rfl
  | true =>
    have e : zs.getD k 0 = zs[k] := by simp [List.getD, List.getElem?_eq_getElem h]
    have := refsB_iff.1 hq zs[k] (List.getElem_mem h)
    rw [e] at hn; rw [hn] at this; cases this
theorem rowsB_succ {l : List Bool} {fs : List (List Int)} {n : Nat} : rowsB l fs (n + 1) = (rowsB l fs n && rowB l (l.getD n false) (fs.getD n [])) := by
  simp [rowsB, List.range_succ]
theorem rowsB_iff {l : List Bool} {fs : List (List Int)} {n : Nat} : rowsB l fs n = true ↔ ∀ i, i < n → rowB l (l.getD i false) (fs.getD i []) = true := by simp [rowsB]
theorem rowsB_false {l : List Bool} {fs : List (List Int)} {n k : Nat} (h : k < n) (hn : rowB l (l.getD k false) (fs.getD k []) = false) : rowsB l fs n = false := by
  cases hq : rowsB l fs n with
  | false => rfl
  | true => have := rowsB_iff.1 hq k h; rw [hn] at this; cases this
theorem rowB_iff {l : List Bool} {on : Bool} {zs : List Int} : rowB l on zs = true ↔ zs.length ≤ 3 ∧ (on = true ∨ zs = []) ∧ refsB l zs = true := by simp [rowB, and_assoc]
structure Good (h : H) : Prop where
  n : h.f.length ≤ 12
  ll : h.l.length = h.f.length
  row : ∀ i, i < h.f.length → (h.f.getD i []).length ≤ 3 ∧ (h.l.getD i false = true ∨ h.f.getD i [] = []) ∧ refsB h.l (h.f.getD i []) = true
  rn : h.r.length ≤ 4
  rr : refsB h.l h.r = true
theorem good_iff {h : H} : good h = true ↔ Good h := by
  unfold good
  simp only [Bool.and_eq_true, decide_eq_true_eq, rowsB_iff, rowB_iff]
  constructor
  · rintro ⟨⟨⟨⟨a, b⟩, c⟩, d⟩, e⟩; exact ⟨a, b, c, d, e⟩
  · rintro ⟨a, b, c, d, e⟩; exact ⟨⟨⟨⟨a, b⟩, c⟩, d⟩, e⟩
/-- A field of a valid heap is no object or one that there is. -/
theorem Good.field {h : H} (g : Good h) {i : Nat} {z : Int} (hz : z ∈ h.f.getD i []) : z = -1 ∨ (0 ≤ z ∧ z < h.f.length ∧ h.l.getD z.toNat false = true) := by
  by_cases hi : i < h.f.length
  · have := refsB_iff.1 (g.row i hi).2.2 z hz
    rcases refB_iff.1 this with h1 | h1
    · exact .inl h1
    · have h2 := liveB_lt h1
      rw [g.ll] at h2
      exact .inr ⟨h2.1, h2.2, (liveB_iff.1 h1).2⟩
  · rw [List.getD, List.getElem?_eq_none (by omega)] at hz
    simp at hz
theorem refs_bound {h : H} (g : Good h) {zs : List Int} (hr : refsB h.l zs = true) : ∀ z ∈ zs, z = -1 ∨ (0 ≤ z ∧ z < h.f.length ∧ h.l.getD z.toNat false = true) := by
  intro z hz
  rcases refB_iff.1 (refsB_iff.1 hr z hz) with h1 | h1
  · exact .inl h1
  · have h2 := liveB_lt h1
    rw [g.ll] at h2
    exact .inr ⟨h2.1, h2.2, (liveB_iff.1 h1).2⟩

/-- The object k is reached from the references zs over the fields fs. -/
inductive Reach (fs : List (List Int)) (zs : List Int) : Nat → Prop
  | root {k : Nat} : (k : Int) ∈ zs → Reach fs zs k
  | step {y k : Nat} : Reach fs zs y → (k : Int) ∈ fs.getD y [] → Reach fs zs k
theorem Reach.mono {fs : List (List Int)} {zs zs' : List Int} {k : Nat} (h : Reach fs zs k) (hs : ∀ k : Nat, (k : Int) ∈ zs → Reach fs zs' k) : Reach fs zs' k := by
  induction h with
  | root hz => exact hs _ hz
  | step _ hk ih => exact .step ih hk
/-- What is reached, object for object. -/
noncomputable def reachL (fs : List (List Int)) (zs : List Int) : List Bool := (List.range fs.length).map fun k => @decide (Reach fs zs k) (Classical.propDecidable _)
theorem reachL_length (fs : List (List Int)) (zs : List Int) : (reachL fs zs).length = fs.length := by simp [reachL]
theorem reachL_getD {fs : List (List Int)} {zs : List Int} {k : Nat} : (reachL fs zs).getD k false = true ↔ k < fs.length ∧ Reach fs zs k := by
  unfold reachL
  by_cases hk : k < fs.length
  · simp [List.getD, hk]
  · simp [List.getD, hk]
theorem eq_reachL {fs : List (List Int)} {zs : List Int} {S : List Bool} (hl : S.length = fs.length) (h : ∀ k, S.getD k false = true ↔ k < fs.length ∧ Reach fs zs k) : S = reachL fs zs := by
  apply List.ext_getElem?
  intro k
  by_cases hk : k < fs.length
  · have h1 := h k
    have h2 := reachL_getD (fs := fs) (zs := zs) (k := k)
    have e1 : S[k]? = some (S.getD k false) := by simp [List.getD, List.getElem?_eq_getElem (show k < S.length by omega)]
    have e2 : (reachL fs zs)[k]? = some ((reachL fs zs).getD k false) := by simp [List.getD, List.getElem?_eq_getElem (show k < (reachL fs zs).length by rw [reachL_length]; exact hk)]
    rw [e1, e2]
    congr 1
    rw [Bool.eq_iff_iff, h1, h2]
  · rw [List.getElem?_eq_none (by omega), List.getElem?_eq_none (by rw [reachL_length]; omega)]

/-- What one visit of the references zs makes of the marks S. -/
structure Vis (fs : List (List Int)) (zs : List Int) (S S' : List Bool) : Prop where
  len : S'.length = S.length
  sub : ∀ k, S.getD k false = true → S'.getD k false = true
  has : ∀ k : Nat, (k : Int) ∈ zs → S'.getD k false = true
  cl : ∀ k, S'.getD k false = true → S.getD k false = true ∨ ∀ j : Nat, (j : Int) ∈ fs.getD k [] → S'.getD j false = true
  src : ∀ k, S'.getD k false = true → S.getD k false = true ∨ Reach fs zs k
theorem Vis.start (fs : List (List Int)) (zs : List Int) (S : List Bool) : Vis fs (zs.take 0) S S := ⟨rfl, fun _ h => h, fun _ h => by simp at h, fun _ h => .inl h, fun _ h => .inl h⟩
theorem mem_take_succ {zs : List Int} {i : Nat} (hi : i < zs.length) (z : Int) : z ∈ zs.take (i + 1) ↔ z ∈ zs.take i ∨ z = zs.getD i 0 := by
  have e : zs.getD i 0 = zs[i] := by simp [List.getD, List.getElem?_eq_getElem hi]
  rw [List.take_succ_eq_append_getElem hi, e, List.mem_append, List.mem_singleton]
theorem Reach.take {fs : List (List Int)} {zs : List Int} {i k : Nat} (hi : i < zs.length) (h : Reach fs (zs.take i) k) : Reach fs (zs.take (i + 1)) k := h.mono fun _ hz => .root ((mem_take_succ hi _).2 (.inl hz))
theorem Vis.skip {fs : List (List Int)} {zs : List Int} {S S' : List Bool} {i : Nat} (h : Vis fs (zs.take i) S S') (hi : i < zs.length) (hz : zs.getD i 0 = -1 ∨ S'.getD (zs.getD i 0).toNat false = true) : Vis fs (zs.take (i + 1)) S S' := by
  refine ⟨h.len, h.sub, fun k hk => ?_, h.cl, fun k hk => (h.src k hk).imp id (Reach.take hi)⟩
  rcases (mem_take_succ hi _).1 hk with h1 | h1
  · exact h.has k h1
  · rcases hz with h2 | h2
    · omega
    · rw [← h1] at h2; simpa using h2
theorem getD_set {S : List Bool} {z k : Nat} {b : Bool} (hz : z < S.length) : (S.set z b).getD k false = if k = z then b else S.getD k false := by
  by_cases e : k = z
  · subst e; simp [List.getD, hz]
  · have : ¬ z = k := fun h => e h.symm
    simp [List.getD, e, this]
theorem Vis.down {fs : List (List Int)} {zs : List Int} {S S' S2 : List Bool} {i z : Nat} (h : Vis fs (zs.take i) S S') (hi : i < zs.length) (hz : zs.getD i 0 = (z : Int)) (hn : z < S'.length) (hv : Vis fs (fs.getD z []) (S'.set z true) S2) : Vis fs (zs.take (i + 1)) S S2 := by
  have key : ∀ k, (S'.set z true).getD k false = true ↔ k = z ∨ S'.getD k false = true := fun k => by
    rw [getD_set hn]; by_cases e : k = z <;> simp [e]
  have hzm : Reach fs (zs.take (i + 1)) z := .root ((mem_take_succ hi _).2 (.inr hz.symm))
  refine ⟨by rw [hv.len, List.length_set, h.len], fun k hk => hv.sub k ((key k).2 (.inr (h.sub k hk))), fun k hk => ?_, fun k hk => ?_, fun k hk => ?_⟩
  · rcases (mem_take_succ hi _).1 hk with h1 | h1
    · exact hv.sub k ((key k).2 (.inr (h.has k h1)))
    · exact hv.sub k ((key k).2 (.inl (by omega)))
  · rcases hv.cl k hk with h1 | h1
    · rcases (key k).1 h1 with rfl | h2
      · exact .inr hv.has
      · rcases h.cl k h2 with h3 | h3
        · exact .inl h3
        · exact .inr fun j hj => hv.sub j ((key j).2 (.inr (h3 j hj)))
    · exact .inr h1
  · rcases hv.src k hk with h1 | h1
    · rcases (key k).1 h1 with rfl | h2
      · exact .inr hzm
      · exact (h.src k h2).imp id (Reach.take hi)
    · exact .inr (h1.mono fun j hj => .step hzm hj)
theorem Vis.done {fs : List (List Int)} {zs : List Int} {S : List Bool} (h : Vis fs zs (List.replicate fs.length false) S) : S = reachL fs zs := by
  have hf : ∀ k, ¬ (List.replicate fs.length false).getD k false = true := fun k hk => by
    by_cases e : k < fs.length
    · simp [List.getD, e] at hk
    · simp [List.getD, e] at hk
  have hl : S.length = fs.length := by rw [h.len]; simp
  have up : ∀ k, Reach fs zs k → S.getD k false = true := fun k hr => by
    induction hr with
    | root hz => exact h.has _ hz
    | step hy hk ih => exact ((h.cl _ ih).resolve_left (hf _)) _ hk
  exact eq_reachL hl fun k => ⟨fun hk => ⟨by have := getD_lt hk; omega, ((h.src k hk).resolve_left (hf k))⟩, fun ⟨_, hr⟩ => up k hr⟩
/-- How many are not marked yet. -/
def left (S : List Bool) : Nat := S.count false
theorem left_set {S : List Bool} {z : Nat} (hz : z < S.length) (h : S.getD z false = false) : left (S.set z true) + 1 = left S := by
  unfold left
  induction S generalizing z with
  | nil => simp at hz
  | cons b S ih =>
    cases z with
    | zero =>
      have hb : b = false := by simpa using h
      subst hb
      simp
    | succ z =>
      have h1 := ih (z := z) (by simpa using hz) (by simpa using h)
      cases b <;> simp <;> omega
/-- A queue's round. -/
structure Bfs (fs : List (List Int)) (zs q : List Int) (S : List Bool) : Prop where
  len : S.length = fs.length
  has : ∀ k : Nat, (k : Int) ∈ zs → S.getD k false = true ∨ (k : Int) ∈ q
  cl : ∀ k, S.getD k false = true → ∀ j : Nat, (j : Int) ∈ fs.getD k [] → S.getD j false = true ∨ (j : Int) ∈ q
  src : ∀ k, S.getD k false = true → Reach fs zs k
  srq : ∀ k : Nat, (k : Int) ∈ q → Reach fs zs k
theorem Bfs.start (fs : List (List Int)) (zs : List Int) : Bfs fs zs zs (List.replicate fs.length false) := by
  have hf : ∀ k, ¬ (List.replicate fs.length false).getD k false = true := fun k hk => by
    by_cases e : k < fs.length
    · simp [List.getD, e] at hk
    · simp [List.getD, e] at hk
  exact ⟨by simp, fun k h => .inr h, fun k h => absurd h (hf k), fun k h => absurd h (hf k), fun k h => .root h⟩
theorem Bfs.skip {fs : List (List Int)} {zs q : List Int} {S : List Bool} {z : Int} (h : Bfs fs zs (z :: q) S) (hz : z < 0 ∨ S.getD z.toNat false = true) : Bfs fs zs q S := by
  have key : ∀ k : Nat, (S.getD k false = true ∨ (k : Int) ∈ z :: q) → (S.getD k false = true ∨ (k : Int) ∈ q) := fun k hk => by
    rcases hk with hk | hk
    · exact .inl hk
    · rcases List.mem_cons.1 hk with e | e
      · rcases hz with h1 | h1
        · omega
        · rw [← e] at h1; exact .inl (by simpa using h1)
      · exact .inr e
  exact ⟨h.len, fun k hk => key k (h.has k hk), fun k hk j hj => key j (h.cl k hk j hj), h.src, fun k hk => h.srq k (List.mem_cons_of_mem _ hk)⟩
theorem Bfs.take {fs : List (List Int)} {zs q : List Int} {S : List Bool} {z : Nat} (h : Bfs fs zs ((z : Int) :: q) S) (hz : z < fs.length) : Bfs fs zs (q ++ fs.getD z []) (S.set z true) := by
  have hzs : z < S.length := by rw [h.len]; exact hz
  have key : ∀ k, (S.set z true).getD k false = true ↔ k = z ∨ S.getD k false = true := fun k => by
    rw [getD_set hzs]; by_cases e : k = z <;> simp [e]
  have hrz : Reach fs zs z := h.srq z (by simp)
  have mv : ∀ k : Nat, (S.getD k false = true ∨ (k : Int) ∈ (z : Int) :: q) → ((S.set z true).getD k false = true ∨ (k : Int) ∈ q ++ fs.getD z []) := fun k hk => by
    rcases hk with hk | hk
    · exact .inl ((key k).2 (.inr hk))
    · rcases List.mem_cons.1 hk with e | e
      · exact .inl ((key k).2 (.inl (by omega)))
      · exact .inr (List.mem_append.2 (.inl e))
  refine ⟨by rw [List.length_set, h.len], fun k hk => mv k (h.has k hk), fun k hk j hj => ?_, fun k hk => ?_, fun k hk => ?_⟩
  · rcases (key k).1 hk with rfl | h1
    · exact .inr (List.mem_append.2 (.inr hj))
    · exact mv j (h.cl k h1 j hj)
  · rcases (key k).1 hk with rfl | h1
    · exact hrz
    · exact h.src k h1
  · rcases List.mem_append.1 hk with h1 | h1
    · exact h.srq k (List.mem_cons_of_mem _ h1)
    · exact .step hrz h1
theorem Bfs.done {fs : List (List Int)} {zs : List Int} {S : List Bool} (h : Bfs fs zs [] S) : S = reachL fs zs := by
  have up : ∀ k, Reach fs zs k → S.getD k false = true := fun k hr => by
    induction hr with
    | root hz => rcases h.has _ hz with h1 | h1; exact h1; simp at h1
    | step hy hk ih => rcases h.cl _ ih _ hk with h1 | h1; exact h1; simp at h1
  exact eq_reachL h.len fun k => ⟨fun hk => ⟨by have := getD_lt hk; have := h.len; omega, h.src k hk⟩, fun ⟨_, hr⟩ => up k hr⟩
end Go.Proofs.Ytdagkbgobnaijab.Ph
