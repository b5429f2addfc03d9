/- Steps and pages: a page is free just where the list has it; counts. -/
import Derived.Test.YtdiejmebodpjeaaDn3
namespace Go.Proofs.Ytdiejmebodpjeaa.Pr

/-- How many pages below k. -/
def cnt (f : Nat → Bool) : Nat → Int
  | 0 => 0
  | k + 1 => cnt f k + (if f k then 1 else 0)
theorem cnt_congr {f g : Nat → Bool} : ∀ k, (∀ p, p < k → f p = g p) → cnt f k = cnt g k
  | 0, _ => rfl
  | k + 1, h => by rw [cnt, cnt, cnt_congr k fun p hp => h p (by omega), h k (by omega)]
theorem cnt_bound (f : Nat → Bool) : ∀ k, 0 ≤ cnt f k ∧ cnt f k ≤ (k : Int)
  | 0 => by simp [cnt]
  | k + 1 => by
    have := cnt_bound f k
    rw [cnt]
    split <;> omega
theorem cnt_or {f g : Nat → Bool} : ∀ k, (∀ p, p < k → ¬ (f p = true ∧ g p = true)) → cnt (fun p => f p || g p) k = cnt f k + cnt g k
  | 0, _ => rfl
  | k + 1, h => by
    rw [cnt, cnt, cnt, cnt_or k fun p hp => h p (by omega)]
    have := h k (by omega)
    cases hf : f k <;> cases hg : g k
    · simp
    · simp; omega
    · simp; omega
    · exact absurd ⟨hf, hg⟩ this
theorem cnt_false : ∀ k, cnt (fun _ => false) k = 0
  | 0 => rfl
  | k + 1 => by rw [cnt, cnt_false k]; simp
theorem cnt_run (a n : Nat) : ∀ k, cnt (fun p => decide (a ≤ p) && decide (p < a + n)) k = ((min (max k a) (a + n) - a : Nat) : Int)
  | 0 => by simp [cnt]
  | k + 1 => by
    rw [cnt, cnt_run a n k]
    by_cases h1 : a ≤ k
    · by_cases h2 : k < a + n
      · simp [h1, h2]; omega
      · simp [h1, h2]; omega
    · simp [h1]; omega
theorem cnt_pages : ∀ {l : List R} {least : Int}, good least l = true → cnt (pgB l) 32 = sumR l
  | [], _, _ => by
    have : pgB [] = fun _ => false := by funext p; rfl
    rw [this, cnt_false]; rfl
  | x :: t, least, h => by
    obtain ⟨_, h2, h3⟩ := (good_cons_iff _ _ _).1 h
    have h2 := (okR_iff _).1 h2
    obtain ⟨x1, x2⟩ := x
    simp only [] at h2 h3
    obtain ⟨a, rfl⟩ : ∃ a : Nat, x1 = a := ⟨x1.toNat, by omega⟩
    obtain ⟨n, rfl⟩ : ∃ n : Nat, x2 = n := ⟨x2.toNat, by omega⟩
    have e : pgB (((a : Int), (n : Int)) :: t) = fun p => (decide (a ≤ p) && decide (p < a + n)) || pgB t p := by
      funext p
      show ((decide ((a : Int) ≤ p) && decide ((p : Int) < (a : Int) + n)) || pgB t p) = _
      congr 2 <;> (apply decide_eq_decide.2; omega)
    rw [e, cnt_or, cnt_run, cnt_pages h3, sumR_cons]
    · simp only []
      omega
    · intro p hp hc
      obtain ⟨c1, c2⟩ := hc
      obtain ⟨z, hz, hz1, hz2⟩ := (pgB_iff _ _).1 c2
      have := (good_mem h3 z hz).2
      simp at c1
      omega
/-- Which pages a step touches, and how. -/
theorem step_pages {l : List R} {s : R} {ts : List R} {p : Int} (hg : good 0 l = true) (h : stepO l s = some (ts, p)) :
    ∃ a n : Nat, (if s.1 < 0 then p else s.1) = (a : Int) ∧ s.2 = (n : Int) ∧ a + n ≤ 32 ∧ (∀ q, a ≤ q → q < a + n → pgB l q = decide (s.1 < 0)) ∧ (∀ q, q < 32 → pgB ts q = if a ≤ q ∧ q < a + n then !decide (s.1 < 0) else pgB l q) := by
  unfold stepO at h
  by_cases c : s.1 < 0
  · rw [if_pos c] at h ⊢
    obtain ⟨_, h1, h2, b, hb, rfl, rfl⟩ := takeR_some h
    obtain ⟨hm, hl, _⟩ := bestOf_some hb
    have hbo := (okR_iff _).1 (good_mem hg b hm).1
    refine ⟨b.1.toNat, s.2.toNat, by omega, by omega, by omega, fun q h3 h4 => ?_, fun q hq => ?_⟩
    · rw [decide_eq_true c]
      exact (pgB_iff _ _).2 ⟨b, hm, by omega, by omega⟩
    · rw [decide_eq_true c]
      have hp := takeL_pg hg hm h1 hl (q : Int)
      rw [← pgB_iff, ← pgB_iff] at hp
      split
      · rename_i hc
        cases e : pgB (takeL l s.2 b) q with
        | false => rfl
        | true => exact absurd (show b.1 ≤ (q : Int) ∧ (q : Int) < b.1 + s.2 by omega) (hp.1 e).2
      · rename_i hc
        rw [Bool.eq_iff_iff, hp]
        constructor
        · exact fun h => h.1
        · exact fun h => ⟨h, by omega⟩
  · rw [if_neg c] at h ⊢
    obtain ⟨x, hx, e⟩ := Option.map_eq_some_iff.1 h
    simp only [Prod.mk.injEq] at e
    obtain ⟨rfl, rfl⟩ := e
    obtain ⟨_, hok, hme, rfl⟩ := giveR_some hx
    have ho := (okR_iff _).1 hok
    refine ⟨s.1.toNat, s.2.toNat, by omega, by omega, by omega, fun q h3 h4 => ?_, fun q hq => ?_⟩
    · rw [decide_eq_false c]
      cases e : pgB l q with
      | false => rfl
      | true =>
        have := page_meets (r := s) (by omega) (by omega) e
        rw [hme] at this
        cases this
    · rw [decide_eq_false c]
      have hp := (giveL_spec hg hok hme).2 (q : Int)
      rw [← pgB_iff, ← pgB_iff] at hp
      split
      · rename_i hc
        exact hp.2 (.inr (by omega))
      · rename_i hc
        rw [Bool.eq_iff_iff, hp]
        constructor
        · rintro (h | h)
          · exact h
          · omega
        · exact .inl
theorem foldl_told (f : List R × List Int → R → List R × List Int) (hf : ∀ a s, ∃ x, (f a s).2 = a.2 ++ [x]) : ∀ (ss : List R) (a : List R × List Int) (k : Nat), k < a.2.length → (ss.foldl f a).2.getD k 0 = a.2.getD k 0
  | [], _, _, _ => rfl
  | s :: t, a, k, hk => by
    obtain ⟨x, hx⟩ := hf a s
    rw [List.foldl_cons, foldl_told f hf t (f a s) k (by rw [hx]; simp; omega), hx]
    simp only [List.getD]
    rw [List.getElem?_append_left hk]
/-- What is told of a step. -/
theorem told_at {ss : List R} {k : Nat} (h : k < ss.length) : (playTo ss).2.getD k 0 = (stepL (playTo (ss.take k)).1 (ss.getD k (0, 0))).2 := by
  have h1 := playTo_good ss k (by omega)
  have h2 := playTo_take_succ h
  have e : playTo ss = (ss.drop (k + 1)).foldl (fun a s => ((stepL a.1 s).1, a.2 ++ [(stepL a.1 s).2])) (playTo (ss.take (k + 1))) := by
    unfold playTo
    rw [← List.foldl_append, List.take_append_drop]
  rw [e, foldl_told _ (fun a s => ⟨_, rfl⟩) _ _ _ (by rw [h2]; simp [h1.2]), h2]
  have hl := h1.2
  generalize (playTo (ss.take k)).2 = told at hl
  subst hl
  simp
/-- FreeIn and LongestIn, whatever the list. -/
def freeV (rs : List R) : Int := if good 0 rs = true then sumR rs else 0
def longV (rs : List R) : Int := if good 0 rs = true then maxR rs else 0
end Go.Proofs.Ytdiejmebodpjeaa.Pr
namespace Go.Proofs.Ytdiejmebodpjeaa
open Go.RowKit Pr

theorem c_FreeIn (v : Value) (rs : List R) (w : World) (hA : RunsAt w v rs) (hI : Bnd rs) (hm : rs.length ≤ 1048576) : Calls Try.prog 19 #[v] w fun e w' => e = .returned (.tuple #[.int .i64 (freeV rs), .bool (good 0 rs)]) ∧ Below w.heap.size w w' := by
  unfold freeV
  cases hg : good 0 rs with
  | true => exact c_FreeIn_yes v rs w hA hg
  | false => exact c_FreeIn_no v rs w hA hI hm hg
theorem s_FreeIn (v : Value) (rs : List R) (w : World) (hA : RunsAt w v rs) (hI : Bnd rs) (hm : rs.length ≤ 1048576) : Calls Try.prog 28 #[v] w fun e w' => e = .returned (.tuple #[.int .i64 (freeV rs), .bool (good 0 rs)]) ∧ Below w.heap.size w w' := by
  unfold freeV
  cases hg : good 0 rs with
  | true => exact s_FreeIn_yes v rs w hA hg
  | false => exact s_FreeIn_no v rs w hA hI hm hg
theorem c_LongestIn (v : Value) (rs : List R) (w : World) (hA : RunsAt w v rs) (hI : Bnd rs) (hm : rs.length ≤ 1048576) : Calls Try.prog 20 #[v] w fun e w' => e = .returned (.tuple #[.int .i64 (longV rs), .bool (good 0 rs)]) ∧ Below w.heap.size w w' := by
  unfold longV
  cases hg : good 0 rs with
  | true => exact c_LongestIn_yes v rs w hA hg
  | false => exact c_LongestIn_no v rs w hA hI hm hg
theorem s_LongestIn (v : Value) (rs : List R) (w : World) (hA : RunsAt w v rs) (hI : Bnd rs) (hm : rs.length ≤ 1048576) : Calls Try.prog 30 #[v] w fun e w' => e = .returned (.tuple #[.int .i64 (longV rs), .bool (good 0 rs)]) ∧ Below w.heap.size w w' := by
  unfold longV
  cases hg : good 0 rs with
  | true => exact s_LongestIn_yes v rs w hA hg
  | false => exact s_LongestIn_no v rs w hA hI hm hg
theorem c_sameI (va vb : Value) (zs : List Int) (w : World) (hA : IntsAt w va zs) (hB : IntsAt w vb zs) (hm : zs.length ≤ 1000) : Calls Try.prog 26 #[va, vb] w fun e w' => e = .returned (.bool true) ∧ Below w.heap.size w w' :=
  (c_sameInts va vb zs zs w hA hB (by omega)).mono fun _ _ ⟨he, n, hw⟩ => ⟨he.trans (r_b (decide_eq_true rfl)), by rw [hw]; exact below_drewN (Below.refl _ _) n⟩
end Go.Proofs.Ytdiejmebodpjeaa
