/- Plain facts on the table of size classes, on pages and on waste: no program is named here. -/
namespace Go.Proofs.YtlaembbgjgpmbaaDoor.Pl
def tab : List Int := [1, 2, 3, 4, 5, 6, 7, 8, 9, 10, 11, 12, 13, 14, 15, 16, 18, 20, 22, 24, 27, 30, 33, 37, 41, 46, 51, 57, 64, 72, 81, 91, 102, 114, 128, 144, 162, 182, 204, 229, 256]
def at_ (k : Nat) : Int := tab.getD k 0
theorem len : tab.length = 41 := rfl
theorem at_bd : ∀ k, k < 41 → 1 ≤ at_ k ∧ at_ k ≤ 256 := by decide
theorem at_40 : at_ 40 = 256 := by decide
/-- The step by which the classes grow, from class 7 on. -/
theorem at_step : ∀ k, k < 33 → at_ (k + 8) = (if 256 < at_ (k + 7) + at_ (k + 7) / 8 then 256 else at_ (k + 7) + at_ (k + 7) / 8) := by decide
theorem at_lt : ∀ k, k < 33 → at_ (k + 7) < 256 := by decide
theorem at_grow : ∀ k, k < 33 → at_ (k + 7) < at_ (k + 8) := by decide
theorem at_bd7 : ∀ k, k < 34 → 8 ≤ at_ (k + 7) ∧ at_ (k + 7) ≤ 256 := by decide
theorem at_end : ∀ k, k < 34 → 256 ≤ at_ (k + 7) → k = 33 := by decide
theorem take_succ (k : Nat) (h : k < 41) : tab.take (k + 1) = tab.take k ++ [at_ k] := by
  rw [List.take_succ_eq_append_getElem (by rw [len]; exact h)]
  congr 2
  unfold at_
  rw [List.getD_eq_getElem?_getD, List.getElem?_eq_getElem (by rw [len]; exact h)]
  rfl
theorem at_get (k : Nat) (h : k < 41) : tab[k]? = some (at_ k) := by
  unfold at_
  rw [List.getD_eq_getElem?_getD, List.getElem?_eq_getElem (by rw [len]; exact h)]
  rfl

/-- The class of a size: the first that is at least so large. -/
def cls (size : Int) : Nat := tab.findIdx (fun x => decide (size ≤ x))
def inR (size : Int) : Bool := decide (1 ≤ size ∧ size ≤ 256)
theorem inR_true {s : Int} (h : 1 ≤ s) (h' : s ≤ 256) : inR s = true := by simp [inR, h, h']
theorem inR_false {s : Int} (h : ¬ (1 ≤ s ∧ s ≤ 256)) : inR s = false := by simp only [inR, decide_eq_false h]
theorem cls_lt {s : Int} (h : s ≤ 256) : cls s < 41 := by
  have : cls s < tab.length := List.findIdx_lt_length_of_exists ⟨256, by decide, by simpa using h⟩
  simpa [len] using this
theorem cls_ge {s : Int} (h : s ≤ 256) : s ≤ at_ (cls s) := by
  have hl := cls_lt h
  have := List.findIdx_getElem (xs := tab) (p := fun x => decide (s ≤ x)) (w := by rw [len]; exact hl)
  have g := at_get (cls s) hl
  rw [List.getElem?_eq_getElem (by rw [len]; exact hl)] at g
  have g' := Option.some.inj g
  rw [← g']
  exact of_decide_eq_true this
theorem cls_before {s : Int} (j : Nat) (hj : j < cls s) (h41 : j < 41) : at_ j < s := by
  have := List.not_of_lt_findIdx (xs := tab) (p := fun x => decide (s ≤ x)) hj
  have g := at_get j h41
  rw [List.getElem?_eq_getElem (by rw [len]; exact h41)] at g
  have g' := Option.some.inj g
  rw [← g']
  simpa using this
/-- What a search from the front finds. -/
theorem cls_found {s : Int} {k : Nat} (hk : k < 41) (hlt : ∀ j, j < k → at_ j < s) (hge : s ≤ at_ k) : cls s = k := by
  by_cases h1 : cls s < k
  · have := cls_ge (s := s) (by have := at_bd k hk; omega)
    have := hlt _ h1
    omega
  · by_cases h2 : k < cls s
    · have := cls_before (s := s) k h2 hk
      omega
    · omega
theorem cls_none {s : Int} (h : s ≤ 256) (hlt : ∀ j, j < 41 → at_ j < s) : False := by
  have := hlt 40 (by omega)
  rw [at_40] at this
  omega
/-- Every class before k is too small. -/
def under (s : Int) (k : Nat) : Prop := ∀ j, j < k → at_ j < s
theorem under_zero (s : Int) : under s 0 := fun j h => absurd h (by omega)
theorem under_succ {s : Int} {k : Nat} (h : under s k) (h' : at_ k < s) : under s (k + 1) := fun j hj => by
  by_cases e : j = k
  · rw [e]; exact h'
  · exact h j (by omega)
theorem under_end {s : Int} (h : under s 41) : 256 < s := by have := h 40 (by omega); rw [at_40] at this; exact this
/-- What the search answers: the class, its size. -/
def cK (s : Int) : Int := if inR s = true then (cls s : Int) else 0
def cN (s : Int) : Int := if inR s = true then at_ (cls s) else 0
theorem cK_found {s : Int} {k : Nat} (h1 : 1 ≤ s) (h2 : s ≤ 256) (hk : k < 41) (hu : under s k) (hge : s ≤ at_ k) : cK s = k ∧ cN s = at_ k := by
  have h := cls_found hk hu hge
  have hr := inR_true h1 h2
  simp [cK, cN, hr, h]
theorem cK_no {s : Int} (h : ¬ (1 ≤ s ∧ s ≤ 256)) : cK s = 0 ∧ cN s = 0 ∧ inR s = false := by
  have hr := inR_false h
  simp [cK, cN, hr]
/-- The words that nobody uses. -/
def wst (s : Int) : Int := if inR s = true then cN s - s else 0
theorem inR_iff {s : Int} : inR s = true ↔ 1 ≤ s ∧ s ≤ 256 := by simp [inR]
theorem wst_yes {s : Int} (h : inR s = true) : wst s = cN s - s := by simp [wst, h]
theorem wst_no {s : Int} (h : inR s = false) : wst s = 0 := by simp [wst, h]
theorem cN_bd (s : Int) : 0 ≤ cN s ∧ cN s ≤ 256 := by
  unfold cN
  split
  · rename_i h
    have := at_bd (cls s) (cls_lt (inR_iff.1 h).2)
    omega
  · omega
/-- At most an eighth of the size is lost. -/
theorem eighth_all : ∀ s : Fin 257, 1 ≤ s.val → 8 * (at_ (cls (s.val : Int)) - (s.val : Int)) ≤ (s.val : Int) := by decide +kernel
theorem eighth {s : Int} (h : 1 ≤ s) (h' : s ≤ 256) : 8 * (at_ (cls s) - s) ≤ s := by
  obtain ⟨n, rfl⟩ := Int.eq_ofNat_of_zero_le (show 0 ≤ s by omega)
  exact eighth_all ⟨n, by omega⟩ (by show 1 ≤ n; omega)

theorem wst_bd (s : Int) : 0 ≤ wst s ∧ wst s ≤ 256 := by
  cases h : inR s with
  | false => rw [wst_no h]; omega
  | true =>
    rw [wst_yes h]
    have hr := inR_iff.1 h
    have h1 : cN s = at_ (cls s) := by simp [cN, h]
    have := cls_ge hr.2
    have := cN_bd s
    omega
theorem wst_eighth {s : Int} (h : inR s = true) : 8 * wst s ≤ s := by
  rw [wst_yes h]
  have h1 : cN s = at_ (cls s) := by simp [cN, h]
  rw [h1]
  exact eighth (inR_iff.1 h).1 (inR_iff.1 h).2
/-- Do so many words take slots of this size, with at most an eighth left over? -/
def fits (r s : Int) : Bool := decide (s ≤ r ∧ 8 * (r % s) ≤ r)
theorem fits_impl {r s : Int} (_hs : 1 ≤ s) (hr : 1 ≤ r) : fits r s = decide (r % s ≤ r / 8) := by
  unfold fits
  by_cases h : s ≤ r
  · rw [decide_eq_decide]
    constructor
    · rintro ⟨_, h2⟩; omega
    · intro h2; exact ⟨h, by omega⟩
  · have e : r % s = r := Int.emod_eq_of_lt (by omega) (by omega)
    rw [decide_eq_decide, e]
    constructor
    · rintro ⟨h1, _⟩; omega
    · intro h2; omega
def pages (s : Int) : Int :=
  if fits 64 s then 1 else if fits 128 s then 2 else if fits 192 s then 3 else if fits 256 s then 4 else if fits 320 s then 5 else if fits 384 s then 6 else if fits 448 s then 7 else 8
theorem pages_found {s : Int} {n : Nat} (h1 : 1 ≤ n) (h7 : n ≤ 7) (hf : fits ((n : Int) * 64) s = true) (hno : ∀ m : Nat, 1 ≤ m → m < n → fits ((m : Int) * 64) s = false) : pages s = n := by
  have q1 := hno 1 (by omega); have q2 := hno 2 (by omega); have q3 := hno 3 (by omega); have q4 := hno 4 (by omega); have q5 := hno 5 (by omega); have q6 := hno 6 (by omega)
  simp only [Int.cast_ofNat_Int, Int.reduceMul] at q1 q2 q3 q4 q5 q6
  have hc : n = 1 ∨ n = 2 ∨ n = 3 ∨ n = 4 ∨ n = 5 ∨ n = 6 ∨ n = 7 := by omega
  unfold pages
  rcases hc with rfl | rfl | rfl | rfl | rfl | rfl | rfl <;> simp_all
theorem pages_none {s : Int} (hno : ∀ m : Nat, 1 ≤ m → m < 8 → fits ((m : Int) * 64) s = false) : pages s = 8 := by
  have q1 := hno 1 (by omega); have q2 := hno 2 (by omega); have q3 := hno 3 (by omega); have q4 := hno 4 (by omega); have q5 := hno 5 (by omega); have q6 := hno 6 (by omega); have q7 := hno 7 (by omega)
  simp only [Int.cast_ofNat_Int, Int.reduceMul] at q1 q2 q3 q4 q5 q6 q7
  unfold pages
  simp [q1, q2, q3, q4, q5, q6, q7]
theorem pages_bd (s : Int) : 1 ≤ pages s ∧ pages s ≤ 8 := by
  unfold pages
  repeat' split
  all_goals omega
theorem pages_fits (s : Int) (h : pages s < 8) : s ≤ pages s * 64 ∧ 8 * (pages s * 64 % s) ≤ pages s * 64 := by
  have key : ∀ r : Int, fits r s = true → s ≤ r ∧ 8 * (r % s) ≤ r := fun r h => by simpa [fits] using h
  unfold pages at h ⊢
  repeat' split at h
  all_goals first
    | (simp_all only [↓reduceIte]; exact key _ (by assumption))
    | omega
end Go.Proofs.YtlaembbgjgpmbaaDoor.Pl
