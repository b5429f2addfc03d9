/- Plain facts on the table of size classes, on pages and on waste: no program is named here. -/
namespace Go.Proofs.YtcelebblcjhpaaaDoor.Pl
def tab : List Int := [1, 2, 3, 4, 5, 6, 7, 8, 9, 10, 11, 12, 13, 14, 15, 16, 18, 20, 22, 24, 27, 30, 33, 37, 41, 46, 51, 57, 64, 72, 81, 91, 102, 114, 128, 144, 162, 182, 204, 229, 256]
def at_ (k : Nat) : Int := tab.getD k 0
theorem len : tab.length = 41 := rfl
theorem at_bd : ∀ k, k < 41 → 1 ≤ at_ k ∧ at_ k ≤ 256 := by decide
theorem at_40 : at_ 40 = 256 := by decide
/-- The step by which the classes grow, from class 7 on. -/
theorem at_step : ∀ k, k < 33 → at_ (k + 8) = (if 256 < at_ (k + 7) + at_ (k + 7) / 8 then 256 else at_ (k + 7) + at_ (k + 7) / 8) := by decide
theorem at_lt : ∀ k, k < 33 → at_ (k + 7) < 256 := by decide
theorem at_grow : ∀ k, k < 33 → at_ (k + 7) < at_ (k + 8) := by decide
theorem at_bd7 : ∀ k, k < 34 → 8 ≤ at_ (k + 7) ∧ at_ (k + 7) ≤ 256 := by decide
theorem at_end : ∀ k, k < 34 → 256 ≤ at_ (k + 7) → k = 33 := by decide
theorem take_succ (k : Nat) (h : k < 41) : tab.take (k + 1) = tab.take k ++ [at_ k] := by
  rw [List.take_succ_eq_append_getElem (by rw [len]; exact h)]
  congr 2
  unfold at_
  rw [List.getD_eq_getElem?_getD, List.getElem?_eq_getElem (by rw [len]; exact h)]
  rfl
theorem at_get (k : Nat) (h : k < 41) : tab[k]? = some (at_ k) := by
  unfold at_
  rw [List.getD_eq_getElem?_getD, List.getElem?_eq_getElem (by rw [len]; exact h)]
  rfl

/-- The class of a size: the first that is at least so large. -/
def cls (size : Int) : Nat := tab.findIdx (fun x => decide (size ≤ x))
def inR (size : Int) : Bool := decide (1 ≤ size ∧ size ≤ 256)
theorem inR_true {s : Int} (h : 1 ≤ s) (h' : s ≤ 256) : inR s = true := by simp [inR, h, h']
theorem inR_false {s : Int} (h : ¬ (1 ≤ s ∧ s ≤ 256)) : inR s = false := by simp only [inR, decide_eq_false h]
theorem cls_lt {s : Int} (h : s ≤ 256) : cls s < 41 := by
  have : cls s < tab.length := List.findIdx_lt_length_of_exists ⟨256, by decide, by simpa using h⟩
  simpa [len] using this
theorem cls_ge {s : Int} (h : s ≤ 256) : s ≤ at_ (cls s) := by
  have hl := cls_lt h
  have := List.findIdx_getElem (xs := tab) (p := fun x => decide (s ≤ x)) (w := by rw [len]; exact hl)
  have g := at_get (cls s) hl
  rw [List.getElem?_eq_getElem (by rw [len]; exact hl)] at g
  have g' := Option.some.inj g
  rw [← g']
  exact of_decide_eq_true this
theorem cls_before {s : Int} (j : Nat) (hj : j < cls s) (h41 : j < 41) : at_ j < s := by
  have := List.not_of_lt_findIdx (xs := tab) (p := fun x => decide (s ≤ x)) hj
  have g := at_get j h41
  rw [List.getElem?_eq_getElem (by rw [len]; exact h41)] at g
  have g' := Option.some.inj g
  rw [← g']
  simpa using this
/-- What a search from the front finds. -/
theorem cls_found {s : Int} {k : Nat} (hk : k < 41) (hlt : ∀ j, j < k → at_ j < s) (hge : s ≤ at_ k) : cls s = k := by
  by_cases h1 : cls s < k
  · have := cls_ge (s := s) (by have := at_bd k hk; omega)
    have := hlt _ h1
    omega
  · by_cases h2 : k < cls s
    · have := cls_before (s := s) k h2 hk
      omega
    · omega
theorem cls_none {s : Int} (h : s ≤ 256) (hlt : ∀ j, j < 41 → at_ j < s) : False := by
  have := hlt 40 (by omega)
  rw [at_40] at this
  omega
/-- Every class before k is too small. -/
def under (s : Int) (k : Nat) : Prop := ∀ j, j < k → at_ j < s
theorem under_zero (s : Int) : under s 0 := fun j h => absurd h (by omega)
theorem under_succ {s : Int} {k : Nat} (h : under s k) (h' : at_ k < s) : under s (k + 1) := fun j hj => by
  by_cases e : j = k
  · rw [e]; exact h'
  · exact h j (by omega)
theorem under_end {s : Int} (h : under s 41) : 256 < s := by have := h 40 (by omega); rw [at_40] at this; exact this
/-- What the search answers: the class, its size. -/
def cK (s : Int) : Int := if inR s = true then (cls s : Int) else 0
def cN (s : Int) : Int := if inR s = true then at_ (cls s) else 0
theorem cK_found {s : Int} {k : Nat} (h1 : 1 ≤ s) (h2 : s ≤ 256) (hk : k < 41) (hu : under s k) (hge : s ≤ at_ k) : cK s = k ∧ cN s = at_ k := by
  have h := cls_found hk hu hge
  have hr := inR_true h1 h2
  simp [cK, cN, hr, h]
theorem cK_no {s : Int} (h : ¬ (1 ≤ s ∧ s ≤ 256)) : cK s = 0 ∧ cN s = 0 ∧ inR s = false := by
  have hr := inR_false h
  simp [cK, cN, hr]
/-- The words that nobody uses. -/
def wst (s : Int) : Int := if inR s = true then cN s - s else 0
theorem inR_iff {s : Int} : inR s = true ↔ 1 ≤ s ∧ s ≤ 256 := by simp [inR]
theorem wst_yes {s : Int} (h : inR s = true) : wst s = cN s - s := by simp [wst, h]
theorem wst_no {s : Int} (h : inR s = false) : wst s = 0 := by simp [wst, h]
theorem cN_bd (s : Int) : 0 ≤ cN s ∧ cN s ≤ 256 := by
  unfold cN
  split
  · rename_i h
    have := at_bd (cls s) (cls_lt (inR_iff.1 h).2)
    omega
  · omega
/-- At most an eighth of the size is lost. -/
theorem eighth_all : ∀ s : Fin 257, 1 ≤ s.val → 8 * (at_ (cls (s.val : Int)) - (s.val : Int)) ≤ (s.val : Int) := by decide +kernel
theorem eighth {s : Int} (h : 1 ≤ s) (h' : s ≤ 256) : 8 * (at_ (cls s) - s) ≤ s := by
  obtain ⟨n, rfl⟩ := Int.eq_ofNat_of_zero_le (show 0 ≤ s by omega)
  exact eighth_all ⟨n, by omega⟩ (by show 1 ≤ n; omega)

theorem wst_bd (s : Int) : 0 ≤ wst s ∧ wst s ≤ 256 := by
  cases h : inR s with
  | false => rw [wst_no h]; omega
  | true =>
    rw [wst_yes h]
    have hr := inR_iff.1 h
    have h1 : cN s = at_ (cls s) := by simp [cN, h]
    have := cls_ge hr.2
    have := cN_bd s
    omega
theorem wst_eighth {s : Int} (h : inR s = true) : 8 * wst s ≤ s := by
  rw [wst_yes h]
  have h1 : cN s = at_ (cls s) := by simp [cN, h]
  rw [h1]
  exact eighth (inR_iff.1 h).1 (inR_iff.1 h).2
/-- Sums over lists of sizes. -/
def sumW (zs : List Int) : Int := (zs.map wst).sum
def sumS (zs : List Int) : Int := zs.sum
def swOk (zs : List Int) : Bool := decide (zs.length ≤ 40) && zs.all inR
def swW (zs : List Int) : Int := if swOk zs = true then sumW zs else 0
def swS (zs : List Int) : Int := if swOk zs = true then sumS zs else 0
theorem take_snoc {zs : List Int} {k : Nat} (h : k < zs.length) : zs.take (k + 1) = zs.take k ++ [zs.getD k 0] := by
  rw [List.take_succ_eq_append_getElem h]
  simp only [List.getD, List.getElem?_eq_getElem h, Option.getD_some]
theorem sumW_snoc {zs : List Int} {k : Nat} (h : k < zs.length) : sumW (zs.take (k + 1)) = sumW (zs.take k) + wst (zs.getD k 0) := by
  rw [take_snoc h]; simp only [sumW, List.map_append, List.sum_append, List.map_cons, List.map_nil, List.sum_cons, List.sum_nil]; omega
theorem sumS_snoc {zs : List Int} {k : Nat} (h : k < zs.length) : sumS (zs.take (k + 1)) = sumS (zs.take k) + zs.getD k 0 := by
  rw [take_snoc h]; simp only [sumS, List.sum_append, List.sum_cons, List.sum_nil]; omega
theorem all_snoc {zs : List Int} {k : Nat} (h : k < zs.length) : (zs.take (k + 1)).all inR = ((zs.take k).all inR && inR (zs.getD k 0)) := by
  rw [take_snoc h]; simp
theorem sumW_bd : ∀ (zs : List Int), 0 ≤ sumW zs ∧ sumW zs ≤ 256 * zs.length
  | [] => by simp [sumW]
  | z :: zs => by
    have h := sumW_bd zs
    have := wst_bd z
    simp only [sumW, List.map_cons, List.sum_cons, List.length_cons] at h ⊢
    omega
theorem sumS_bd : ∀ (zs : List Int), zs.all inR = true → 0 ≤ sumS zs ∧ sumS zs ≤ 256 * zs.length
  | [], _ => by simp [sumS]
  | z :: zs, ha => by
    simp only [List.all_cons, Bool.and_eq_true] at ha
    have h := sumS_bd zs ha.2
    have := inR_iff.1 ha.1
    simp only [sumS, List.sum_cons, List.length_cons] at h ⊢
    omega
theorem sum_eighth : ∀ (zs : List Int), zs.all inR = true → 8 * sumW zs ≤ sumS zs
  | [], _ => by simp [sumW, sumS]
  | z :: zs, ha => by
    simp only [List.all_cons, Bool.and_eq_true] at ha
    have h := sum_eighth zs ha.2
    have := wst_eighth ha.1
    simp only [sumW, sumS, List.map_cons, List.sum_cons] at h ⊢
    omega
theorem all_false_of {zs : List Int} {k : Nat} (h : k < zs.length) (hr : inR (zs.getD k 0) = false) : zs.all inR = false := by
  simp only [List.getD, List.getElem?_eq_getElem h, Option.getD_some] at hr
  rw [List.all_eq_false]
  exact ⟨zs[k], List.getElem_mem h, by simp [hr]⟩
theorem sw_no {zs : List Int} (h : swOk zs = false) : swW zs = 0 ∧ swS zs = 0 := by simp [swW, swS, h]
theorem sw_yes {zs : List Int} (h : swOk zs = true) : swW zs = sumW zs ∧ swS zs = sumS zs := by simp [swW, swS, h]
theorem swOk_long {zs : List Int} (h : 40 < zs.length) : swOk zs = false := by simp [swOk]; omega
theorem swOk_bad {zs : List Int} (h : zs.all inR = false) : swOk zs = false := by simp [swOk, h]
theorem swOk_good {zs : List Int} (h : zs.length ≤ 40) (h' : zs.all inR = true) : swOk zs = true := by simp [swOk, h, h']
theorem sw_eighth (zs : List Int) : 8 * swW zs ≤ swS zs := by
  cases h : swOk zs with
  | false => have := sw_no h; omega
  | true =>
    have h1 := sw_yes h
    have h2 : zs.all inR = true := by simp only [swOk, Bool.and_eq_true] at h; exact h.2
    have := sum_eighth zs h2
    omega
theorem sw_bd (zs : List Int) : 0 ≤ swW zs ∧ swW zs ≤ 10240 ∧ 0 ≤ swS zs ∧ swS zs ≤ 10240 := by
  cases h : swOk zs with
  | false => have := sw_no h; omega
  | true =>
    have h1 := sw_yes h
    simp only [swOk, Bool.and_eq_true, decide_eq_true_eq] at h
    have := sumS_bd zs h.2
    have := sumW_bd zs
    omega
/-- Do so many words take slots of this size, with at most an eighth left over? -/
def fits (r s : Int) : Bool := decide (s ≤ r ∧ 8 * (r % s) ≤ r)
theorem fits_impl {r s : Int} (_hs : 1 ≤ s) (hr : 1 ≤ r) : fits r s = decide (r % s ≤ r / 8) := by
  unfold fits
  by_cases h : s ≤ r
  · rw [decide_eq_decide]
    constructor
    · rintro ⟨_, h2⟩; omega
    · intro h2; exact ⟨h, by omega⟩
  · have e : r % s = r := Int.emod_eq_of_lt (by omega) (by omega)
    rw [decide_eq_decide, e]
    constructor
    · rintro ⟨h1, _⟩; omega
    · intro h2; omega
def pages (s : Int) : Int :=
  if fits 64 s then 1 else if fits 128 s then 2 else if fits 192 s then 3 else if fits 256 s then 4 else if fits 320 s then 5 else if fits 384 s then 6 else if fits 448 s then 7 else 8
theorem pages_found {s : Int} {n : Nat} (h1 : 1 ≤ n) (h7 : n ≤ 7) (hf : fits ((n : Int) * 64) s = true) (hno : ∀ m : Nat, 1 ≤ m → m < n → fits ((m : Int) * 64) s = false) : pages s = n := by
  have q1 := hno 1 (by omega); have q2 := hno 2 (by omega); have q3 := hno 3 (by omega); have q4 := hno 4 (by omega); have q5 := hno 5 (by omega); have q6 := hno 6 (by omega)
  simp only [Int.cast_ofNat_Int, Int.reduceMul] at q1 q2 q3 q4 q5 q6
  have hc : n = 1 ∨ n = 2 ∨ n = 3 ∨ n = 4 ∨ n = 5 ∨ n = 6 ∨ n = 7 := by omega
  unfold pages
  rcases hc with rfl | rfl | rfl | rfl | rfl | rfl | rfl <;> simp_all
theorem pages_none {s : Int} (hno : ∀ m : Nat, 1 ≤ m → m < 8 → fits ((m : Int) * 64) s = false) : pages s = 8 := by
  have q1 := hno 1 (by omega); have q2 := hno 2 (by omega); have q3 := hno 3 (by omega); have q4 := hno 4 (by omega); have q5 := hno 5 (by omega); have q6 := hno 6 (by omega); have q7 := hno 7 (by omega)
  simp only [Int.cast_ofNat_Int, Int.reduceMul] at q1 q2 q3 q4 q5 q6 q7
  unfold pages
  simp [q1, q2, q3, q4, q5, q6, q7]
theorem pages_bd (s : Int) : 1 ≤ pages s ∧ pages s ≤ 8 := by
  unfold pages
  repeat' split
  all_goals omega
theorem pages_fits (s : Int) (h : pages s < 8) : s ≤ pages s * 64 ∧ 8 * (pages s * 64 % s) ≤ pages s * 64 := by
  have key : ∀ r : Int, fits r s = true → s ≤ r ∧ 8 * (r % s) ≤ r := fun r h => by simpa [fits] using h
  unfold pages at h ⊢
  repeat' split at h
  all_goals first
    | (simp_all only [↓reduceIte]; exact key _ (by assumption))
    | omega
/-- Is it a class? Its pages, its slots, its tail. -/
def isCl (c : Int) : Bool := decide (0 ≤ c ∧ c < 41)
def szOf (c : Int) : Int := at_ c.toNat
def pgOf (c : Int) : Int := if isCl c = true then pages (szOf c) else 0
def slOf (c : Int) : Int := if isCl c = true then pages (szOf c) * 64 / szOf c else 0
def tlOf (c : Int) : Int := if isCl c = true then pages (szOf c) * 64 % szOf c else 0
theorem isCl_iff {c : Int} : isCl c = true ↔ 0 ≤ c ∧ c < 41 := by simp [isCl]
theorem isCl_false {c : Int} : isCl c = false ↔ ¬ (0 ≤ c ∧ c < 41) := by simp [isCl]
theorem szOf_bd {c : Int} (h : isCl c = true) : 1 ≤ szOf c ∧ szOf c ≤ 256 := at_bd _ (by have := isCl_iff.1 h; omega)
theorem cl_no {c : Int} (h : isCl c = false) : pgOf c = 0 ∧ slOf c = 0 ∧ tlOf c = 0 := by simp [pgOf, slOf, tlOf, h]
theorem cl_yes {c : Int} (h : isCl c = true) : pgOf c = pages (szOf c) ∧ slOf c = pages (szOf c) * 64 / szOf c ∧ tlOf c = pages (szOf c) * 64 % szOf c := by simp [pgOf, slOf, tlOf, h]
/-- No number of pages before n fits. -/
def noFit (s : Int) (n : Nat) : Prop := ∀ m : Nat, 1 ≤ m → m < n → fits ((m : Int) * 64) s = false
theorem noFit_one (s : Int) : noFit s 1 := fun m h h' => absurd h' (by omega)
theorem noFit_succ {s : Int} {n : Nat} (h : noFit s n) (hn : fits ((n : Int) * 64) s = false) : noFit s (n + 1) := fun m h1 h2 => by
  by_cases e : m = n
  · rw [e]; exact hn
  · exact h m h1 (by omega)
/-- What the law of slots asks. -/
theorem slots_law {c : Int} (h : isCl c = true) :
    slOf c * szOf c + tlOf c = pgOf c * 64 ∧ 0 ≤ tlOf c ∧ tlOf c < szOf c ∧ 1 ≤ slOf c ∧ slOf c ≤ 512 ∧ 1 ≤ pgOf c ∧ pgOf c ≤ 8 ∧ (pgOf c < 8 → 8 * tlOf c ≤ pgOf c * 64) := by
  obtain ⟨e1, e2, e3⟩ := cl_yes h
  obtain ⟨b1, b2⟩ := szOf_bd h
  rw [e1, e2, e3]
  generalize szOf c = s at *
  have hp := pages_bd s
  have hf := pages_fits s
  generalize pages s = p at *
  have hle : s ≤ p * 64 := by
    by_cases h8 : p < 8
    · exact (hf h8).1
    · omega
  have d1 := Int.mul_ediv_add_emod (p * 64) s
  have d2 := Int.emod_nonneg (p * 64) (show s ≠ 0 by omega)
  have d3 := Int.emod_lt_of_pos (p * 64) (show 0 < s by omega)
  have d4 : 1 ≤ p * 64 / s := (Int.le_ediv_iff_mul_le (by omega)).2 (by omega)
  have d5 : p * 64 / s ≤ 512 := by
    have h5 : p * 64 / s ≤ p * 64 := Int.ediv_le_self _ (by omega)
    omega
  refine ⟨by rw [Int.mul_comm]; exact d1, d2, d3, d4, d5, hp.1, hp.2, fun h8 => (hf h8).2⟩
end Go.Proofs.YtcelebblcjhpaaaDoor.Pl
