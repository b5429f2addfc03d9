/- Plain mathematics of words and bits: the first bit, the list of bits. -/
import Derived.Test.YtcelebblcjhpaaaDoorPb
import Derived.Lib.TrailingZeros
namespace Go.Proofs.YtcelebblcjhpaaaDoor.Pb
open Go Go.RowKit

/-- The lowest bit of a word. -/
def tz (x : Int) : Nat := Lib.ctz 16 x.toNat
theorem low_spec {x : Int} (h : W16 x) (h0 : x ≠ 0) : tz x < 16 ∧ tb x (tz x) = true ∧ (∀ i, i < tz x → tb x i = false) ∧ ∀ i, tb (bits .and .u16 x (x - 1)) i = (tb x i && decide (i ≠ tz x)) := by
  obtain ⟨n, rfl, hn⟩ := h.nat
  have hn0 : n ≠ 0 := by omega
  obtain ⟨m, hm, hk⟩ := Lib.ctzFrom_spec 16 n (by omega) (by omega)
  have e : tz (n : Int) = Lib.ctzFrom 16 n := by simp [tz, Lib.ctz, hn0]
  rw [e]
  generalize Lib.ctzFrom 16 n = k at *
  have hp := Nat.two_pow_pos k
  have e1 : n = 2 ^ (k + 1) * m + 2 ^ k := by rw [hm, Nat.pow_succ]; simp only [Nat.mul_add, Nat.mul_one, Nat.mul_assoc]
  have hlt : 2 ^ k < 2 ^ (k + 1) := by rw [Nat.pow_succ]; omega
  have t1 : ∀ i, n.testBit i = if i < k + 1 then decide (k = i) else m.testBit (i - (k + 1)) := fun i => by
    rw [e1, Nat.testBit_two_pow_mul_add _ hlt, Nat.testBit_two_pow]
  have t2 : ∀ i, (n - 1).testBit i = if i < k + 1 then decide (i < k) else m.testBit (i - (k + 1)) := fun i => by
    have e2 : n - 1 = 2 ^ (k + 1) * m + (2 ^ k - 1) := by omega
    rw [e2, Nat.testBit_two_pow_mul_add _ (by omega), Nat.testBit_two_pow_sub_one]
  refine ⟨hk, ?_, fun i hi => ?_, fun i => ?_⟩
  · rw [tb_nat, t1, if_pos (by omega)]; simp
  · rw [tb_nat, t1, if_pos (by omega)]; simp; omega
  · rw [show (n : Int) - 1 = ((n - 1 : Nat) : Int) by omega, and16 n (n - 1) hn (by omega), tb_nat, tb_nat, Nat.testBit_and, t1, t2]
    by_cases hi : i < k + 1
    · rw [if_pos hi, if_pos hi]
      by_cases q : k = i
      · subst q; simp
      · simp [q]
    · rw [if_neg hi, if_neg hi, decide_eq_true (show i ≠ k by omega)]; simp
theorem low_w {x : Int} (h : W16 x) (h0 : x ≠ 0) : W16 (bits .and .u16 x (x - 1)) := by
  obtain ⟨n, rfl, hn⟩ := h.nat
  rw [show (n : Int) - 1 = ((n - 1 : Nat) : Int) by omega]
  exact w_and _ _
theorem tb_zero (i : Nat) : tb 0 i = false := by simp [tb]

/-- The first of n numbers, from a on, at which p holds. -/
def findP (p : Nat → Bool) (a : Nat) : Nat → Option Nat
  | 0 => none
  | n + 1 => if p a then some a else findP p (a + 1) n
theorem findP_hit {p : Nat → Bool} {a n : Nat} (h : p a = true) (hn : 0 < n) : findP p a n = some a := by
  obtain ⟨m, rfl⟩ : ∃ m, n = m + 1 := ⟨n - 1, by omega⟩
  simp [findP, h]
theorem findP_skip1 {p : Nat → Bool} {a n : Nat} (h : p a = false) (hn : 0 < n) : findP p a n = findP p (a + 1) (n - 1) := by
  obtain ⟨m, rfl⟩ : ∃ m, n = m + 1 := ⟨n - 1, by omega⟩
  simp [findP, h]
theorem findP_skip {p : Nat → Bool} : ∀ (d a n : Nat), (∀ j, j < d → p (a + j) = false) → d ≤ n → findP p a n = findP p (a + d) (n - d)
  | 0, a, n, _, _ => by simp
  | d + 1, a, n, h, hn => by
    have h0 := h 0 (by omega)
    simp only [Nat.add_zero] at h0
    rw [findP_skip1 h0 (by omega), findP_skip d (a + 1) (n - 1) (fun j hj => by have := h (j + 1) (by omega); rwa [show a + 1 + j = a + (j + 1) by omega]) (by omega)]
    rw [show a + 1 + d = a + (d + 1) by omega, show n - 1 - d = n - (d + 1) by omega]
theorem findP_congr {p q : Nat → Bool} : ∀ (n a : Nat), (∀ j, j < n → p (a + j) = q (a + j)) → findP p a n = findP q a n
  | 0, _, _ => rfl
  | n + 1, a, h => by
    unfold findP
    have := h 0 (by omega)
    simp only [Nat.add_zero] at this
    have ih := findP_congr (p := p) (q := q) n (a + 1) (fun j hj => by have h1 := h (j + 1) (by omega); rw [show a + 1 + j = a + (j + 1) by omega]; exact h1)
    rw [this, ih]
theorem findP_none {p : Nat → Bool} : ∀ (n a : Nat), (∀ j, j < n → p (a + j) = false) → findP p a n = none
  | 0, _, _ => rfl
  | n + 1, a, h => by
    have := h 0 (by omega)
    simp only [Nat.add_zero] at this
    unfold findP
    rw [if_neg (by rw [this]; simp), findP_none n (a + 1) (fun j hj => by have := h (j + 1) (by omega); rwa [show a + 1 + j = a + (j + 1) by omega])]
theorem findP_trim {p : Nat → Bool} : ∀ (n m a : Nat), (∀ j, n ≤ j → p (a + j) = false) → findP p a (n + m) = findP p a n
  | 0, m, a, h => by rw [Nat.zero_add, findP_none m a (fun j _ => h j (by omega))]; rfl
  | n + 1, m, a, h => by
    rw [show n + 1 + m = (n + m) + 1 by omega]
    unfold findP
    rw [findP_trim n m (a + 1) (fun j hj => by have := h (j + 1) (by omega); rwa [show a + 1 + j = a + (j + 1) by omega])]
theorem findP_some {p : Nat → Bool} : ∀ {n a m : Nat}, findP p a n = some m → a ≤ m ∧ m < a + n ∧ p m = true ∧ ∀ j, a ≤ j → j < m → p j = false
  | 0, _, _, h => by cases h
  | n + 1, a, m, h => by
    unfold findP at h
    split at h
    · rename_i hp
      cases h
      exact ⟨by omega, by omega, hp, fun j h1 h2 => by omega⟩
    · rename_i hp
      obtain ⟨h1, h2, h3, h4⟩ := findP_some h
      refine ⟨by omega, by omega, h3, fun j hj hm => ?_⟩
      by_cases e : j = a
      · subst e; simpa using hp
      · exact h4 j (by omega) hm
def optN : Option Nat → Int
  | some m => m
  | none => 0
theorem free_bit {long : Int} {zs : List Int} (hB : Bok long zs) (a : Int) (k : Nat) : bitF (fun j => bits .andNot .u16 (runW a long j) (zs.getD j 0)) k = (decide (a ≤ (k : Int)) && decide ((k : Int) < long) && !bitL zs k) := by
  rw [bitF_andNot (fun j => w_runW _ _ _) hB.w, bitF_runW]; rfl
/-- The project's first free bit is the reference's. -/
theorem free_eq {long : Int} {zs : List Int} (hB : Bok long zs) {a L : Nat} (hL : long = L) (h1 : a ≤ L) : findP (bitF fun j => bits .andNot .u16 (runW a long j) (zs.getD j 0)) 0 96 = findP (fun k => !bitL zs k) a (L - a) := by
  have hl := hB.2.1
  rw [findP_skip a 0 96 (fun j hj => by rw [free_bit hB, decide_eq_false (show ¬ (a : Int) ≤ ((0 + j : Nat) : Int) by omega)]; simp) (by omega), Nat.zero_add,
    show 96 - a = (L - a) + (96 - L) by omega, findP_trim (L - a) (96 - L) a (fun j hj => by rw [free_bit hB, decide_eq_false (show ¬ ((a + j : Nat) : Int) < long by omega)]; simp)]
  refine findP_congr _ _ (fun j hj => ?_)
  rw [free_bit hB, decide_eq_true (show (a : Int) ≤ ((a + j : Nat) : Int) by omega), decide_eq_true (show ((a + j : Nat) : Int) < long by omega)]
  simp
/-- The numbers below n at which p holds. -/
def ups (p : Nat → Bool) (n : Nat) : List Int := ((List.range n).filter p).map (fun i : Nat => (i : Int))
theorem ups_succ (p : Nat → Bool) (n : Nat) : ups p (n + 1) = ups p n ++ if p n then [(n : Int)] else [] := by
  unfold ups
  rw [List.range_succ, List.filter_append, List.map_append]
  congr 1
  by_cases h : p n <;> simp [h]
theorem ups_length_le (p : Nat → Bool) (n : Nat) : (ups p n).length ≤ n := by
  unfold ups
  rw [List.length_map]
  have := List.length_filter_le p (List.range n)
  simpa using this
theorem ups_congr {p q : Nat → Bool} (n : Nat) (h : ∀ i, i < n → p i = q i) : ups p n = ups q n := by
  unfold ups
  congr 1
  exact List.filter_congr (fun i hi => h i (by simpa using hi))
theorem ups_add (p : Nat → Bool) (a : Nat) : ∀ b, ups p (a + b) = ups p a ++ (ups (fun i => p (a + i)) b).map (fun z => (a : Int) + z)
  | 0 => by simp [ups]
  | b + 1 => by
    rw [← Nat.add_assoc, ups_succ, ups_add p a b, ups_succ, List.map_append, List.append_assoc]
    congr 2
    by_cases h : p (a + b) <;> simp [h]
theorem ups_length (p : Nat → Bool) : ∀ n, ((ups p n).length : Int) = countTo p n
  | 0 => rfl
  | n + 1 => by
    rw [ups_succ, List.length_append, countTo, ← ups_length p n]
    by_cases h : p n <;> simp [h]
/-- The bits of one word, as numbers from a base on. -/
def lst (a : Nat) (x : Int) : List Int := (ups (tb x) 16).map (fun z => (a : Int) + z)
theorem lst_zero (a : Nat) : lst a 0 = [] := by
  unfold lst ups
  rw [List.filter_eq_nil_iff.2 (fun i _ => by rw [tb_zero]; simp)]
  rfl
theorem ups_cons {p q : Nat → Bool} {k : Nat} (hk : p k = true) (hlo : ∀ i, i < k → p i = false) (hq : ∀ i, q i = (p i && decide (i ≠ k))) : ∀ n, ups p n = if k < n then (k : Int) :: ups q n else []
  | 0 => by simp [ups]
  | n + 1 => by
    rw [ups_succ, ups_cons hk hlo hq n, ups_succ, hq n]
    by_cases h : k < n
    · rw [if_pos h, if_pos (show k < n + 1 by omega), decide_eq_true (show n ≠ k by omega), Bool.and_true, List.cons_append]
    · rw [if_neg h]
      by_cases e : k = n
      · subst e
        have e0 : ups q k = [] := by
          unfold ups
          rw [List.filter_eq_nil_iff.2 (fun i hi => by rw [hq, hlo i (by simpa using hi)]; simp)]
          rfl
        rw [if_pos (show k < k + 1 by omega), hk, e0]; simp
      · rw [if_neg (show ¬ k < n + 1 by omega), hlo n (by omega)]; simp
theorem lst_cons (a : Nat) {x : Int} (h : W16 x) (h0 : x ≠ 0) : lst a x = ((a : Int) + (tz x : Int)) :: lst a (bits .and .u16 x (x - 1)) := by
  obtain ⟨h1, h2, h3, h4⟩ := low_spec h h0
  unfold lst
  rw [ups_cons h2 h3 h4 16, if_pos h1]
  simp
theorem ups_word (f : Nat → Int) (k : Nat) : ups (bitF f) (16 * (k + 1)) = ups (bitF f) (16 * k) ++ lst (16 * k) (f k) := by
  rw [show 16 * (k + 1) = 16 * k + 16 by omega, ups_add]
  unfold lst
  congr 2
  refine ups_congr 16 (fun i hi => ?_)
  unfold bitF
  rw [show (16 * k + i) / 16 = k by omega, show (16 * k + i) % 16 = i by omega]
/-- The bits of a valid bitmap, whatever the bound behind its length. -/
theorem ups_all {long : Int} {zs : List Int} (hB : Bok long zs) {L : Nat} (hL : long = L) : ups (bitF fun k => zs.getD k 0) 96 = ups (bitL zs) L := by
  have hl := hB.2.1
  rw [show (96 : Nat) = L + (96 - L) by omega, ups_add]
  have e : ups (fun i => bitF (fun k => zs.getD k 0) (L + i)) (96 - L) = [] := by
    unfold ups
    rw [List.filter_eq_nil_iff.2 (fun i _ => by have := hB.2.2.2.2 (L + i) (by omega); unfold bitL at this; rw [this]; simp)]
    rfl
  rw [e]
  simp
  rfl
theorem lst_bd {a : Nat} {x : Int} : ∀ z ∈ lst a x, (a : Int) ≤ z ∧ z < a + 16 := by
  intro z hz
  unfold lst ups at hz
  simp at hz
  obtain ⟨i, ⟨hi, _⟩, rfl⟩ := hz
  omega
end Go.Proofs.YtcelebblcjhpaaaDoor.Pb
