/- Plain mathematics of words and bits: counts and lists of bits. -/
import Derived.Test.YtcelebblcjhpaaaDoorPd
namespace Go.Proofs.YtcelebblcjhpaaaDoor.Pb
open Go Go.RowKit

theorem countTo_true {p : Nat → Bool} : ∀ n, (∀ i, i < n → p i = true) → countTo p n = n
  | 0, _ => rfl
  | n + 1, h => by unfold countTo; rw [countTo_true n (fun i hi => h i (by omega)), h n (by omega)]; simp
theorem countTo_part (p q : Nat → Bool) : ∀ n, countTo (fun i => p i && q i) n + countTo (fun i => p i && !q i) n = countTo p n
  | 0 => rfl
  | n + 1 => by
    have := countTo_part p q n
    unfold countTo
    cases p n <;> cases q n <;> simp <;> omega
theorem mem_ups (p : Nat → Bool) (n : Nat) (x : Int) : x ∈ ups p n ↔ ∃ i, i < n ∧ p i = true ∧ x = (i : Int) := by
  unfold ups
  simp only [List.mem_map, List.mem_filter, List.mem_range]
  constructor
  · rintro ⟨i, ⟨h1, h2⟩, rfl⟩; exact ⟨i, h1, h2, rfl⟩
  · rintro ⟨i, h1, h2, rfl⟩; exact ⟨i, ⟨h1, h2⟩, rfl⟩
theorem mem_ups_nat (p : Nat → Bool) (n i : Nat) : ((i : Int) ∈ ups p n) ↔ (i < n ∧ p i = true) := by
  rw [mem_ups]
  constructor
  · rintro ⟨j, h1, h2, e⟩
    obtain rfl : i = j := by omega
    exact ⟨h1, h2⟩
  · rintro ⟨h1, h2⟩; exact ⟨i, h1, h2, rfl⟩
theorem runL_ok {long : Int} {zs : List Int} (hB : Bok long zs) {a b : Nat} (hR : InRun long a b) (on : Bool) : Bok long (runL zs a on (b - a)) := by
  obtain ⟨h0, h1, h2, h3, h4⟩ := hB
  obtain ⟨r0, r1, r2⟩ := hR
  have hw := fun k => w_getD h3 k
  have hl : a + (b - a) ≤ 16 * zs.length := by omega
  refine ⟨h0, h1, by rw [runL_length]; exact h2, fun k _ => runL_w hw a on _ hl k, fun k hk => ?_⟩
  rw [runL_bit hw a on _ hl, if_neg (by omega)]
  exact h4 k hk
/-- The bits of a bitmap of which a run was set. -/
theorem runL_bits {long : Int} {zs : List Int} (hB : Bok long zs) {a b : Nat} (hR : InRun long a b) (on : Bool) (k : Nat) : bitL (runL zs a on (b - a)) k = if a ≤ k ∧ k < b then on else bitL zs k := by
  obtain ⟨h0, h1, h2, h3, h4⟩ := hB
  obtain ⟨r0, r1, r2⟩ := hR
  rw [runL_bit (fun k => w_getD h3 k) a on _ (by omega)]
  rw [show a + (b - a) = b by omega]
theorem zand_bits {la lb : Int} {za zb : List Int} (ha : Bok la za) (hb : Bok lb zb) (k : Nat) : bitL (wl za.length fun k => bits .and .u16 (za.getD k 0) (zb.getD k 0)) k = (bitL za k && bitL zb k) := by
  by_cases hk : k < 16 * za.length
  · rw [wl_bit hk, bitF_and (fun k => ha.w k) (fun k => hb.w k)]; rfl
  · rw [bitL_end (by rw [wl_length]; omega), bitL_end (zs := za) (by omega)]; simp
theorem zand_ok {la lb : Int} {za zb : List Int} (ha : Bok la za) (hb : Bok lb zb) : Bok la (wl za.length fun k => bits .and .u16 (za.getD k 0) (zb.getD k 0)) := by
  refine ⟨ha.1, ha.2.1, by rw [wl_length]; exact ha.2.2.1, fun k _ => wl_w (fun k => w_and _ _) _ k, fun k hk => ?_⟩
  rw [zand_bits ha hb, ha.2.2.2.2 k hk]; simp
theorem zandNot_bits {la lb : Int} {za zb : List Int} (ha : Bok la za) (hb : Bok lb zb) (k : Nat) : bitL (wl za.length fun k => bits .andNot .u16 (za.getD k 0) (zb.getD k 0)) k = (bitL za k && !bitL zb k) := by
  by_cases hk : k < 16 * za.length
  · rw [wl_bit hk, bitF_andNot (fun k => ha.w k) (fun k => hb.w k)]; rfl
  · rw [bitL_end (by rw [wl_length]; omega), bitL_end (zs := za) (by omega)]; simp
theorem zandNot_ok {la lb : Int} {za zb : List Int} (ha : Bok la za) (hb : Bok lb zb) : Bok la (wl za.length fun k => bits .andNot .u16 (za.getD k 0) (zb.getD k 0)) := by
  refine ⟨ha.1, ha.2.1, by rw [wl_length]; exact ha.2.2.1, fun k _ => wl_w (fun k => w_andNot _ _) _ k, fun k hk => ?_⟩
  rw [zandNot_bits ha hb, ha.2.2.2.2 k hk]; simp
end Go.Proofs.YtcelebblcjhpaaaDoor.Pb
