/- Contracts of chapter 2: the count of the bits of a word, of six words. -/
import Derived.Test.YtcelebblcjhpaaaDoorBw1
import Derived.Lib.BitFns
import Derived.Laws.Closers25b
namespace Go.Proofs.YtcelebblcjhpaaaDoor
open Go.RowKit Pb

theorem and255_u16 (x : Int) (h0 : 0 ≤ x) (h1 : x ≤ 65535) : bits .and .u16 x 255 = x % 256 := by
  obtain ⟨n, rfl⟩ : ∃ n : Nat, x = n := ⟨x.toNat, by omega⟩
  have h3 : n &&& 255 = n % 256 := Nat.and_two_pow_sub_one_eq_mod n 8
  rw [show (255 : Int) = ((255 : Nat) : Int) from rfl, and16 n 255 (by omega) (by omega), h3]
  omega
theorem pop8_bd (b : Int) (h0 : 0 ≤ b) (h1 : b ≤ 255) : 0 ≤ Lib.pop8 b ∧ Lib.pop8 b ≤ 8 := by
  have e := Lib.pop8_eq ⟨b.toNat, by omega⟩
  have l := Lib.onesCount_le8 ⟨b.toNat, by omega⟩
  simp only [Int.toNat_of_nonneg h0] at e
  rw [e]
  simp only at l
  omega

theorem c6_index (w : World) (f : Nat → Int) (k : Nat) (hk : k < 6) : (Instr.index 69 (a6 f) (.int .i64 (k : Int))).run Tryd.prog w = .ok (.int .u16 (f k)) w :=
  run_index_arr w _ 67 6 _ k _ .u16 Tryd.underlying69 Tryd.underlying67 (by kernel_rfl) hk (c6_get f hk)

set_option maxHeartbeats 1600000 in
set_option maxRecDepth 100000 in
theorem c_OnesCount16 (x : Int) (w : World) (h0 : 0 ≤ x) (h1 : x ≤ 65535) : Calls Tryd.prog 106 #[.int .u16 x] w fun e w' => e = .returned (.int .i64 (cnt x)) ∧ ∃ n, w' = w.drewN n := by
  have e1 := and255_u16 x h0 h1
  have b1 := pop8_bd (x / 256) (by omega) (by omega)
  have b2 := pop8_bd (x % 256) (by omega) (by omega)
  have d1 : 0 ≤ x / 256 := by omega
  have d2 : x / 256 ≤ 255 := by omega
  have d3 : 0 ≤ x % 256 := by omega
  have d4 : x % 256 ≤ 255 := by omega
  go_enter Tryd.func106, Tryd.ntmps106
  simp only [List.append_eq, List.cons_append, List.nil_append, Lib.fold_pop8tab]
  go_wp2
  go_quiet (fail)
  go_wp2
  go_ret
  exact ⟨rfl, nq, rfl⟩

set_option maxHeartbeats 800000 in
theorem c_count (f : Nat → Int) (w : World) (hf : ∀ k, k < 6 → W16 (f k)) : Calls Tryd.prog 77 #[a6 f] w fun e w' => e = .returned (.int .i64 (countTo (bitF f) 96)) ∧ Below w.heap.size w w' := by
  have HF := Lib.hid hf; clear hf
  go_enter Tryd.func77, Tryd.ntmps77
  go_wp2_with (refine wl_load6 rfl _ rfl w.heap.size f (Row.new w _ _) rfl ?_)
  go_loopw [3, 7] (fun n i wr => ∃ k : Nat, k ≤ 6 ∧ i = .int .i64 k ∧ n = .int .i64 (countTo (bitF f) (16 * k)) ∧ Below w.heap.size w wr) (fun _ i _ => 6 - (intOf i).toNat)
  case atStart => exact ⟨0, by omega, rfl, rfl, (Below.refl _ _).alloc (Nat.le_refl _) _⟩
  case round =>
    obtain ⟨k, hk, rfl, rfl, hb⟩ := hrel
    have hbd := countTo_bd (bitF f) (16 * k)
    by_cases hlt : k < 6
    · have hix := fun w => c6_index w f k hlt
      have hw := HF.out k hlt
      have hc := cnt_bd hw
      have HS := Lib.hid (countTo_word f k hw)
      have hw1 := hw.1
      have hw2 := hw.2
      generalize countTo (bitF f) (16 * k) = c at *
      generalize f k = x at *
      go_wp2_with (go_at_call 106; refine (c_OnesCount16 _ _ hw1 hw2).mono ?_; rintro e w' ⟨rfl, nn, rfl⟩)
      go_roundw
      case rel => exact ⟨k + 1, by omega, by go_num, by rw [HS.out], below_drewN hb _⟩
      case measure => simp [intOf]; omega
    · obtain rfl : k = 6 := by omega
      go_wp2
      go_ret
      exact ⟨rfl, hb⟩
end Go.Proofs.YtcelebblcjhpaaaDoor
