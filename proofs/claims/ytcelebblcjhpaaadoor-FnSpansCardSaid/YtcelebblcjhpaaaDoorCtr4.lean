/- Contracts of the reference's PagesFor, SlotsIn and TailOf. -/
import Derived.Test.YtcelebblcjhpaaaDoorCtr3
namespace Go.Proofs.YtcelebblcjhpaaaDoor
open Go.RowKit

theorem c_l1Class (c : Int) (w : World) : Calls Tryd.prog 57 #[.int .i64 c] w fun e w' => e = .returned (.bool (Pl.isCl c)) ∧ Below w.heap.size w w' := by
  by_cases h1 : 0 ≤ c
  · by_cases h2 : c < 41
    all_goals
      go_enter Tryd.func57, Tryd.ntmps57
      go_wp2_with (go_at_call 68; refine (c_specClassesOf _).mono ?_; rintro e w1 ⟨v, rfl, hown, hb⟩; obtain ⟨g, cap, rfl, hc⟩ := row_shape hown; clear hown)
      go_ret
      exact ⟨r_b (by first | (simp [Pl.isCl, h1]; done) | (simp [Pl.isCl, h1]; omega)), hb⟩
  · go_enter Tryd.func57, Tryd.ntmps57
    go_wp2
    go_ret
    exact ⟨r_b (Pl.isCl_false.2 (by omega)).symm, Below.refl _ _⟩
theorem fits_of {r s : Int} (h1 : s ≤ r) (h2 : 8 * (r % s) ≤ r) : Pl.fits r s = true := by simp [Pl.fits, h1, h2]
theorem fits_not1 {r s : Int} (h1 : ¬ s ≤ r) : Pl.fits r s = false := by simp [Pl.fits, h1]
theorem fits_not2 {r s : Int} (h2 : ¬ 8 * (r % s) ≤ r) : Pl.fits r s = false := by simp [Pl.fits, h2]
set_option maxHeartbeats 800000 in
theorem c_l1Pages (c : Int) (w : World) (hc : Pl.isCl c = true) : Calls Tryd.prog 61 #[.int .i64 c] w fun e w' => e = .returned (.int .i64 (Pl.pages (Pl.szOf c))) ∧ Below w.heap.size w w' := by
  obtain ⟨b1, b2⟩ := Pl.szOf_bd hc
  obtain ⟨b3, b4⟩ := Pl.isCl_iff.1 hc
  have hix : c.toNat < 41 := by omega
  have hsz : Hid (Pl.at_ c.toNat = Pl.szOf c) := rfl
  generalize Pl.szOf c = s at *
  go_enter Tryd.func61, Tryd.ntmps61
  go_wp2_with (go_at_call 68; refine (c_specClassesOf _).mono ?_; rintro e w1 ⟨v, rfl, hown, hb⟩; obtain ⟨g, cap, rfl, hc⟩ := row_shape hown; have q := hc c.toNat hix; rw [hsz.out] at q; clear hown hc)
  go_loop [4] (fun i => ∃ k : Nat, 1 ≤ k ∧ k ≤ 8 ∧ i = .int .i64 k ∧ Pl.noFit s k) (fun i => 8 - (intOf i).toNat)
  case atStart => exact ⟨1, by omega, by omega, rfl, Pl.noFit_one s⟩
  case round =>
    obtain ⟨k, hk1, hk, rfl, hn⟩ := hrel
    by_cases hlt : k < 8
    · have m0 : 0 ≤ (k : Int) * 64 % s := Int.emod_nonneg _ (by omega)
      have m1 : (k : Int) * 64 % s < s := Int.emod_lt_of_pos _ (by omega)
      by_cases f1 : s ≤ (k : Int) * 64
      · by_cases f2 : 8 * ((k : Int) * 64 % s) ≤ (k : Int) * 64
        · have e := Lib.hid (Pl.pages_found hk1 (by omega) (fits_of f1 f2) hn)
          go_wp2
          go_ret
          exact ⟨r_i e.out.symm, hb⟩
        · go_wp2
          go_round
          case rel => exact ⟨k + 1, by omega, by omega, by go_num, Pl.noFit_succ hn (fits_not2 f2)⟩
          case measure => simp [intOf]; omega
      · go_wp2
        go_round
        case rel => exact ⟨k + 1, by omega, by omega, by go_num, Pl.noFit_succ hn (fits_not1 f1)⟩
        case measure => simp [intOf]; omega
    · obtain rfl : k = 8 := by omega
      have e := Lib.hid (Pl.pages_none hn)
      go_wp2
      go_ret
      exact ⟨r_i e.out.symm, hb⟩
set_option maxHeartbeats 400000 in
theorem c_specSlotsIn (c : Int) (w : World) : Calls Tryd.prog 96 #[.int .i64 c] w fun e w' => e = .returned (.tuple #[.int .i64 (Pl.slOf c), .bool (Pl.isCl c)]) ∧ Below w.heap.size w w' := by
  cases hc : Pl.isCl c with
  | false =>
    obtain ⟨_, e1, _⟩ := Pl.cl_no hc
    have E1 := Lib.hid e1; clear e1
    go_enter Tryd.func96, Tryd.ntmps96
    go_wp2_with (go_at_call 57; refine (c_l1Class _ _).mono ?_; rintro e w1 ⟨rfl, hb⟩; rw [hc])
    go_ret2
    exact ⟨r_ib E1.out.symm rfl, hb⟩
  | true =>
    obtain ⟨_, e1, _⟩ := Pl.cl_yes hc
    have E1 := Lib.hid e1; clear e1
    have HC := Lib.hid hc
    obtain ⟨b1, b2⟩ := Pl.szOf_bd hc
    obtain ⟨b3, b4⟩ := Pl.isCl_iff.1 hc
    have hix : c.toNat < 41 := by omega
    have hsz : Hid (Pl.at_ c.toNat = Pl.szOf c) := rfl
    obtain ⟨b5, b6⟩ := Pl.pages_bd (Pl.szOf c)
    go_enter Tryd.func96, Tryd.ntmps96
    go_wp2_with (first
      | (go_at_call 57; refine (c_l1Class _ _).mono ?_; rintro e w1 ⟨rfl, hb⟩; rw [hc])
      | (go_at_call 61; refine (c_l1Pages _ _ HC.out).mono ?_; rintro e w2 ⟨rfl, hb2⟩)
      | (go_at_call 68; refine (c_specClassesOf _).mono ?_; rintro e w3 ⟨v, rfl, hown, hb3⟩; obtain ⟨g, cap, rfl, hcc⟩ := row_shape hown; have q := hcc c.toNat hix; rw [hsz.out] at q; clear hown hcc))
    go_ret2
    exact ⟨r_ib E1.out.symm rfl, (hb.trans (hb2.mono hb.size)).trans (hb3.mono (Nat.le_trans hb.size hb2.size))⟩
end Go.Proofs.YtcelebblcjhpaaaDoor
