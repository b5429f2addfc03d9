/- Contracts of both sides' SumWaste, PagesFor, SlotsIn and TailOf. -/
import Derived.Test.YtcelebblcjhpaaaDoorCtr2
namespace Go.Proofs.YtcelebblcjhpaaaDoor
open Go.RowKit

theorem c_isClass (c : Int) (w : World) : Calls Tryd.prog 110 #[.int .i64 c] w fun e w' => e = .returned (.bool (Pl.isCl c)) ∧ w = w' := by
  by_cases h1 : 0 ≤ c
  · by_cases h2 : c < 41
    all_goals
      go_enter Tryd.func110, Tryd.ntmps110
      go_wp2
      go_ret
      exact ⟨r_b (by simp [Pl.isCl, h1]; omega), rfl⟩
  · go_enter Tryd.func110, Tryd.ntmps110
    go_wp2
    go_ret
    exact ⟨r_b (Pl.isCl_false.2 (by omega)).symm, rfl⟩
theorem c_fillsWell (r s : Int) (w : World) (h1 : 1 ≤ s) (h2 : s ≤ 256) (h3 : 1 ≤ r) (h4 : r ≤ 512) : Calls Tryd.prog 111 #[.int .i64 r, .int .i64 s] w fun e w' => e = .returned (.bool (Pl.fits r s)) ∧ w = w' := by
  go_enter Tryd.func111, Tryd.ntmps111
  go_wp2
  go_ret
  exact ⟨r_b (Pl.fits_impl h1 h3).symm, rfl⟩
set_option maxHeartbeats 400000 in
theorem c_implPagesFor (c : Int) (w : World) (hT : TabW w) : Calls Tryd.prog 100 #[.int .i64 c] w fun e w' => e = .returned (.tuple #[.int .i64 (Pl.pgOf c), .bool (Pl.isCl c)]) ∧ w = w' := by
  cases hc : Pl.isCl c with
  | false =>
    obtain ⟨e1, _, _⟩ := Pl.cl_no hc
    have E1 := Lib.hid e1; clear e1
    go_enter Tryd.func100, Tryd.ntmps100
    go_wp2_with (go_at_call 110; refine (c_isClass _ _).mono ?_; rintro e w' ⟨rfl, rfl⟩; rw [hc])
    go_ret2
    exact ⟨r_ib E1.out.symm rfl, rfl⟩
  | true =>
    obtain ⟨e1, _, _⟩ := Pl.cl_yes hc
    have E1 := Lib.hid e1; clear e1
    obtain ⟨b1, b2⟩ := Pl.szOf_bd hc
    obtain ⟨b3, b4⟩ := Pl.isCl_iff.1 hc
    have q : w.cell? ⟨0, c.toNat, none⟩ = some (.int .i64 (Pl.szOf c)) := hT c.toNat (by omega)
    generalize hs : Pl.szOf c = s at *
    clear hs
    go_enter Tryd.func100, Tryd.ntmps100
    go_wp2_with (go_at_call 110; refine (c_isClass _ _).mono ?_; rintro e w' ⟨rfl, rfl⟩; rw [hc])
    go_loop [4] (fun i => ∃ k : Nat, 1 ≤ k ∧ k ≤ 8 ∧ i = .int .i64 k ∧ Pl.noFit s k) (fun i => 8 - (intOf i).toNat)
    case atStart => exact ⟨1, by omega, by omega, rfl, Pl.noFit_one s⟩
    case round =>
      obtain ⟨k, hk1, hk, rfl, hn⟩ := hrel
      by_cases hlt : k < 8
      · cases hf : Pl.fits ((k : Int) * 64) s with
        | true =>
          have e := Lib.hid (Pl.pages_found hk1 (by omega) hf hn)
          go_wp2_with (go_at_call 111; refine (c_fillsWell _ _ _ b1 b2 (by omega) (by omega)).mono ?_; rintro e w' ⟨rfl, rfl⟩; rw [hf])
          go_ret2
          exact ⟨r_ib (by rw [E1.out, e.out]) rfl, rfl⟩
        | false =>
          go_wp2_with (go_at_call 111; refine (c_fillsWell _ _ _ b1 b2 (by omega) (by omega)).mono ?_; rintro e w' ⟨rfl, rfl⟩; rw [hf])
          go_round
          case rel => exact ⟨k + 1, by omega, by omega, by go_num, Pl.noFit_succ hn hf⟩
          case measure => simp [intOf]; omega
      · obtain rfl : k = 8 := by omega
        have e := Lib.hid (Pl.pages_none hn)
        go_wp2
        go_ret2
        exact ⟨r_ib (by rw [E1.out, e.out]) rfl, rfl⟩
set_option maxHeartbeats 400000 in
theorem c_implSlotsIn (c : Int) (w : World) (hT : TabW w) : Calls Tryd.prog 102 #[.int .i64 c] w fun e w' => e = .returned (.tuple #[.int .i64 (Pl.slOf c), .bool (Pl.isCl c)]) ∧ w = w' := by
  cases hc : Pl.isCl c with
  | false =>
    obtain ⟨_, e1, _⟩ := Pl.cl_no hc
    have E1 := Lib.hid e1; clear e1
    go_enter Tryd.func102, Tryd.ntmps102
    go_wp2_with (go_at_call 100; refine (c_implPagesFor _ _ hT).mono ?_; rintro e w' ⟨rfl, rfl⟩; rw [hc])
    go_ret2
    exact ⟨r_ib E1.out.symm rfl, rfl⟩
  | true =>
    obtain ⟨e0, e1, _⟩ := Pl.cl_yes hc
    have E1 := Lib.hid e1; have E0 := Lib.hid e0; clear e1 e0
    obtain ⟨b1, b2⟩ := Pl.szOf_bd hc
    obtain ⟨b3, b4⟩ := Pl.isCl_iff.1 hc
    have q : w.cell? ⟨0, c.toNat, none⟩ = some (.int .i64 (Pl.szOf c)) := hT c.toNat (by omega)
    generalize Pl.szOf c = s at *
    obtain ⟨b5, b6⟩ := Pl.pages_bd s
    go_enter Tryd.func102, Tryd.ntmps102
    go_wp2_with (go_at_call 100; refine (c_implPagesFor _ _ hT).mono ?_; rintro e w' ⟨rfl, rfl⟩; rw [hc, E0.out])
    go_ret2
    exact ⟨r_ib E1.out.symm rfl, rfl⟩
end Go.Proofs.YtcelebblcjhpaaaDoor
