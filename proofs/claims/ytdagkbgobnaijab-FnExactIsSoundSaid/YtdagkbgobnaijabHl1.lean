/- The laws' own helpers over lists of bools and lists of lists: sizes, are they the same. -/
import Derived.Test.YtdagkbgobnaijabHw1
namespace Go.Proofs.Ytdagkbgobnaijab
open Go.RowKit Ph

theorem c_szIntS_yes (a : Option Addr) (n c : Nat) (left : Int) (w : World) (h1 : left ≤ 1048576) (h : (n : Int) ≤ left) : Calls Try.prog 121 #[.slice a n c, .int .i64 left] w fun e w' => e = .returned (.int .i64 (left - n)) ∧ w = w' := by
  have h2 : ¬ left - (n : Int) < 0 := by omega
  go_enter Try.func121, Try.ntmps121
  go_wp2
  go_ret
  exact ⟨rfl, rfl⟩
theorem c_szIntS_no (a : Option Addr) (n c : Nat) (left : Int) (w : World) (h0 : 0 ≤ left) (h1 : left ≤ 1048576) (hn : n ≤ 9223372036854775807) (h : left < (n : Int)) : Calls Try.prog 121 #[.slice a n c, .int .i64 left] w fun e w' => e = .returned (.int .i64 (-1)) ∧ w = w' := by
  have h2 : left - (n : Int) < 0 := by omega
  go_enter Try.func121, Try.ntmps121
  go_wp2
  go_ret
  exact ⟨rfl, rfl⟩
theorem c_szBoolS_yes (a : Option Addr) (n c : Nat) (left : Int) (w : World) (h1 : left ≤ 1048576) (h : (n : Int) ≤ left) : Calls Try.prog 120 #[.slice a n c, .int .i64 left] w fun e w' => e = .returned (.int .i64 (left - n)) ∧ w = w' := by
  have h2 : ¬ left - (n : Int) < 0 := by omega
  go_enter Try.func120, Try.ntmps120
  go_wp2
  go_ret
  exact ⟨rfl, rfl⟩
theorem c_szBoolS_no (a : Option Addr) (n c : Nat) (left : Int) (w : World) (h0 : 0 ≤ left) (h1 : left ≤ 1048576) (hn : n ≤ 9223372036854775807) (h : left < (n : Int)) : Calls Try.prog 120 #[.slice a n c, .int .i64 left] w fun e w' => e = .returned (.int .i64 (-1)) ∧ w = w' := by
  have h2 : left - (n : Int) < 0 := by omega
  go_enter Try.func120, Try.ntmps120
  go_wp2
  go_ret
  exact ⟨rfl, rfl⟩
/-- How many numbers the first k rows hold. -/
def sumL (fs : List (List Int)) (k : Nat) : Nat := ((fs.take k).map List.length).sum
theorem sumL_succ {fs : List (List Int)} {k : Nat} (h : k < fs.length) : sumL fs (k + 1) = sumL fs k + (fs.getD k []).length := by
  have e : fs.getD k [] = fs[k] := by simp [List.getD, List.getElem?_eq_getElem h]
  unfold sumL
  rw [List.take_succ_eq_append_getElem h, List.map_append, List.sum_append, e]; simp
theorem sumL_zero (fs : List (List Int)) : sumL fs 0 = 0 := by simp [sumL]
theorem sumL_mono (fs : List (List Int)) {j k : Nat} (h : j ≤ k) : sumL fs j ≤ sumL fs k := by
  induction k with
  | zero => obtain rfl : j = 0 := by omega
            exact Nat.le_refl _
  | succ k ih =>
    by_cases e : j = k + 1
    · subst e; exact Nat.le_refl _
    · have := ih (by omega)
      by_cases hk : k < fs.length
      · rw [sumL_succ hk]; omega
      · have : sumL fs (k + 1) = sumL fs k := by unfold sumL; rw [List.take_of_length_le (by omega), List.take_of_length_le (by omega)]
        omega
theorem sumL_le (fs : List (List Int)) (j : Nat) : sumL fs j ≤ sumL fs fs.length := by
  by_cases h : j ≤ fs.length
  · exact sumL_mono fs h
  · unfold sumL; rw [List.take_of_length_le (by omega), List.take_of_length_le (by omega)]; exact Nat.le_refl _
/-- How much a list of lists weighs. -/
def wt (fs : List (List Int)) : Nat := fs.length + sumL fs fs.length
/-- The rows' lengths fit. -/
def Fit (fs : List (List Int)) : Prop := ∀ k, k < fs.length → (fs.getD k []).length ≤ 9223372036854775807
set_option maxHeartbeats 1600000 in
theorem c_szIntSS_yes (v : Value) (fs : List (List Int)) (left : Int) (w : World) (hA : RowsAt w v fs) (h1 : left ≤ 1048576) (h : (wt fs : Int) ≤ left) : Calls Try.prog 119 #[v, .int .i64 left] w fun e w' => e = .returned (.int .i64 (left - wt fs)) ∧ w = w' := by
  have HA := Lib.hid hA
  obtain ⟨fa, fc, rfl⟩ := hA.shape
  clear hA
  have hsl := sumL_le fs
  have hw : (wt fs : Int) = (fs.length : Int) + (sumL fs fs.length : Int) := by unfold wt; omega
  have hss : ∀ k, k < fs.length → sumL fs (k + 1) = sumL fs k + (fs.getD k []).length := fun k hk => sumL_succ hk
  rw [hw] at h ⊢
  generalize hn : fs.length = n at *
  have HN := Lib.hid hn; have HSL := Lib.hid hsl; have HSS := Lib.hid hss
  clear hn hsl hw hss
  generalize hT : sumL fs n = Tt at *
  have HT := Lib.hid hT
  clear hT
  have i0 : ¬ left - (n : Int) < 0 := by omega
  go_enter Try.func119, Try.ntmps119
  go_wp2
  go_loop [1, 5] (fun l i => ∃ k : Nat, k ≤ n ∧ i = .int .i64 k ∧ ∃ s : Nat, Hid (sumL fs k = s) ∧ s ≤ Tt ∧ l = .int .i64 (left - n - s)) (fun _ i => n - (intOf i).toNat)
  case atStart => exact ⟨0, Nat.zero_le _, rfl, 0, sumL_zero fs, Nat.zero_le _, by simp⟩
  case round =>
    obtain ⟨k, hk, rfl, s, hs, hsT, rfl⟩ := hrel
    by_cases hlt : k < n
    · obtain ⟨gf, of, rfl, hcf⟩ := HA.out.at' (by omega)
      obtain ⟨u, qf, hu⟩ := hcf k hlt
      obtain ⟨ua, uc, rfl⟩ := hu.shape
      have e1 := HSS.out k hlt
      have e2 := HSL.out (k + 1)
      have i1 : (k : Int) < (n : Int) := by omega
      rw [hs.out] at e1
      rw [e1] at e2
      have E1 := Lib.hid e1
      clear hcf hu e1
      generalize (fs.getD k []).length = m at *
      have i2 : ¬ left - (n : Int) - (s : Int) - (m : Int) < 0 := by omega
      have J : Hid ((m : Int) ≤ left - (n : Int) - (s : Int)) := by unfold Hid; omega
      have J1 : Hid (left - (n : Int) - (s : Int) ≤ 1048576) := by unfold Hid; omega
      go_wp2_with (go_at_call 121; refine (c_szIntS_yes ua m uc (left - n - s) _ J1.out J.out).mono ?_; rintro e w1 ⟨rfl, rfl⟩)
      go_round
      case rel => exact ⟨k + 1, by omega, by go_num, s + m, E1.out, by omega, by congr 1; omega⟩
      case measure => simp [intOf]; omega
    · obtain rfl : k = n := by omega
      obtain rfl : Tt = s := HT.out.symm.trans hs.out
      go_wp2
      go_ret
      exact ⟨r_i (by omega), rfl⟩
set_option maxHeartbeats 1600000 in
theorem c_szIntSS_no (v : Value) (fs : List (List Int)) (left : Int) (w : World) (hA : RowsAt w v fs) (hf : Fit fs) (hl : fs.length ≤ 9223372036854775807) (h0 : 0 ≤ left) (h1 : left ≤ 1048576) (h : left < (wt fs : Int)) : Calls Try.prog 119 #[v, .int .i64 left] w fun e w' => e = .returned (.int .i64 (-1)) ∧ w = w' := by
  have HA := Lib.hid hA
  obtain ⟨fa, fc, rfl⟩ := hA.shape
  clear hA
  have hw : (wt fs : Int) = (fs.length : Int) + (sumL fs fs.length : Int) := by unfold wt; omega
  have hss : ∀ k, k < fs.length → sumL fs (k + 1) = sumL fs k + (fs.getD k []).length := fun k hk => sumL_succ hk
  have HF : Hid (∀ k, k < fs.length → (fs.getD k []).length ≤ 9223372036854775807) := hf
  rw [hw] at h
  clear hf hw
  generalize hn : fs.length = n at *
  have HN := Lib.hid hn; have HSS := Lib.hid hss
  clear hn hss
  generalize hT : sumL fs n = Tt at *
  have HT := Lib.hid hT
  clear hT
  by_cases i0 : left - (n : Int) < 0
  · clear HA HN HSS HT HF
    go_enter Try.func119, Try.ntmps119
    go_wp2
    go_ret
    exact ⟨rfl, rfl⟩
  · go_enter Try.func119, Try.ntmps119
    go_wp2
    go_loop [1, 5] (fun l i => ∃ k : Nat, k ≤ n ∧ i = .int .i64 k ∧ ∃ s : Nat, Hid (sumL fs k = s) ∧ (s : Int) ≤ left - n ∧ l = .int .i64 (left - n - s)) (fun _ i => n - (intOf i).toNat)
    case atStart => exact ⟨0, Nat.zero_le _, rfl, 0, sumL_zero fs, by omega, by simp⟩
    case round =>
      obtain ⟨k, hk, rfl, s, hs, hsT, rfl⟩ := hrel
      by_cases hlt : k < n
      · obtain ⟨gf, of, rfl, hcf⟩ := HA.out.at' (by omega)
        obtain ⟨u, qf, hu⟩ := hcf k hlt
        obtain ⟨ua, uc, rfl⟩ := hu.shape
        have e1 := HSS.out k hlt
        have e2 := HF.out k hlt
        have i1 : (k : Int) < (n : Int) := by omega
        rw [hs.out] at e1
        have E1 := Lib.hid e1
        clear hcf hu e1
        generalize (fs.getD k []).length = m at *
        have J1 : Hid (left - (n : Int) - (s : Int) ≤ 1048576) := by unfold Hid; omega
        have J2 : Hid (0 ≤ left - (n : Int) - (s : Int)) := by unfold Hid; omega
        have E2 := Lib.hid e2
        by_cases i2 : left - (n : Int) - (s : Int) - (m : Int) < 0
        · have J : Hid (left - (n : Int) - (s : Int) < (m : Int)) := by unfold Hid; omega
          clear e2
          go_wp2_with (go_at_call 121; refine (c_szIntS_no ua m uc (left - n - s) _ J2.out J1.out E2.out J.out).mono ?_; rintro e w1 ⟨rfl, rfl⟩)
          go_ret
          exact ⟨rfl, rfl⟩
        · have J : Hid ((m : Int) ≤ left - (n : Int) - (s : Int)) := by unfold Hid; omega
          go_wp2_with (go_at_call 121; refine (c_szIntS_yes ua m uc (left - n - s) _ J1.out J.out).mono ?_; rintro e w1 ⟨rfl, rfl⟩)
          go_round
          case rel => exact ⟨k + 1, by omega, by go_num, s + m, E1.out, by omega, by congr 1; omega⟩
          case measure => simp [intOf]; omega
      · obtain rfl : k = n := by omega
        obtain rfl : Tt = s := HT.out.symm.trans hs.out
        exfalso
        omega
end Go.Proofs.Ytdagkbgobnaijab
