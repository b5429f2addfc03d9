/- The reference's validity. -/
import Derived.Test.YtdagkbgobnaijabHw2
namespace Go.Proofs.Ytdagkbgobnaijab
open Go.RowKit Ph

set_option maxHeartbeats 800000 in
theorem s_l1In (z lo hi : Int) (w : World) : Calls Try.prog 116 #[.int .i64 z, .int .i64 lo, .int .i64 hi] w fun e w' => e = .returned (.bool (decide (lo ≤ z) && decide (z ≤ hi))) ∧ w = w' := by
  generalize hx : (decide (lo ≤ z) && decide (z ≤ hi)) = x
  by_cases h1 : lo ≤ z
  · by_cases h2 : z ≤ hi
    · have HE : Hid (x = true) := by unfold Hid; rw [← hx]; simp [h1, h2]
      clear hx
      go_enter Try.func116, Try.ntmps116
      go_wp2
      go_ret
      exact ⟨r_b HE.out.symm, rfl⟩
    · have HE : Hid (x = false) := by unfold Hid; rw [← hx]; simp [h2]
      clear hx
      go_enter Try.func116, Try.ntmps116
      go_wp2
      go_ret
      exact ⟨r_b HE.out.symm, rfl⟩
  · have HE : Hid (x = false) := by unfold Hid; rw [← hx]; simp [h1]
    clear hx
    go_enter Try.func116, Try.ntmps116
    go_wp2
    go_ret
    exact ⟨r_b HE.out.symm, rfl⟩
theorem in_yes {z lo hi : Int} (h1 : lo ≤ z) (h2 : z ≤ hi) : (decide (lo ≤ z) && decide (z ≤ hi)) = true := by simp [h1, h2]
theorem in_lo {z lo hi : Int} (h1 : z < lo) : (decide (lo ≤ z) && decide (z ≤ hi)) = false := by simp; omega
theorem in_hi {z lo hi : Int} (h1 : hi < z) : (decide (lo ≤ z) && decide (z ≤ hi)) = false := by simp; omega
theorem s_l1In_yes (z lo hi : Int) (w : World) (h1 : lo ≤ z) (h2 : z ≤ hi) : Calls Try.prog 116 #[.int .i64 z, .int .i64 lo, .int .i64 hi] w fun e w' => e = .returned (.bool true) ∧ w = w' :=
  (s_l1In z lo hi w).mono fun _ _ ⟨he, hw⟩ => ⟨he.trans (r_b (in_yes h1 h2)), hw⟩
theorem s_l1In_no (z lo hi : Int) (w : World) (h : z < lo ∨ hi < z) : Calls Try.prog 116 #[.int .i64 z, .int .i64 lo, .int .i64 hi] w fun e w' => e = .returned (.bool false) ∧ w = w' :=
  (s_l1In z lo hi w).mono fun _ _ ⟨he, hw⟩ => ⟨he.trans (r_b (h.elim in_lo in_hi)), hw⟩
set_option maxHeartbeats 1600000 in
theorem s_l5Names (b v : Value) (ls : List Bool) (zs : List Int) (w : World) (hl : BoolsAt w b ls) (hz : IntsAt w v zs) (hm : zs.length ≤ 9223372036854775806) (hml : ls.length ≤ 9223372036854775806) : Calls Try.prog 134 #[b, v] w fun e w' => e = .returned (.bool (refsB ls zs)) ∧ w = w' := by
  have HL := Lib.hid hl
  obtain ⟨ba, bc, rfl⟩ := hl.shape
  obtain ⟨va, vc, rfl, hA⟩ := hz
  have HA := Lib.hid hA
  clear hl hA
  generalize hn : zs.length = n at *
  generalize hnl : ls.length = nl at *
  have HN := Lib.hid hn; have HNL := Lib.hid hnl; clear hn hnl
  go_enter Try.func134, Try.ntmps134
  go_wp2
  go_loop [9] (fun i => ∃ k : Nat, k ≤ n ∧ i = .int .i64 k ∧ Hid (refsB ls (zs.take k) = true)) (fun i => n - (intOf i).toNat)
  case atStart => exact ⟨0, Nat.zero_le _, rfl, by simp [Hid, refsB]⟩
  case round =>
    obtain ⟨k, hk, rfl, ht⟩ := hrel
    by_cases hlt : k < n
    · obtain ⟨g, off, rfl, hc⟩ := HA.out (by omega)
      have q := hc k hlt
      have i1 : (k : Int) < (n : Int) := by omega
      have hs := refsB_take_succ (l := ls) (zs := zs) (k := k) (by rw [HN.out]; exact hlt)
      have hf := refsB_false (l := ls) (zs := zs) (k := k) (by rw [HN.out]; exact hlt)
      have HS := Lib.hid hs; have HF := Lib.hid hf
      clear hc hs hf
      generalize zs.getD k 0 = z at *
      by_cases z1 : z < -1 ∨ (nl : Int) - 1 < z
      · have HE : Hid (refsB ls zs = false) := HF.out (by
          cases hq : refB ls z with
          | false => rfl
          | true =>
            rcases refB_iff.1 hq with h1 | h1
            · have := HNL.out; omega
            · have := liveB_lt h1; have := HNL.out; omega)
        have Z1 := Lib.hid z1
        clear z1 HS HF
        go_wp2_with (go_at_call 116; refine (s_l1In_no z (-1) (nl - 1) _ Z1.out).mono ?_; rintro e w1 ⟨rfl, rfl⟩)
        go_ret
        exact ⟨r_b HE.out.symm, rfl⟩
      · have Z1 : Hid (-1 ≤ z ∧ z ≤ (nl : Int) - 1) := ⟨by omega, by omega⟩
        by_cases z0 : z < 0
        · have HE : Hid (refsB ls (zs.take (k + 1)) = true) := by
            unfold Hid; rw [HS.out, ht.out, refB_iff.2 (.inl (by omega))]; rfl
          have i2 : ¬ 0 ≤ z := by omega
          clear z1 HS HF
          go_wp2_with (go_at_call 116; refine (s_l1In_yes z (-1) (nl - 1) _ Z1.out.1 Z1.out.2).mono ?_; rintro e w1 ⟨rfl, rfl⟩)
          go_round
          case rel => exact ⟨k + 1, by omega, by go_num, HE.out⟩
          case measure => simp [intOf]; omega
        · obtain ⟨j, rfl⟩ : ∃ j : Nat, z = j := ⟨z.toNat, by omega⟩
          have hj : j < nl := by omega
          obtain ⟨gl, ol, rfl, hcl⟩ := HL.out.at' (by omega)
          have ql := hcl j hj
          have hrx : refB ls (j : Int) = ls.getD j false := by
            unfold refB liveB
            rw [decide_eq_false (show ¬ (j : Int) = -1 by omega), decide_eq_true (show (0 : Int) ≤ (j : Int) by omega)]; simp
          have HRX := Lib.hid hrx
          clear hcl hrx z0 z1
          generalize ls.getD j false = x at *
          have i2 : (0 : Int) ≤ (j : Int) := by omega
          have i3 : (j : Int) < (nl : Int) := by omega
          cases x
          · have HE : Hid (refsB ls zs = false) := HF.out HRX.out
            clear HS HF
            go_wp2_with (go_at_call 116; refine (s_l1In_yes j (-1) (nl - 1) _ Z1.out.1 Z1.out.2).mono ?_; rintro e w1 ⟨rfl, rfl⟩)
            go_ret
            exact ⟨r_b HE.out.symm, rfl⟩
          · have HE : Hid (refsB ls (zs.take (k + 1)) = true) := by
              unfold Hid; rw [HS.out, ht.out, HRX.out]; rfl
            clear HS HF
            go_wp2_with (go_at_call 116; refine (s_l1In_yes j (-1) (nl - 1) _ Z1.out.1 Z1.out.2).mono ?_; rintro e w1 ⟨rfl, rfl⟩)
            go_round
            case rel => exact ⟨k + 1, by omega, by go_num, HE.out⟩
            case measure => simp [intOf]; omega
    · have HE : Hid (refsB ls zs = true) := by
        unfold Hid
        have := ht.out
        rwa [List.take_of_length_le (by rw [HN.out]; omega)] at this
      go_wp2
      go_ret
      exact ⟨r_b HE.out.symm, rfl⟩
end Go.Proofs.Ytdagkbgobnaijab
