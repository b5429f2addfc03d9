/- The walk of laws.FnExactFreeIn. -/
import Derived.Test.YtdiejmebodpjeaaRn6
namespace Go.Proofs.Ytdiejmebodpjeaa
open Go.RowKit Pr

set_option maxHeartbeats 3200000 in
set_option maxRecDepth 100000 in
theorem core_FnExactFreeIn (v : Value) (rs : List (Int × Int)) (c : Int) (ok : Bool) (w : World) (hz : RunsAt w v rs) (hm : rs.length ≤ 1048576)
    (hS : ∀ (w : World) (v : Value), RunsAt w v rs → Calls Try.prog 28 #[v] w fun e w' => e = .returned (.tuple #[.int .i64 c, .bool ok]) ∧ Below w.heap.size w w')
    (hI : ∀ (w : World) (v : Value), RunsAt w v rs → Calls Try.prog 19 #[v] w fun e w' => e = .returned (.tuple #[.int .i64 c, .bool ok]) ∧ Below w.heap.size w w') :
    Calls Try.prog 9 #[v] w fun e w' => e = .returned (.bool true) ∧ Below w.heap.size w w' := by
  have HZ := Lib.hid hz
  have HM := Lib.hid hm
  have HS := Lib.hid hS; have HI := Lib.hid hI
  obtain ⟨a, ca, rfl, _⟩ := id hz
  obtain ⟨n, hn⟩ : ∃ n, n = rs.length := ⟨_, rfl⟩
  have HN : Hid (rs.length = n) := hn.symm
  rw [← hn] at hm HZ ⊢
  have hl : ¬ (1048576 - (n : Int)) < 0 := by omega
  clear hz hS hI hn
  have e1 : (c != c) = false := by simp
  have e2 : (ok != ok) = false := by simp
  go_enter Try.func9, Try.ntmps9
  go_wp2_with fail
  refine (c_szRunS_yes a n ca 1048576 _ (by omega) (by omega)).mono ?_
  rintro e w1 ⟨rfl, rfl⟩
  go_wp2_with fail
  refine (c_toRunS _ rs _ HZ.out HM.out).mono ?_
  rintro e w2 ⟨v2, rfl, ho2, hb2⟩
  have HB2 := Lib.hid hb2
  have O2 := Lib.hid ho2
  clear hb2 ho2
  go_wp2_with fail
  refine (HS.out w2 v2 O2.out.runs).mono ?_
  rintro e w3 ⟨rfl, hb3⟩
  have HB3 := Lib.hid (bst HB2.out hb3 HB2.out.size)
  clear hb3 O2 HB2
  go_wp2_with fail
  refine (c_toRunS _ rs _ (HZ.out.below HB3.out) HM.out).mono ?_
  rintro e w4 ⟨v4, rfl, ho4, hb4⟩
  have HB4 := Lib.hid (bst HB3.out hb4 HB3.out.size)
  have O4 := Lib.hid ho4
  clear hb4 ho4 HB3
  go_wp2_with fail
  refine (HI.out w4 v4 O4.out.runs).mono ?_
  rintro e w5 ⟨rfl, hb5⟩
  have HB5 := Lib.hid (bst HB4.out hb5 HB4.out.size)
  have O5 := Lib.hid (O4.out.below hb5)
  clear hb5 O4 HB4
  go_wp2_with fail
  refine (c_toRunS _ rs _ (HZ.out.below HB5.out) HM.out).mono ?_
  rintro e w6 ⟨v6, rfl, ho6, hb6⟩
  have HB6 := Lib.hid (bst HB5.out hb6 HB5.out.size)
  have O6 := Lib.hid ho6
  have O7 := Lib.hid (O5.out.below hb6)
  clear hb6 ho6 HB5 O5
  go_wp2_with fail
  refine (c_eqRunS v4 v6 rs rs _ O7.out.runs O6.out.runs (by have := HM.out; omega)).mono ?_
  rintro e w7 ⟨rfl, hb7⟩
  have HB7 := Lib.hid (bst HB6.out hb7 HB6.out.size)
  clear hb7
  have HD : Hid (decide (rs = rs) = true) := decide_eq_true rfl
  rw [HD.out]
  go_wp2
  go_ret
  exact ⟨rfl, HB7.out⟩
set_option maxHeartbeats 800000 in
theorem walk_FnExactFreeIn (v : Value) (rs : List (Int × Int)) (w : World) (hz : RunsAt w v rs) (hI : Bnd rs) (hn : rs.length ≤ 9223372036854775807) : Calls Try.prog 9 #[v] w fun e w' => e = .returned (.bool true) ∧ Below w.heap.size w w' := by
  by_cases hm : rs.length ≤ 1048576
  · cases hg : good 0 rs
    · exact core_FnExactFreeIn v rs 0 false w hz hm (fun w v h => s_FreeIn_no v rs w h hI hm hg) (fun w v h => c_FreeIn_no v rs w h hI hm hg)
    · exact core_FnExactFreeIn v rs (sumR rs) true w hz hm (fun w v h => s_FreeIn_yes v rs w h hg) (fun w v h => c_FreeIn_yes v rs w h hg)
  · obtain ⟨a, ca, rfl, _⟩ := hz
    generalize rs.length = n at *
    go_enter Try.func9, Try.ntmps9
    go_wp2_with fail
    refine (c_szRunS_no a n ca 1048576 _ (by omega) (by omega) hn (by omega)).mono ?_
    rintro e w1 ⟨rfl, rfl⟩
    go_wp2
    go_ret
    exact ⟨rfl, Below.refl _ _⟩
end Go.Proofs.Ytdiejmebodpjeaa
