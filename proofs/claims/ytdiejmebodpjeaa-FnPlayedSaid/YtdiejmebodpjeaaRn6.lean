/- FreeIn and LongestIn, the project's and the reference's. -/
import Derived.Test.YtdiejmebodpjeaaRn4
import Derived.Test.YtdiejmebodpjeaaRn5
namespace Go.Proofs.Ytdiejmebodpjeaa
open Go.RowKit Pr

set_option maxHeartbeats 800000 in
theorem c_FreeIn_no (v : Value) (rs : List (Int × Int)) (w : World) (hA : RunsAt w v rs) (hI : Bnd rs) (hm : rs.length ≤ 1048576) (hg : good 0 rs = false) :
    Calls Try.prog 19 #[v] w fun e w' => e = .returned (.tuple #[.int .i64 0, .bool false]) ∧ Below w.heap.size w w' := by
  have hc := (c_GoodRuns v rs w hA hI (by omega))
  rw [hg] at hc
  clear hA hI hg
  go_enter Try.func19, Try.ntmps19
  go_wp2_with (go_at_call 16; refine hc.mono ?_; rintro e w6 ⟨rfl, hbk⟩)
  go_ret2
  exact ⟨rfl, hbk⟩
set_option maxHeartbeats 800000 in
theorem c_FreeIn_yes (v : Value) (rs : List (Int × Int)) (w : World) (hA : RunsAt w v rs) (hg : good 0 rs = true) :
    Calls Try.prog 19 #[v] w fun e w' => e = .returned (.tuple #[.int .i64 (sumR rs), .bool true]) ∧ Below w.heap.size w w' := by
  have hlen := good_len16 hg
  have hc := (c_GoodRuns v rs w hA (Bnd.good hg) (by omega))
  rw [hg] at hc
  have HOK : Hid (∀ r ∈ rs, okR r = true) := fun r hr => (good_mem hg r hr).1
  clear hg
  obtain ⟨a, ca, rfl, hA⟩ := hA
  generalize hn : rs.length = n at *
  have HN := Lib.hid hn; clear hn
  have HA := Lib.hid hA; clear hA
  go_enter Try.func19, Try.ntmps19
  go_wp2_with (go_at_call 16; refine hc.mono ?_; rintro e w6 ⟨rfl, hbk⟩)
  go_loopw [4, 12] (fun s i wr => ∃ k : Nat, k ≤ n ∧ i = .int .i64 k ∧ s = .int .i64 (sumR (rs.take k)) ∧ Below w.heap.size w wr) (fun _ i _ => n - (intOf i).toNat)
  case atStart => exact ⟨0, Nat.zero_le _, rfl, rfl, hbk⟩
  case round =>
    obtain ⟨k, hk, rfl, rfl, hbr⟩ := hrel
    have hsb := sumR_bound HOK.out k (by rw [HN.out]; exact hk)
    by_cases hlt : k < n
    · obtain ⟨b, off, rfl, hcc⟩ := HA.out (by omega)
      obtain ⟨p0, p1⟩ := hcc k hlt
      have q0 := cellBelow' hbr p0
      have q1 := cellBelow' hbr p1
      clear p0 p1 hcc
      have hss := sumR_take_succ (rs := rs) (k := k) (by rw [HN.out]; exact hlt)
      have hzo := (okR_iff _).1 (HOK.out _ (getD_mem (rs := rs) (k := k) (by rw [HN.out]; exact hlt)))
      generalize rs.getD k (0, 0) = z at q0 q1 hss hzo
      obtain ⟨z1, z2⟩ := z
      simp only [] at q0 q1 hss hzo
      generalize sumR (rs.take k) = s at *
      have HSS := Lib.hid hss; clear hss
      have i1 : (k : Int) < (n : Int) := by omega
      have HB1 := Lib.hid (bst hbr (below1 wr (.cells (cr (z1, z2)) 33)) hbr.size)
      clear hbr hbk
      go_wp2
      go_roundw
      case rel => exact ⟨k + 1, by omega, by go_num, by rw [HSS.out], HB1.out⟩
      case measure => simp [intOf]; omega
    · have HE : Hid (rs.take k = rs) := by unfold Hid; exact List.take_of_length_le (by rw [HN.out]; omega)
      go_wp2
      go_ret2
      exact ⟨r_ib (by rw [HE.out]) rfl, hbr⟩

set_option maxHeartbeats 800000 in
theorem c_LongestIn_no (v : Value) (rs : List (Int × Int)) (w : World) (hA : RunsAt w v rs) (hI : Bnd rs) (hm : rs.length ≤ 1048576) (hg : good 0 rs = false) :
    Calls Try.prog 20 #[v] w fun e w' => e = .returned (.tuple #[.int .i64 0, .bool false]) ∧ Below w.heap.size w w' := by
  have hc := (c_GoodRuns v rs w hA hI (by omega))
  rw [hg] at hc
  clear hA hI hg
  go_enter Try.func20, Try.ntmps20
  go_wp2_with (go_at_call 16; refine hc.mono ?_; rintro e w6 ⟨rfl, hbk⟩)
  go_ret2
  exact ⟨rfl, hbk⟩
set_option maxHeartbeats 800000 in
theorem c_LongestIn_yes (v : Value) (rs : List (Int × Int)) (w : World) (hA : RunsAt w v rs) (hg : good 0 rs = true) :
    Calls Try.prog 20 #[v] w fun e w' => e = .returned (.tuple #[.int .i64 (maxR rs), .bool true]) ∧ Below w.heap.size w w' := by
  have hlen := good_len16 hg
  have hc := (c_GoodRuns v rs w hA (Bnd.good hg) (by omega))
  rw [hg] at hc
  have HOK : Hid (∀ r ∈ rs, okR r = true) := fun r hr => (good_mem hg r hr).1
  clear hg
  obtain ⟨a, ca, rfl, hA⟩ := hA
  generalize hn : rs.length = n at *
  have HN := Lib.hid hn; clear hn
  have HA := Lib.hid hA; clear hA
  go_enter Try.func20, Try.ntmps20
  go_wp2_with (go_at_call 16; refine hc.mono ?_; rintro e w6 ⟨rfl, hbk⟩)
  go_loopw [4, 12] (fun s i wr => ∃ k : Nat, k ≤ n ∧ i = .int .i64 k ∧ s = .int .i64 (maxR (rs.take k)) ∧ Below w.heap.size w wr) (fun _ i _ => n - (intOf i).toNat)
  case atStart => exact ⟨0, Nat.zero_le _, rfl, rfl, hbk⟩
  case round =>
    obtain ⟨k, hk, rfl, rfl, hbr⟩ := hrel
    have hsb := maxR_bound HOK.out k (by rw [HN.out]; exact hk)
    by_cases hlt : k < n
    · obtain ⟨b, off, rfl, hcc⟩ := HA.out (by omega)
      obtain ⟨p0, p1⟩ := hcc k hlt
      have q0 := cellBelow' hbr p0
      have q1 := cellBelow' hbr p1
      clear p0 p1 hcc
      have hss := maxR_take_succ (rs := rs) (k := k) (by rw [HN.out]; exact hlt)
      have hzo := (okR_iff _).1 (HOK.out _ (getD_mem (rs := rs) (k := k) (by rw [HN.out]; exact hlt)))
      generalize rs.getD k (0, 0) = z at q0 q1 hss hzo
      obtain ⟨z1, z2⟩ := z
      simp only [] at q0 q1 hss hzo
      generalize maxR (rs.take k) = s at *
      have HSS := Lib.hid hss; clear hss
      have i1 : (k : Int) < (n : Int) := by omega
      have HB1 := Lib.hid (bst hbr (below1 wr (.cells (cr (z1, z2)) 33)) hbr.size)
      clear hbr hbk
      go_wp2
      go_roundw
      case rel => exact ⟨k + 1, by omega, by go_num, by rw [HSS.out]; split <;> (congr 1; omega), HB1.out⟩
      case measure => simp [intOf]; omega
    · have HE : Hid (rs.take k = rs) := by unfold Hid; exact List.take_of_length_le (by rw [HN.out]; omega)
      go_wp2
      go_ret2
      exact ⟨r_ib (by rw [HE.out]) rfl, hbr⟩

set_option maxHeartbeats 800000 in
theorem s_FreeIn_no (v : Value) (rs : List (Int × Int)) (w : World) (hA : RunsAt w v rs) (hI : Bnd rs) (hm : rs.length ≤ 1048576) (hg : good 0 rs = false) :
    Calls Try.prog 28 #[v] w fun e w' => e = .returned (.tuple #[.int .i64 0, .bool false]) ∧ Below w.heap.size w w' := by
  have hc := (s_GoodRuns v rs w hA hI (by omega))
  rw [hg] at hc
  clear hA hI hg
  go_enter Try.func28, Try.ntmps28
  go_wp2_with (go_at_call 17; refine hc.mono ?_; rintro e w6 ⟨rfl, hbk⟩)
  go_ret2
  exact ⟨rfl, hbk⟩
set_option maxHeartbeats 800000 in
theorem s_FreeIn_yes (v : Value) (rs : List (Int × Int)) (w : World) (hA : RunsAt w v rs) (hg : good 0 rs = true) :
    Calls Try.prog 28 #[v] w fun e w' => e = .returned (.tuple #[.int .i64 (sumR rs), .bool true]) ∧ Below w.heap.size w w' := by
  have hlen := good_len16 hg
  have hc := (s_GoodRuns v rs w hA (Bnd.good hg) (by omega))
  rw [hg] at hc
  have HOK : Hid (∀ r ∈ rs, okR r = true) := fun r hr => (good_mem hg r hr).1
  clear hg
  obtain ⟨a, ca, rfl, hA⟩ := hA
  generalize hn : rs.length = n at *
  have HN := Lib.hid hn; clear hn
  have HA := Lib.hid hA; clear hA
  go_enter Try.func28, Try.ntmps28
  go_wp2_with (go_at_call 17; refine hc.mono ?_; rintro e w6 ⟨rfl, hbk⟩)
  go_loopw [4, 12] (fun s i wr => ∃ k : Nat, k ≤ n ∧ i = .int .i64 k ∧ s = .int .i64 (sumR (rs.take k)) ∧ Below w.heap.size w wr) (fun _ i _ => n - (intOf i).toNat)
  case atStart => exact ⟨0, Nat.zero_le _, rfl, rfl, hbk⟩
  case round =>
    obtain ⟨k, hk, rfl, rfl, hbr⟩ := hrel
    have hsb := sumR_bound HOK.out k (by rw [HN.out]; exact hk)
    by_cases hlt : k < n
    · obtain ⟨b, off, rfl, hcc⟩ := HA.out (by omega)
      obtain ⟨p0, p1⟩ := hcc k hlt
      have q0 := cellBelow' hbr p0
      have q1 := cellBelow' hbr p1
      clear p0 p1 hcc
      have hss := sumR_take_succ (rs := rs) (k := k) (by rw [HN.out]; exact hlt)
      have hzo := (okR_iff _).1 (HOK.out _ (getD_mem (rs := rs) (k := k) (by rw [HN.out]; exact hlt)))
      generalize rs.getD k (0, 0) = z at q0 q1 hss hzo
      obtain ⟨z1, z2⟩ := z
      simp only [] at q0 q1 hss hzo
      generalize sumR (rs.take k) = s at *
      have HSS := Lib.hid hss; clear hss
      have i1 : (k : Int) < (n : Int) := by omega
      have HB1 := Lib.hid (bst hbr (below1 wr (.cells (cr (z1, z2)) 33)) hbr.size)
      clear hbr hbk
      go_wp2
      go_roundw
      case rel => exact ⟨k + 1, by omega, by go_num, by rw [HSS.out], HB1.out⟩
      case measure => simp [intOf]; omega
    · have HE : Hid (rs.take k = rs) := by unfold Hid; exact List.take_of_length_le (by rw [HN.out]; omega)
      go_wp2
      go_ret2
      exact ⟨r_ib (by rw [HE.out]) rfl, hbr⟩

set_option maxHeartbeats 800000 in
theorem s_LongestIn_no (v : Value) (rs : List (Int × Int)) (w : World) (hA : RunsAt w v rs) (hI : Bnd rs) (hm : rs.length ≤ 1048576) (hg : good 0 rs = false) :
    Calls Try.prog 30 #[v] w fun e w' => e = .returned (.tuple #[.int .i64 0, .bool false]) ∧ Below w.heap.size w w' := by
  have hc := (s_GoodRuns v rs w hA hI (by omega))
  rw [hg] at hc
  clear hA hI hg
  go_enter Try.func30, Try.ntmps30
  go_wp2_with (go_at_call 17; refine hc.mono ?_; rintro e w6 ⟨rfl, hbk⟩)
  go_ret2
  exact ⟨rfl, hbk⟩
set_option maxHeartbeats 800000 in
theorem s_LongestIn_yes (v : Value) (rs : List (Int × Int)) (w : World) (hA : RunsAt w v rs) (hg : good 0 rs = true) :
    Calls Try.prog 30 #[v] w fun e w' => e = .returned (.tuple #[.int .i64 (maxR rs), .bool true]) ∧ Below w.heap.size w w' := by
  have hlen := good_len16 hg
  have hc := (s_GoodRuns v rs w hA (Bnd.good hg) (by omega))
  rw [hg] at hc
  have HOK : Hid (∀ r ∈ rs, okR r = true) := fun r hr => (good_mem hg r hr).1
  clear hg
  obtain ⟨a, ca, rfl, hA⟩ := hA
  generalize hn : rs.length = n at *
  have HN := Lib.hid hn; clear hn
  have HA := Lib.hid hA; clear hA
  go_enter Try.func30, Try.ntmps30
  go_wp2_with (go_at_call 17; refine hc.mono ?_; rintro e w6 ⟨rfl, hbk⟩)
  go_loopw [4, 12] (fun s i wr => ∃ k : Nat, k ≤ n ∧ i = .int .i64 k ∧ s = .int .i64 (maxR (rs.take k)) ∧ Below w.heap.size w wr) (fun _ i _ => n - (intOf i).toNat)
  case atStart => exact ⟨0, Nat.zero_le _, rfl, rfl, hbk⟩
  case round =>
    obtain ⟨k, hk, rfl, rfl, hbr⟩ := hrel
    have hsb := maxR_bound HOK.out k (by rw [HN.out]; exact hk)
    by_cases hlt : k < n
    · obtain ⟨b, off, rfl, hcc⟩ := HA.out (by omega)
      obtain ⟨p0, p1⟩ := hcc k hlt
      have q0 := cellBelow' hbr p0
      have q1 := cellBelow' hbr p1
      clear p0 p1 hcc
      have hss := maxR_take_succ (rs := rs) (k := k) (by rw [HN.out]; exact hlt)
      have hzo := (okR_iff _).1 (HOK.out _ (getD_mem (rs := rs) (k := k) (by rw [HN.out]; exact hlt)))
      generalize rs.getD k (0, 0) = z at q0 q1 hss hzo
      obtain ⟨z1, z2⟩ := z
      simp only [] at q0 q1 hss hzo
      generalize maxR (rs.take k) = s at *
      have HSS := Lib.hid hss; clear hss
      have i1 : (k : Int) < (n : Int) := by omega
      have HB1 := Lib.hid (bst hbr (below1 wr (.cells (cr (z1, z2)) 33)) hbr.size)
      clear hbr hbk
      by_cases hgt : z2 > s
      · go_wp2
        go_roundw
        case rel => exact ⟨k + 1, by omega, by go_num, by rw [HSS.out, Int.max_eq_right (by omega)], HB1.out⟩
        case measure => simp [intOf]; omega
      · go_wp2
        go_roundw
        case rel => exact ⟨k + 1, by omega, by go_num, by rw [HSS.out, Int.max_eq_left (by omega)], HB1.out⟩
        case measure => simp [intOf]; omega
    · have HE : Hid (rs.take k = rs) := by unfold Hid; exact List.take_of_length_le (by rw [HN.out]; omega)
      go_wp2
      go_ret2
      exact ⟨r_ib (by rw [HE.out]) rfl, hbr⟩

end Go.Proofs.Ytdiejmebodpjeaa
