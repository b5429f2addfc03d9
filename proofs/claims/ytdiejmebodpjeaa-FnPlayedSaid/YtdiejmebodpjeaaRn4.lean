/- GoodRuns, the project's and the reference's. -/
import Derived.Test.YtdiejmebodpjeaaRn3
namespace Go.Proofs.Ytdiejmebodpjeaa
open Go.RowKit Pr

set_option maxHeartbeats 1600000 in
theorem c_GoodRuns (v : Value) (rs : List (Int × Int)) (w : World) (hA : RunsAt w v rs) (hI : Bnd rs) (hm : rs.length ≤ 9223372036854775806) :
    Calls Try.prog 16 #[v] w fun e w' => e = .returned (.bool (good 0 rs)) ∧ Below w.heap.size w w' := by
  obtain ⟨a, ca, rfl, hA⟩ := hA
  generalize hn : rs.length = n at *
  have HN := Lib.hid hn; clear hn
  have HA := Lib.hid hA; clear hA
  have HI := Lib.hid hI; clear hI
  go_enter Try.func16, Try.ntmps16
  go_wp2
  go_loopw [3, 8] (fun ls i wr => ∃ k : Nat, k ≤ n ∧ i = .int .i64 k ∧ ls = .int .i64 (leastAt rs k) ∧ Hid (Pre rs k) ∧ Below w.heap.size w wr) (fun _ i _ => n - (intOf i).toNat)
  case atStart => exact ⟨0, Nat.zero_le _, rfl, rfl, Pre.start rs, Below.refl _ _⟩
  case round =>
    obtain ⟨k, hk, rfl, rfl, hp, hbr⟩ := hrel
    by_cases hlt : k < n
    · obtain ⟨b, off, rfl, hc⟩ := HA.out (by omega)
      obtain ⟨p0, p1⟩ := hc k hlt
      have q0 := cellBelow' hbr p0
      have q1 := cellBelow' hbr p1
      have hb2 := hp.out.bound
      clear p0 p1 hc
      have HLT : Hid (k < rs.length) := by unfold Hid; rw [HN.out]; exact hlt
      generalize hz : rs.getD k (0, 0) = z at q0 q1
      obtain ⟨z1, z2⟩ := z
      have HZ := Lib.hid hz; clear hz
      have HZI : Hid (i64R (z1, z2)) := by unfold Hid; rw [← HZ.out]; exact HI.out.at k
      have HBR := Lib.hid hbr; clear hbr
      generalize hl : leastAt rs k = ls at *
      have HL := Lib.hid hl; clear hl
      have i1 : (k : Int) < (n : Int) := by omega
      by_cases ht : z1 < ls
      · have HF : Hid (good 0 rs = false) := hp.out.low HLT.out (by rw [HL.out, HZ.out]; simp only []; omega)
        have HB1 := Lib.hid (bst HBR.out (below1 wr (.cells (cr (z1, z2)) 33)) HBR.out.size)
        go_wp2
        go_ret
        exact ⟨r_b HF.out.symm, HB1.out⟩
      · have HB1 := Lib.hid (bst HBR.out (below1 wr (.cells (cr (z1, z2)) 33)) HBR.out.size)
        have HRW := Lib.hid (Row.new wr 33 (cr (z1, z2)))
        cases hok : okR (z1, z2)
        · have HF : Hid (good 0 rs = false) := hp.out.bad HLT.out (by rw [HZ.out]; exact hok)
          have HOK := Lib.hid hok; clear hok
          go_wp2_with (go_at_call 49; refine (c_isPageRun (z1, z2) _ HZI.out).mono ?_; rintro e w6 ⟨rfl, hbk⟩; rw [HOK.out]; have HBK := Lib.hid hbk; clear hbk)
          go_ret
          exact ⟨r_b HF.out.symm, bst HB1.out HBK.out HB1.out.size⟩
        · have HP : Hid (Pre rs (k + 1)) := hp.out.step HLT.out (by rw [HL.out, HZ.out]; simp only []; omega) (by rw [HZ.out]; exact hok)
          have HV : Hid (leastAt rs (k + 1) = z1 + z2 + 1) := by unfold Hid; rw [leastAt_succ, HZ.out]
          obtain ⟨o1, o2, o3⟩ := (okR_iff _).1 hok
          simp only [] at o1 o2 o3
          have HOK := Lib.hid hok; clear hok
          go_wp2_with (go_at_call 49; refine (c_isPageRun (z1, z2) _ HZI.out).mono ?_; rintro e w6 ⟨rfl, hbk⟩; rw [HOK.out]; have c0 : w6.cell? ⟨wr.heap.size, 0, none⟩ = some (.int .i64 z1) := (HRW.out.below hbk).cell 0; have c1 : w6.cell? ⟨wr.heap.size, 0 + 1, none⟩ = some (.int .i64 z2) := (HRW.out.below hbk).cell 1; have HBK := Lib.hid hbk; clear hbk)
          go_roundw
          case rel => exact ⟨k + 1, by omega, by go_num, by rw [HV.out], HP.out, bst HB1.out HBK.out HB1.out.size⟩
          case measure => simp [intOf]; omega
    · have HF : Hid (good 0 rs = true) := hp.out.done (by rw [HN.out]; omega)
      go_wp2
      go_ret
      exact ⟨r_b HF.out.symm, hbr⟩
end Go.Proofs.Ytdiejmebodpjeaa
