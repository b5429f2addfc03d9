/- GoodRuns, the reference's. -/
import Derived.Test.YtdiejmebodpjeaaRn3
namespace Go.Proofs.Ytdiejmebodpjeaa
open Go.RowKit Pr
theorem quiet_same' {P : Program} {f : FuncId} {args : Array Value} {w : World} {n : Nat} {v : Value}
    (h : Calls P f args (w.drewN n) fun e w' => e = .returned v ∧ w.drewN n = w') : Calls P f args (w.drewN n) fun e w'' => e = .returned v ∧ ∃ m, w'' = w.drewN m :=
  h.mono fun _ _ ⟨he, hm⟩ => ⟨he, n, hm.symm⟩

set_option maxHeartbeats 1600000 in
theorem s_GoodRuns (v : Value) (rs : List (Int × Int)) (w : World) (hA : RunsAt w v rs) (hI : Bnd rs) (hm : rs.length ≤ 9223372036854775806) :
    Calls Try.prog 17 #[v] w fun e w' => e = .returned (.bool (good 0 rs)) ∧ Below w.heap.size w w' := by
  obtain ⟨a, ca, rfl, hA⟩ := hA
  generalize hn : rs.length = n at *
  have HN := Lib.hid hn; clear hn
  have HA := Lib.hid hA; clear hA
  have HI := Lib.hid hI; clear hI
  go_enter Try.func17, Try.ntmps17
  go_wp2
  go_loopw [7] (fun i wr => ∃ k : Nat, k ≤ n ∧ i = .int .i64 k ∧ Hid (Pre rs k) ∧ Below w.heap.size w wr) (fun i _ => n - (intOf i).toNat)
  case atStart => exact ⟨0, Nat.zero_le _, rfl, Pre.start rs, Below.refl _ _⟩
  case round =>
    obtain ⟨k, hk, rfl, hp, hbr⟩ := hrel
    by_cases hlt : k < n
    · obtain ⟨b, off, rfl, hc⟩ := HA.out (by omega)
      obtain ⟨p0, p1⟩ := hc k hlt
      have q0 := cellBelow' hbr p0
      have q1 := cellBelow' hbr p1
      have HLT : Hid (k < rs.length) := by unfold Hid; rw [HN.out]; exact hlt
      clear p0 p1
      generalize hz : rs.getD k (0, 0) = z at q0 q1
      obtain ⟨z1, z2⟩ := z
      have HZ := Lib.hid hz; clear hz
      obtain ⟨⟨y1, y2⟩, y3, y4⟩ : i64R (z1, z2) := by rw [← HZ.out]; exact HI.out.at k
      simp only [] at y1 y2 y3 y4
      have HBR := Lib.hid hbr; clear hbr
      have i1 : (k : Int) < (n : Int) := by omega
      have HB1 := Lib.hid (bst HBR.out (below1 wr (.cells (cr (z1, z2)) 33)) HBR.out.size)
      by_cases h1 : 0 ≤ z1 ∧ z1 ≤ 31
      · by_cases h2 : 1 ≤ z2 ∧ z2 ≤ 32 - z1
        · have HOK : Hid (okR (z1, z2) = true) := (okR_iff _).2 (by simp only []; omega)
          cases k with
          | zero =>
            have HP : Hid (Pre rs 1) := hp.out.step HLT.out (by rw [HZ.out, leastAt_zero]; exact h1.1) (by rw [HZ.out]; exact HOK.out)
            clear hc
            simp only [Nat.zero_mul, Nat.add_zero] at q0 q1
            go_wp2
            go_quiet ((first | (go_at_call 48; exact quiet_same' (c_in_yes _ _ _ _ h1)) | (go_at_call 48; exact quiet_same' (c_in_yes _ _ _ _ h2))))
            go_wp2
            go_roundw
            case rel => exact ⟨1, by omega, by go_num, HP.out, below_drewN HB1.out _⟩
            case measure => simp [intOf]; omega
          | succ j =>
            obtain ⟨p0, p1⟩ := hc j (by omega)
            have r0 := cellBelow' HBR.out p0
            have r1 := cellBelow' HBR.out p1
            clear p0 p1 hc
            have hpo := hp.out.2 (by omega)
            simp only [Nat.add_sub_cancel] at hpo
            generalize hy : rs.getD j (0, 0) = y at r0 r1 hpo
            obtain ⟨a1, a2⟩ := y
            have HY := Lib.hid hy; clear hy
            obtain ⟨o1, o2, o3⟩ := (okR_iff _).1 hpo
            simp only [] at o1 o2 o3
            clear hpo
            have i2 : IntKind.i64.wrap (32 - z1) = 32 - z1 := IntWalk.i64_in _ (by omega)
            have i3 : IntKind.i64.wrap (j : Int) = j := IntWalk.i64_in _ (by omega)
            have i4 : IntKind.i64.wrap (a1 + a2) = a1 + a2 := IntWalk.i64_in _ (by omega)
            have i5 : (j : Int) < n := by omega
            have r2 : (wr.alloc (.cells #[.int .i64 z1, .int .i64 z2] 33)).cell? ⟨b, off + j * 2, none⟩ = some (.int .i64 a1) := cellBelow' (below1 wr _) r0
            have r3 : (wr.alloc (.cells #[.int .i64 z1, .int .i64 z2] 33)).cell? ⟨b, off + j * 2 + 1, none⟩ = some (.int .i64 a2) := cellBelow' (below1 wr _) r1
            have HV : Hid (leastAt rs (j + 1) = a1 + a2 + 1) := by unfold Hid; rw [leastAt_succ, HY.out]
            by_cases h3 : a1 + a2 ≥ z1
            · have HF : Hid (good 0 rs = false) := hp.out.low HLT.out (by rw [HV.out, HZ.out]; simp only []; omega)
              go_wp2
              go_quiet ((first | (go_at_call 48; exact quiet_same' (c_in_yes _ _ _ _ h1)) | (go_at_call 48; exact quiet_same' (c_in_yes _ _ _ _ h2))))
              go_wp2
              go_ret
              exact ⟨r_b HF.out.symm, below_drewN HB1.out _⟩
            · have HP : Hid (Pre rs (j + 1 + 1)) := hp.out.step HLT.out (by rw [HV.out, HZ.out]; simp only []; omega) (by rw [HZ.out]; exact HOK.out)
              go_wp2
              go_quiet ((first | (go_at_call 48; exact quiet_same' (c_in_yes _ _ _ _ h1)) | (go_at_call 48; exact quiet_same' (c_in_yes _ _ _ _ h2))))
              go_wp2
              go_roundw
              case rel => exact ⟨j + 1 + 1, by omega, by go_num, HP.out, below_drewN HB1.out _⟩
              case measure => simp [intOf]; omega
        · have HF : Hid (good 0 rs = false) := hp.out.bad HLT.out (by rw [HZ.out]; cases e : okR (z1, z2) with | false => rfl | true => have := (okR_iff _).1 e; simp only [] at this; omega)
          clear hc
          go_wp2
          go_quiet ((first | (go_at_call 48; exact quiet_same' (c_in_yes _ _ _ _ h1)) | (go_at_call 48; exact quiet_same' (c_in_no _ _ _ _ h2))))
          go_wp2
          go_ret
          exact ⟨r_b HF.out.symm, below_drewN HB1.out _⟩
      · have HF : Hid (good 0 rs = false) := hp.out.bad HLT.out (by rw [HZ.out]; cases e : okR (z1, z2) with | false => rfl | true => have := (okR_iff _).1 e; simp only [] at this; omega)
        clear hc
        go_wp2
        go_quiet ((go_at_call 48; exact quiet_same' (c_in_no _ _ _ _ h1)))
        go_wp2
        go_ret
        exact ⟨r_b HF.out.symm, below_drewN HB1.out _⟩
    · have HF : Hid (good 0 rs = true) := hp.out.done (by rw [HN.out]; omega)
      go_wp2
      go_ret
      exact ⟨r_b HF.out.symm, hbr⟩
end Go.Proofs.Ytdiejmebodpjeaa
