/- The laws' own comparison of lists of runs. -/
import Derived.Test.YtdiejmebodpjeaaDn2
namespace Go.Proofs.Ytdiejmebodpjeaa
open Go.RowKit Pr

theorem eq_run (w : World) (a b : Int) : (Op.equalIn 10000 33 (.agg #[.int .i64 a, .int .i64 b]) (.agg #[.int .i64 a, .int .i64 b])).run Try.prog w = .ok true w := by
  have hf : Try.prog.fieldsOf 33 = (match Try.prog.underlying 33 with | some (.struct fs) => fs | _ => #[]) := rfl
  rw [run_equalIn_struct w 9999 33 _ _ (by rw [hf, Try.underlying33]) (by kernel_rfl), hf, Try.underlying33]
  have hagg : (isAgg 3).run Try.prog w = .ok false w := by
    unfold isAgg
    rw [Sem.run_bind, run_underlying Try.underlying3 w]
    simp
  have he : ∀ x : Int, (Op.equalIn 9999 3 (.int .i64 x) (.int .i64 x)).run Try.prog w = .ok true w := fun x => by
    rw [run_equalIn_int w 9998 3 .i64 .i64 x x Try.underlying3]; simp
  simp [Op.eqFields, Go.part, hagg, he]

set_option maxHeartbeats 1600000 in
theorem c_sameRuns (va vb : Value) (zs : List R) (w : World) (hA : RunsAt w va zs) (hB : RunsAt w vb zs) (hm : zs.length ≤ 1048576) :
    Calls Try.prog 15 #[va, vb] w fun e w' => e = .returned (.bool true) ∧ Below w.heap.size w w' := by
  obtain ⟨a, ca, rfl, hA⟩ := hA
  obtain ⟨b, cb, rfl, hB⟩ := hB
  generalize zs.length = n at *
  have hbq : ((n : Int) != (n : Int)) = false := by simp
  have HA := Lib.hid hA; have HB := Lib.hid hB
  clear hA hB
  go_enter Try.func15, Try.ntmps15
  go_wp2
  go_loopw [13] (fun i wr => ∃ k : Nat, k ≤ n ∧ i = .int .i64 k ∧ ∃ n, wr = w.drewN n) (fun i _ => n - (intOf i).toNat)
  case atStart => exact ⟨0, Nat.zero_le _, rfl, drewN_refl _⟩
  case round =>
    obtain ⟨k, hk, rfl, nd, rfl⟩ := hrel
    by_cases hlt : k < n
    · obtain ⟨ba, oa, rfl, hca⟩ := HA.out (by omega)
      obtain ⟨bb, ob, rfl, hcb⟩ := HB.out (by omega)
      obtain ⟨q0, q1⟩ := hca k hlt
      obtain ⟨r0, r1⟩ := hcb k hlt
      clear hca hcb
      have i1 : (k : Int) < (n : Int) := by omega
      generalize zs.getD k (0, 0) = z at q0 q1 r0 r1
      obtain ⟨z1, z2⟩ := z
      simp only [] at q0 q1 r0 r1
      have heq := fun m => eq_run (w.drewN m) z1 z2
      go_wp2
      go_quiet (fail)
      go_wp2
      go_roundw
      case rel => exact ⟨k + 1, by omega, by go_num, nd + nq, by simp⟩
      case measure => simp [intOf]; omega
    · go_wp2
      go_ret
      exact ⟨rfl, below_drewN (Below.refl _ _) _⟩
end Go.Proofs.Ytdiejmebodpjeaa
