/- The laws' helper 'has'. -/
import Derived.Test.YtcelebblcjhpaaaDoorDr6
namespace Go.Proofs.YtcelebblcjhpaaaDoor
open Go.RowKit Pb

theorem mem_of_getD {zs : List Int} {k : Nat} {x : Int} (h : k < zs.length) (e : zs.getD k 0 = x) : x ∈ zs := by
  rw [← e, List.getD, List.getElem?_eq_getElem h]; simp
theorem not_mem_all {zs : List Int} {x : Int} (h : ∀ i, i < zs.length → zs.getD i 0 ≠ x) : ¬ x ∈ zs := fun hm => by
  obtain ⟨i, hi, e⟩ := List.mem_iff_getElem.1 hm
  exact h i hi (by rw [List.getD, List.getElem?_eq_getElem hi]; simpa using e)

set_option maxHeartbeats 800000 in
theorem c_has (v : Value) (zs : List Int) (x : Int) (w : World) (hv : IntsAt w v zs) (hm : zs.length ≤ 1000) :
    Calls Tryd.prog 35 #[v, .int .i64 x] w fun e w' => e = .returned (.bool (decide (x ∈ zs))) ∧ w = w' := by
  obtain ⟨a, ca, rfl, hA⟩ := hv
  generalize hn : zs.length = n at *
  have HN := Lib.hid hn; clear hn
  by_cases h0 : n = 0
  · subst h0
    obtain rfl : zs = [] := List.eq_nil_of_length_eq_zero HN.out
    clear hA
    go_enter Tryd.func35, Tryd.ntmps35
    go_wp2
    refine wp_loop_rounds 1 ?_
    rw [rounds_succ]
    go_wp2
    go_ret
    exact ⟨r_b (by simp), rfl⟩
  · obtain ⟨ba, oa, rfl, hca⟩ := hA (by omega)
    clear hA
    have HCA := Lib.hid hca; clear hca
    go_enter Tryd.func35, Tryd.ntmps35
    go_wp2
    go_loopw [9] (fun i wr => ∃ k : Nat, k ≤ n ∧ i = .int .i64 k ∧ Hid (∀ i, i < k → zs.getD i 0 ≠ x) ∧ wr = w) (fun i _ => n - (intOf i).toNat)
    case atStart => exact ⟨0, Nat.zero_le _, rfl, fun i hi => absurd hi (Nat.not_lt_zero _), rfl⟩
    case round =>
      obtain ⟨k, hk, rfl, ht, rfl⟩ := hrel
      by_cases hlt : k < n
      · have q1 := HCA.out k hlt
        have i1 : (k : Int) < (n : Int) := by omega
        generalize hx : zs.getD k 0 = y at q1
        have HX := Lib.hid hx; clear hx
        by_cases exy : y = x
        · subst exy
          have HE : Hid (decide (y ∈ zs) = true) := decide_eq_true (mem_of_getD (by rw [HN.out]; exact hlt) HX.out)
          go_wp2
          go_ret
          exact ⟨r_b HE.out.symm, rfl⟩
        · have HNE := Lib.hid exy
          have hbq : (y == x) = false := by simpa using exy
          clear exy
          go_wp2
          go_roundw
          case rel => exact ⟨k + 1, by omega, by go_num, fun i hi => by
            rcases Nat.lt_succ_iff_lt_or_eq.1 hi with h | h
            · exact ht.out i h
            · rw [h, HX.out]; exact HNE.out, trivial⟩
          case measure => simp [intOf]; omega
      · have HE : Hid (decide (x ∈ zs) = false) := decide_eq_false (not_mem_all (fun i hi => ht.out i (by rw [HN.out] at hi; omega)))
        have i1 : ¬ (k : Int) < (n : Int) := by omega
        go_wp2
        go_ret
        exact ⟨r_b HE.out.symm, rfl⟩
end Go.Proofs.YtcelebblcjhpaaaDoor
