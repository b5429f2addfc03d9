/- Lists of ints compared: the library's Equal and the reference's; what two heaps have in common. -/
import Derived.Test.YthanckifinfpiaaHr3
import Derived.Test.YthanckifinfpiaaHs4
namespace Go.Proofs.Ythanckifinfpiaa.Ph
/-- The same roots, the same objects reached, and the same fields of these. -/
def Same (a b : H) : Prop := a.r = b.r ∧ ∀ k, (Reach a.f a.r k ↔ Reach b.f b.r k) ∧ (Reach a.f a.r k → a.f.getD k [] = b.f.getD k [])
noncomputable def sameP (a b : H) : Bool := @decide (Same a b) (Classical.propDecidable _)
theorem sameP_iff {a b : H} : sameP a b = true ↔ Same a b := by unfold sameP; simp
theorem sameP_false {a b : H} (h : ¬ Same a b) : sameP a b = false := by
  cases hq : sameP a b with
  | false => rfl
  | true => exact absurd (sameP_iff.1 hq) h
/-- The project's test is enough. -/
theorem same_of {a b : H} (hr : a.r = b.r) (hf : ∀ k, Reach a.f a.r k → a.f.getD k [] = b.f.getD k []) : Same a b := by
  refine ⟨hr, fun k => ⟨⟨fun h => ?_, fun h => ?_⟩, hf k⟩⟩
  · induction h with
    | root hz => exact .root (by rw [← hr]; exact hz)
    | step hy hk ih => exact .step ih (by rw [← hf _ hy]; exact hk)
  · induction h with
    | root hz => exact .root (by rw [hr]; exact hz)
    | step hy hk ih => exact .step ih (by rw [hf _ ih]; exact hk)
theorem reach_live {h : H} (g : Ph.Good h) {k : Nat} (hk : Reach h.f h.r k) : h.l.getD k false = true ∧ k < h.f.length := by
  have key : ∀ z : Int, (z = -1 ∨ (0 ≤ z ∧ z < h.f.length ∧ h.l.getD z.toNat false = true)) → z = (k : Int) → h.l.getD k false = true ∧ k < h.f.length := fun z hz e => by
    subst e
    rcases hz with h1 | ⟨_, h2, h3⟩
    · omega
    · exact ⟨by simpa using h3, by omega⟩
  cases hk with
  | root hz => exact key _ (refs_bound g g.rr _ hz) rfl
  | step _ hz => exact key _ (g.field hz) rfl
end Go.Proofs.Ythanckifinfpiaa.Ph
namespace Go.Proofs.Ythanckifinfpiaa
open Go.RowKit Ph

set_option maxHeartbeats 400000 in
theorem c_slEqual (va vb : Value) (za zb : List Int) (w : World) (hA : IntsAt w va za) (hB : IntsAt w vb zb) (hm : za.length ≤ 9223372036854775806) :
    Calls Try.prog 81 #[va, vb] w fun e w' => e = .returned (.bool (decide (za = zb))) ∧ ∃ n, w' = w.drewN n := by
  obtain ⟨a, ca, rfl, hA⟩ := hA
  obtain ⟨b, cb, rfl, hB⟩ := hB
  by_cases hl : za.length = zb.length
  · rw [← hl] at hB ⊢
    generalize hn : za.length = n at *
    have HN := Lib.hid hn; have HL := Lib.hid hl; clear hn hl
    have hbq : ((n : Int) != (n : Int)) = false := by simp
    by_cases h0 : n = 0
    · subst h0
      obtain rfl : za = [] := List.eq_nil_of_length_eq_zero HN.out
      obtain rfl : zb = [] := List.eq_nil_of_length_eq_zero HL.out.symm
      clear hA hB
      go_enter Try.func81, Try.ntmps81
      go_wp2
      refine wp_loop_rounds 1 ?_
      rw [rounds_succ]
      go_wp2
      go_ret
      exact ⟨rfl, drewN_refl _⟩
    · obtain ⟨ba, oa, rfl, hca⟩ := hA (by omega)
      obtain ⟨bb, ob, rfl, hcb⟩ := hB (by omega)
      clear hA hB
      have HCA := Lib.hid hca; have HCB := Lib.hid hcb; clear hca hcb
      go_enter Try.func81, Try.ntmps81
      go_wp2
      go_loopw [13] (fun i wr => ∃ k : Nat, k ≤ n ∧ i = .int .i64 k ∧ Hid (za.take k = zb.take k) ∧ ∃ n, wr = w.drewN n) (fun i _ => n - (intOf i).toNat)
      case atStart => exact ⟨0, Nat.zero_le _, rfl, by simp [Hid], drewN_refl _⟩
      case round =>
        obtain ⟨k, hk, rfl, ht, nd, rfl⟩ := hrel
        by_cases hlt : k < n
        · have q1 := HCA.out k hlt
          have q2 := HCB.out k hlt
          have i1 : (k : Int) < (n : Int) := by omega
          generalize hx : za.getD k 0 = x at q1
          generalize hy : zb.getD k 0 = y at q2
          have HX := Lib.hid hx; have HY := Lib.hid hy; clear hx hy
          by_cases exy : x = y
          · subst exy
            go_wp2
            go_quiet (fail)
            go_wp2
            go_roundw
            case rel => exact ⟨k + 1, by omega, by go_num, take_eq_succ ht.out (by rw [HN.out]; exact hlt) (by rw [← HL.out]; exact hlt) (HX.out.trans HY.out.symm), nd + nq, by simp⟩
            case measure => simp [intOf]; omega
          · have hne : (x != y) = true := by rw [bne_iff_ne]; exact exy
            have HNE : Hid (decide (za = zb) = false) := decide_eq_false (ne_of_getD (k := k) (by rw [HX.out, HY.out]; exact exy))
            clear exy
            go_wp2
            go_quiet (fail)
            go_wp2
            go_ret
            exact ⟨r_b HNE.out.symm, nd + nq, by simp⟩
        · have HE : Hid (decide (za = zb) = true) := decide_eq_true (take_all_eq (n := k) (by rw [HN.out]; omega) (by rw [← HL.out]; omega) ht.out)
          go_wp2
          go_ret
          exact ⟨r_b HE.out.symm, _, rfl⟩
  · generalize hna : za.length = na at *
    generalize hnb : zb.length = nb at *
    have hbq : ((na : Int) != (nb : Int)) = true := by rw [bne_iff_ne]; omega
    have HN : Hid (decide (za = zb) = false) := decide_eq_false (fun h => hl (by rw [← hna, ← hnb, h]))
    clear hl hA hB hna hnb
    go_enter Try.func81, Try.ntmps81
    go_wp2
    go_ret
    exact ⟨r_b HN.out.symm, drewN_refl _⟩
set_option maxHeartbeats 400000 in
theorem s_l1Same (va vb : Value) (za zb : List Int) (w : World) (hA : IntsAt w va za) (hB : IntsAt w vb zb) (hm : za.length ≤ 9223372036854775806) :
    Calls Try.prog 134 #[va, vb] w fun e w' => e = .returned (.bool (decide (za = zb))) ∧ ∃ n, w' = w.drewN n := by
  obtain ⟨a, ca, rfl, hA⟩ := hA
  obtain ⟨b, cb, rfl, hB⟩ := hB
  by_cases hl : za.length = zb.length
  · rw [← hl] at hB ⊢
    generalize hn : za.length = n at *
    have HN := Lib.hid hn; have HL := Lib.hid hl; clear hn hl
    have hbq : ((n : Int) != (n : Int)) = false := by simp
    by_cases h0 : n = 0
    · subst h0
      obtain rfl : za = [] := List.eq_nil_of_length_eq_zero HN.out
      obtain rfl : zb = [] := List.eq_nil_of_length_eq_zero HL.out.symm
      clear hA hB
      go_enter Try.func134, Try.ntmps134
      go_wp2
      refine wp_loop_rounds 1 ?_
      rw [rounds_succ]
      go_wp2
      go_ret
      exact ⟨rfl, drewN_refl _⟩
    · obtain ⟨ba, oa, rfl, hca⟩ := hA (by omega)
      obtain ⟨bb, ob, rfl, hcb⟩ := hB (by omega)
      clear hA hB
      have HCA := Lib.hid hca; have HCB := Lib.hid hcb; clear hca hcb
      go_enter Try.func134, Try.ntmps134
      go_wp2
      go_loopw [13] (fun i wr => ∃ k : Nat, k ≤ n ∧ i = .int .i64 k ∧ Hid (za.take k = zb.take k) ∧ ∃ n, wr = w.drewN n) (fun i _ => n - (intOf i).toNat)
      case atStart => exact ⟨0, Nat.zero_le _, rfl, by simp [Hid], drewN_refl _⟩
      case round =>
        obtain ⟨k, hk, rfl, ht, nd, rfl⟩ := hrel
        by_cases hlt : k < n
        · have q1 := HCA.out k hlt
          have q2 := HCB.out k hlt
          have i1 : (k : Int) < (n : Int) := by omega
          generalize hx : za.getD k 0 = x at q1
          generalize hy : zb.getD k 0 = y at q2
          have HX := Lib.hid hx; have HY := Lib.hid hy; clear hx hy
          by_cases exy : x = y
          · subst exy
            go_wp2
            go_quiet (fail)
            go_wp2
            go_roundw
            case rel => exact ⟨k + 1, by omega, by go_num, take_eq_succ ht.out (by rw [HN.out]; exact hlt) (by rw [← HL.out]; exact hlt) (HX.out.trans HY.out.symm), nd + nq, by simp⟩
            case measure => simp [intOf]; omega
          · have hne : (x != y) = true := by rw [bne_iff_ne]; exact exy
            have HNE : Hid (decide (za = zb) = false) := decide_eq_false (ne_of_getD (k := k) (by rw [HX.out, HY.out]; exact exy))
            clear exy
            go_wp2
            go_quiet (fail)
            go_wp2
            go_ret
            exact ⟨r_b HNE.out.symm, nd + nq, by simp⟩
        · have HE : Hid (decide (za = zb) = true) := decide_eq_true (take_all_eq (n := k) (by rw [HN.out]; omega) (by rw [← HL.out]; omega) ht.out)
          go_wp2
          go_ret
          exact ⟨r_b HE.out.symm, _, rfl⟩
  · generalize hna : za.length = na at *
    generalize hnb : zb.length = nb at *
    have hbq : ((na : Int) != (nb : Int)) = true := by rw [bne_iff_ne]; omega
    have HN : Hid (decide (za = zb) = false) := decide_eq_false (fun h => hl (by rw [← hna, ← hnb, h]))
    clear hl hA hB hna hnb
    go_enter Try.func134, Try.ntmps134
    go_wp2
    go_ret
    exact ⟨r_b HN.out.symm, drewN_refl _⟩
end Go.Proofs.Ythanckifinfpiaa
