/- The reference's SetField and SetRoot. -/
import Derived.Test.YtcjkkbbinieblaaHs6
import Derived.Test.YtcjkkbbinieblaaHs4
namespace Go.Proofs.Ytcjkkbbinieblaa
open Go.RowKit Ph

set_option maxHeartbeats 1600000 in
theorem s_l5Thing (a b c : Value) (h : H) (z : Int) (w : World) (hA : HeapAt w a b c h) (hG : Ph.Good h) : Calls Try.prog 69 #[hv a b c, .int .i64 z] w fun e w' => e = .returned (.bool (liveB h.l z)) ∧ Below w.heap.size w w' := by
  have hb0 := below1 w (.cells (c3 a b c) 27)
  have A0 := Lib.hid (hA.below hb0)
  have HB := Lib.hid hb0
  obtain ⟨fa, fc, rfl⟩ := hA.f.shape
  obtain ⟨la, lc, rfl⟩ := hA.l.shape
  have hll := hG.ll
  have hn := hG.n
  have hlt := liveB_lt (l := h.l) (z := z)
  have hex : ∀ k : Nat, z = k → liveB h.l z = h.l.getD k false := fun k e => by subst e; unfold liveB; rw [decide_eq_true (by omega)]; simp
  clear hA hG hb0
  rw [hll] at A0 HB hlt ⊢
  generalize h.f.length = n at *
  by_cases h0 : 0 ≤ z ∧ z ≤ (n : Int) - 1
  · obtain ⟨k, rfl⟩ : ∃ k : Nat, z = k := ⟨z.toNat, by omega⟩
    have HIN : Hid (∀ w', Calls Try.prog 70 #[.int .i64 k, .int .i64 0, .int .i64 ((n : Int) - 1)] w' fun e w'' => e = .returned (.bool true) ∧ w' = w'') := fun w' => s_l1In_yes k 0 _ w' h0.1 h0.2
    obtain ⟨gl, ol, rfl, hcl⟩ := A0.out.l.at' (by omega)
    have q := hcl k (by omega)
    rw [← hex k rfl] at q
    generalize liveB h.l (k : Int) = x at *
    have i1 : (k : Int) < (n : Int) := by omega
    clear hcl hex hlt h0
    go_enter Try.func69, Try.ntmps69
    go_wp2_with (go_at_call 70; refine (HIN.out _).mono ?_; rintro e wi ⟨rfl, rfl⟩)
    go_ret
    exact ⟨rfl, HB.out⟩
  · have HIN : Hid (∀ w', Calls Try.prog 70 #[.int .i64 z, .int .i64 0, .int .i64 ((n : Int) - 1)] w' fun e w'' => e = .returned (.bool false) ∧ w' = w'') := fun w' => s_l1In_no z 0 _ w' (by omega)
    have HE : Hid (liveB h.l z = false) := by
      unfold Hid
      cases hq : liveB h.l z with
      | false => rfl
      | true => have := hlt hq; omega
    clear hex hlt h0
    go_enter Try.func69, Try.ntmps69
    go_wp2_with (go_at_call 70; refine (HIN.out _).mono ?_; rintro e wi ⟨rfl, rfl⟩)
    go_ret
    exact ⟨r_b HE.out.symm, HB.out⟩
end Go.Proofs.Ytcjkkbbinieblaa
