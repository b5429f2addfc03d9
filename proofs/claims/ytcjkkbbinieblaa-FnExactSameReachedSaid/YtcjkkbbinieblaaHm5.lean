/- The reference's SameReached. -/
import Derived.Test.YtcjkkbbinieblaaHm4
namespace Go.Proofs.Ytcjkkbbinieblaa
open Go.RowKit Ph

set_option maxRecDepth 100000 in
set_option maxHeartbeats 6400000 in
theorem s_SameReached (a1 b1 c1 a2 b2 c2 : Value) (x y : H) (w : World) (hA : HeapAt w a1 b1 c1 x) (hB : HeapAt w a2 b2 c2 y) :
    Calls Try.prog 23 #[hv a1 b1 c1, hv a2 b2 c2] w fun e w' => e = .returned (.tuple #[.bool (sameQ x y), .bool (both x y)]) ∧ Below w.heap.size w w' := by
  have hb0 := (below1 w (.cells (c3 a1 b1 c1) 27)).alloc (by simp) (.cells (c3 a2 b2 c2) 27)
  have A0 := Lib.hid (hA.below hb0); have B0 := Lib.hid (hB.below hb0)
  have HB := Lib.hid hb0
  have P0 := Lib.hid (show RowH _ _ a1 b1 c1 from (Row.new w 27 (c3 a1 b1 c1)).alloc (.cells (c3 a2 b2 c2) 27))
  have Q0 := Lib.hid (show RowH _ (w.heap.size + 1) a2 b2 c2 from Row.new1 w (.cells (c3 a1 b1 c1) 27) 27 (c3 a2 b2 c2))
  have GA := Lib.hid (good_iff (h := x)).1; have GB := Lib.hid (good_iff (h := y)).1
  have h2 : both x y = (good x && good y) := rfl
  have h1 : sameQ x y = ((good x && good y) && sameP x y) := rfl
  have HCA : Hid (∀ w', HeapAt w' a1 b1 c1 x → Calls Try.prog 37 #[hv a1 b1 c1] w' fun e w'' => e = .returned (.bool (good x)) ∧ Below w'.heap.size w' w'') := fun w' h => s_GoodHeap a1 b1 c1 x w' h
  have HCB : Hid (∀ w', HeapAt w' a2 b2 c2 y → Calls Try.prog 37 #[hv a2 b2 c2] w' fun e w'' => e = .returned (.bool (good y)) ∧ Below w'.heap.size w' w'') := fun w' h => s_GoodHeap a2 b2 c2 y w' h
  have p0 := P0.out.c0
  have p1 := P0.out.c1
  have p2 := P0.out.c2
  have q0 := Q0.out.c0
  have q1 := Q0.out.c1
  have q2 := Q0.out.c2
  generalize both x y = r2 at *
  generalize sameQ x y = r1 at *
  generalize good x = gx at *
  generalize good y = gy at *
  cases gx
  · have H1 : Hid (r1 = false) := by unfold Hid; rw [h1]; rfl
    have H2 : Hid (r2 = false) := by unfold Hid; rw [h2]; rfl
    clear h1 h2 hA hB
    go_enter Try.func23, Try.ntmps23
    go_wp2_with (go_at_call 37; refine (HCA.out _ A0.out).mono ?_; rintro e w1 ⟨rfl, hb1⟩; have B1 := Lib.hid (bst HB.out hb1 HB.out.size); clear hb1)
    go_ret2
    exact ⟨r_bb H1.out.symm H2.out.symm, B1.out⟩
  · cases gy
    · have H1 : Hid (r1 = false) := by unfold Hid; rw [h1]; rfl
      have H2 : Hid (r2 = false) := by unfold Hid; rw [h2]; rfl
      clear h1 h2 hA hB
      go_enter Try.func23, Try.ntmps23
      go_wp2_with (first
        | (go_at_call 37; refine (HCB.out _ Y1.out).mono ?_; rintro e w2 ⟨rfl, hb2⟩; have B2 := Lib.hid (bst B1.out hb2 B1.out.size); clear hb2)
        | (go_at_call 37; refine (HCA.out _ A0.out).mono ?_; rintro e w1 ⟨rfl, hb1⟩; have B1 := Lib.hid (bst HB.out hb1 HB.out.size); have Y1 := Lib.hid (B0.out.below hb1); have Q1 := Lib.hid (Q0.out.below hb1); have s0 := Q1.out.c0; have s1 := Q1.out.c1; have s2 := Q1.out.c2; clear hb1))
      go_ret2
      exact ⟨r_bb H1.out.symm H2.out.symm, B2.out⟩
    · have H2 : Hid (r2 = true) := by unfold Hid; rw [h2]; rfl
      have H1 : Hid (r1 = sameP x y) := by unfold Hid; rw [h1]; rfl
      have GX := Lib.hid (GA.out rfl); have GY := Lib.hid (GB.out rfl)
      clear h1 h2 hA hB
      go_enter Try.func23, Try.ntmps23
      go_wp2_with (first
        | (go_at_call 37; refine (HCB.out _ Y1.out).mono ?_; rintro e w2 ⟨rfl, hb2⟩; have B2 := Lib.hid (bst B1.out hb2 B1.out.size); have X2 := Lib.hid (X1.out.below hb2); have Y2 := Lib.hid (Y1.out.below hb2); have P2 := Lib.hid (P1.out.below hb2); have Q2 := Lib.hid (Q1.out.below hb2); have t0 := P2.out.c0; have t1 := P2.out.c1; have t2 := P2.out.c2; have v0 := Q2.out.c0; have v1 := Q2.out.c1; have v2 := Q2.out.c2; clear hb2)
        | (go_at_call 37; refine (HCA.out _ A0.out).mono ?_; rintro e w1 ⟨rfl, hb1⟩; have B1 := Lib.hid (bst HB.out hb1 HB.out.size); have X1 := Lib.hid (A0.out.below hb1); have Y1 := Lib.hid (B0.out.below hb1); have P1 := Lib.hid (P0.out.below hb1); have Q1 := Lib.hid (Q0.out.below hb1); have s0 := Q1.out.c0; have s1 := Q1.out.c1; have s2 := Q1.out.c2; clear hb1)
        | (go_at_call 61; refine (s_l5Same a1 b1 c1 a2 b2 c2 x y _ X2.out Y2.out GX.out GY.out).mono ?_; rintro e w5 ⟨rfl, hb5⟩; have B5 := Lib.hid (bst B2.out hb5 B2.out.size); clear hb5))
      go_ret2
      exact ⟨r_bb H1.out.symm H2.out.symm, B5.out⟩
end Go.Proofs.Ytcjkkbbinieblaa
