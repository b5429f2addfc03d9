/- The project's SameReached. -/
import Derived.Test.YthanckifinfpiaaHm2
namespace Go.Proofs.Ythanckifinfpiaa.Ph
theorem sfB_same {a b : H} (ga : Ph.Good a) (gb : Ph.Good b) (hr : a.r = b.r) : sfB a b (reachL a.f a.r) a.f.length = sameP a b := by
  rw [Bool.eq_iff_iff, sameP_iff]
  unfold sfB
  rw [List.all_eq_true]
  constructor
  · intro h
    refine same_of hr fun k hk => ?_
    have hl := reach_live ga hk
    have h1 := h k (by simpa using hl.2)
    rw [reachL_getD.2 ⟨hl.2, hk⟩] at h1
    simp only [Bool.not_true, Bool.false_or, Bool.and_eq_true, decide_eq_true_eq] at h1
    exact h1.2
  · rintro ⟨_, hs⟩ k hk
    by_cases hq : (reachL a.f a.r).getD k false = true
    · have hrk := (reachL_getD.1 hq).2
      have hl := reach_live gb ((hs k).1.1 hrk)
      rw [hq]
      simp only [Bool.not_true, Bool.false_or, Bool.and_eq_true, decide_eq_true_eq]
      exact ⟨liveB_iff.2 ⟨by omega, by simpa using hl.1⟩, (hs k).2 hrk⟩
    · have : (reachL a.f a.r).getD k false = false := by simpa using hq
      rw [this]; rfl
theorem sameP_roots {a b : H} (h : ¬ a.r = b.r) : sameP a b = false := sameP_false fun k => h k.1
def both (a b : H) : Bool := good a && good b
noncomputable def sameQ (a b : H) : Bool := both a b && sameP a b
end Go.Proofs.Ythanckifinfpiaa.Ph
namespace Go.Proofs.Ythanckifinfpiaa
open Go.RowKit Ph

theorem r_bb {a a' b b' : Bool} (h : a = a') (k : b = b') : Ending.returned (.tuple #[.bool a, .bool b]) = .returned (.tuple #[.bool a', .bool b']) := by rw [h, k]
set_option maxRecDepth 100000 in
set_option maxHeartbeats 6400000 in
theorem c_SameReached (a1 b1 c1 a2 b2 c2 : Value) (x y : H) (w : World) (hA : HeapAt w a1 b1 c1 x) (hB : HeapAt w a2 b2 c2 y) :
    Calls Try.prog 21 #[hv a1 b1 c1, hv a2 b2 c2] w fun e w' => e = .returned (.tuple #[.bool (sameQ x y), .bool (both x y)]) ∧ Below w.heap.size w w' := by
  have hb0 := (below1 w (.cells (c3 a1 b1 c1) 27)).alloc (by simp) (.cells (c3 a2 b2 c2) 27)
  have A0 := Lib.hid (hA.below hb0); have B0 := Lib.hid (hB.below hb0)
  have HB := Lib.hid hb0
  have P0 := Lib.hid (show RowH _ _ a1 b1 c1 from (Row.new w 27 (c3 a1 b1 c1)).alloc (.cells (c3 a2 b2 c2) 27))
  have Q0 := Lib.hid (show RowH _ (w.heap.size + 1) a2 b2 c2 from Row.new1 w (.cells (c3 a1 b1 c1) 27) 27 (c3 a2 b2 c2))
  have GA := Lib.hid (good_iff (h := x)).1; have GB := Lib.hid (good_iff (h := y)).1
  have h2 : both x y = (good x && good y) := rfl
  have h1 : sameQ x y = ((good x && good y) && sameP x y) := rfl
  have HCA : Hid (∀ w', HeapAt w' a1 b1 c1 x → Calls Try.prog 20 #[hv a1 b1 c1] w' fun e w'' => e = .returned (.bool (good x)) ∧ Below w'.heap.size w' w'') := fun w' h => c_GoodHeap a1 b1 c1 x w' h
  have HCB : Hid (∀ w', HeapAt w' a2 b2 c2 y → Calls Try.prog 20 #[hv a2 b2 c2] w' fun e w'' => e = .returned (.bool (good y)) ∧ Below w'.heap.size w' w'') := fun w' h => c_GoodHeap a2 b2 c2 y w' h
  have p0 := P0.out.c0
  have p1 := P0.out.c1
  have p2 := P0.out.c2
  have q0 := Q0.out.c0
  have q1 := Q0.out.c1
  have q2 := Q0.out.c2
  generalize both x y = r2 at *
  generalize sameQ x y = r1 at *
  generalize good x = gx at *
  generalize good y = gy at *
  cases gx
  · have H1 : Hid (r1 = false) := by unfold Hid; rw [h1]; rfl
    have H2 : Hid (r2 = false) := by unfold Hid; rw [h2]; rfl
    clear h1 h2 hA hB
    go_enter Try.func21, Try.ntmps21
    go_wp2_with (go_at_call 20; refine (HCA.out _ A0.out).mono ?_; rintro e w1 ⟨rfl, hb1⟩; have B1 := Lib.hid (bst HB.out hb1 HB.out.size); clear hb1)
    go_ret2
    exact ⟨r_bb H1.out.symm H2.out.symm, B1.out⟩
  · cases gy
    · have H1 : Hid (r1 = false) := by unfold Hid; rw [h1]; rfl
      have H2 : Hid (r2 = false) := by unfold Hid; rw [h2]; rfl
      clear h1 h2 hA hB
      go_enter Try.func21, Try.ntmps21
      go_wp2_with (first
        | (go_at_call 20; refine (HCB.out _ Y1.out).mono ?_; rintro e w2 ⟨rfl, hb2⟩; have B2 := Lib.hid (bst B1.out hb2 B1.out.size); clear hb2)
        | (go_at_call 20; refine (HCA.out _ A0.out).mono ?_; rintro e w1 ⟨rfl, hb1⟩; have B1 := Lib.hid (bst HB.out hb1 HB.out.size); have Y1 := Lib.hid (B0.out.below hb1); have Q1 := Lib.hid (Q0.out.below hb1); have s0 := Q1.out.c0; have s1 := Q1.out.c1; have s2 := Q1.out.c2; clear hb1))
      go_ret2
      exact ⟨r_bb H1.out.symm H2.out.symm, B2.out⟩
    · have H2 : Hid (r2 = true) := by unfold Hid; rw [h2]; rfl
      have H1 : Hid (r1 = sameP x y) := by unfold Hid; rw [h1]; rfl
      have GX := Lib.hid (GA.out rfl); have GY := Lib.hid (GB.out rfl)
      obtain ⟨fa, fc, rfl⟩ := hA.f.shape
      obtain ⟨la, lc, rfl⟩ := hA.l.shape
      obtain ⟨ra, rc, rfl⟩ := hA.r.shape
      obtain ⟨ga, gc, rfl⟩ := hB.f.shape
      obtain ⟨ma, mc, rfl⟩ := hB.l.shape
      obtain ⟨sa, sc, rfl⟩ := hB.r.shape
      clear h1 h2 hA hB
      go_enter Try.func21, Try.ntmps21
      go_wp2_with (first
        | (go_at_call 20; refine (HCB.out _ Y1.out).mono ?_; rintro e w2 ⟨rfl, hb2⟩; have B2 := Lib.hid (bst B1.out hb2 B1.out.size); have X2 := Lib.hid (X1.out.below hb2); have Y2 := Lib.hid (Y1.out.below hb2); have P2 := Lib.hid (P1.out.below hb2); have Q2 := Lib.hid (Q1.out.below hb2); clear hb2)
        | (go_at_call 20; refine (HCA.out _ A0.out).mono ?_; rintro e w1 ⟨rfl, hb1⟩; have B1 := Lib.hid (bst HB.out hb1 HB.out.size); have X1 := Lib.hid (A0.out.below hb1); have Y1 := Lib.hid (B0.out.below hb1); have P1 := Lib.hid (P0.out.below hb1); have Q1 := Lib.hid (Q0.out.below hb1); have s0 := Q1.out.c0; have s1 := Q1.out.c1; have s2 := Q1.out.c2; clear hb1))
      clear p0 p1 p2 q0 q1 q2 s0 s1 s2
      have BD := below_drew (Below.refl w2.heap.size w2)
      have c0 : w2.drew.cell? ⟨w.heap.size, 0, none⟩ = some (.slice fa x.f.length fc) := P2.out.c0
      have c1 : w2.drew.cell? ⟨w.heap.size, 1, none⟩ = some (.slice la x.l.length lc) := P2.out.c1
      have c2 : w2.drew.cell? ⟨w.heap.size, 2, none⟩ = some (.slice ra x.r.length rc) := P2.out.c2
      have d0 : w2.drew.cell? ⟨w.heap.size + 1, 0, none⟩ = some (.slice ga y.f.length gc) := Q2.out.c0
      have d1 : w2.drew.cell? ⟨w.heap.size + 1, 1, none⟩ = some (.slice ma y.l.length mc) := Q2.out.c1
      have d2 : w2.drew.cell? ⟨w.heap.size + 1, 2, none⟩ = some (.slice sa y.r.length sc) := Q2.out.c2
      have HEQ : Hid (∀ w', Below w2.heap.size w2 w' → Calls Try.prog 81 #[.slice ra x.r.length rc, .slice sa y.r.length sc] w' fun e w'' => e = .returned (.bool (decide (x.r = y.r))) ∧ ∃ n, w'' = w'.drewN n) := fun w' hb => c_slEqual _ _ _ _ w' (X2.out.r.below hb) (Y2.out.r.below hb) (by have := GX.out.rn; omega)
      have HSF : Hid (x.r = y.r → sfB x y (reachL x.f x.r) x.f.length = sameP x y) := sfB_same GX.out GY.out
      have HSN : Hid (¬ x.r = y.r → sameP x y = false) := sameP_roots
      by_cases hxy : x.r = y.r
      · have hd : decide (x.r = y.r) = true := decide_eq_true hxy
        have HSP := Lib.hid (HSF.out hxy)
        rw [hd] at HEQ
        clear hd hxy
        refine wp_region_held_drew (S := (fun w' => w'.cell? ⟨w.heap.size, 0, none⟩ = some (.slice fa x.f.length fc) ∧ w'.cell? ⟨w.heap.size, 1, none⟩ = some (.slice la x.l.length lc) ∧ w'.cell? ⟨w.heap.size, 2, none⟩ = some (.slice ra x.r.length rc) ∧ w'.cell? ⟨w.heap.size + 1, 0, none⟩ = some (.slice ga y.f.length gc) ∧ w'.cell? ⟨w.heap.size + 1, 1, none⟩ = some (.slice ma y.l.length mc) ∧ w'.cell? ⟨w.heap.size + 1, 2, none⟩ = some (.slice sa y.r.length sc) ∧ Below w2.heap.size w2 w')) (by kernel_rfl) (⟨c0, c1, c2, d0, d1, d2, BD⟩) (fun hHeld => ?_)
        refine wpAnyH_take (i := 0) (v := ?va0x9) rfl (by kernel_rfl) (by kernel_rfl) (by kernel_rfl) (fun _ _ _ h => h) (Or.inl ⟨by rfl, ?hy0x9⟩) (by assumption) ?rest0x9
        case hy0x9 => (intro w hSw; (try dsimp only at hSw); go_simp; try with_reducible rfl)
        (try simp only [Act.put, List.getElem_toArray, List.getElem_cons_zero, List.setIfInBounds_toArray, List.set_cons_zero, List.set_cons_succ])
        refine wpAnyH_take (i := 1) (v := ?va1x10) rfl (by kernel_rfl) (by kernel_rfl) (by kernel_rfl) (fun _ _ _ h => h) (Or.inl ⟨by rfl, ?hy1x10⟩) (by assumption) ?rest1x10
        case hy1x10 => (intro w hSw; (try dsimp only at hSw); go_simp; try with_reducible rfl)
        (try simp only [Act.put, List.getElem_toArray, List.getElem_cons_zero, List.getElem_cons_succ, List.setIfInBounds_toArray, List.set_cons_zero, List.set_cons_succ])
        refine wpAnyH_take (i := 2) (v := ?va2x11) rfl (by kernel_rfl) (by kernel_rfl) (by kernel_rfl) (fun _ _ _ h => h) (Or.inl ⟨by rfl, ?hy2x11⟩) (by assumption) ?rest2x11
        case hy2x11 => (intro w hSw; (try dsimp only at hSw); go_simp; try with_reducible rfl)
        (try simp only [Act.put, List.getElem_toArray, List.getElem_cons_zero, List.getElem_cons_succ, List.setIfInBounds_toArray, List.set_cons_zero, List.set_cons_succ])
        refine wpAnyH_take (i := 3) (v := ?va3x12) rfl (by kernel_rfl) (by kernel_rfl) (by kernel_rfl) (fun _ _ _ h => h) (Or.inl ⟨by rfl, ?hy3x12⟩) (by assumption) ?rest3x12
        case hy3x12 => (intro w hSw; (try dsimp only at hSw); go_simp; try with_reducible rfl)
        (try simp only [Act.put, List.getElem_toArray, List.getElem_cons_zero, List.getElem_cons_succ, List.setIfInBounds_toArray, List.set_cons_zero, List.set_cons_succ])
        refine wpAnyH_ready (rs := [4]) (by kernel_rfl) (by simp) ?_
        refine AllReadyH.cons rfl (fun K hK => ?_) AllReadyH.nil
        go_simp
        refine (HEQ.out _ BD).mono ?_
        rintro e w3 ⟨rfl, nd, rfl⟩
        have hbx := below_drewN BD nd
        replace c0 : (w2.drew.drewN nd).cell? ⟨w.heap.size, 0, none⟩ = some (.slice fa x.f.length fc) := c0
        replace c1 : (w2.drew.drewN nd).cell? ⟨w.heap.size, 1, none⟩ = some (.slice la x.l.length lc) := c1
        replace c2 : (w2.drew.drewN nd).cell? ⟨w.heap.size, 2, none⟩ = some (.slice ra x.r.length rc) := c2
        replace d0 : (w2.drew.drewN nd).cell? ⟨w.heap.size + 1, 0, none⟩ = some (.slice ga y.f.length gc) := d0
        replace d1 : (w2.drew.drewN nd).cell? ⟨w.heap.size + 1, 1, none⟩ = some (.slice ma y.l.length mc) := d1
        replace d2 : (w2.drew.drewN nd).cell? ⟨w.heap.size + 1, 2, none⟩ = some (.slice sa y.r.length sc) := d2
        refine hK.out _ _ ⟨c0, c1, c2, d0, d1, d2, hbx⟩ (fun hHeld => ?_)
        clear hK K
        (try simp only [Act.put, List.getElem_toArray, List.getElem_cons_zero, List.getElem_cons_succ, List.setIfInBounds_toArray, List.set_cons_zero, List.set_cons_succ])
        generalize w2.drew.drewN nd = w3 at *
        refine wpAnyH_take (i := 5) (v := ?va5x13) rfl (by kernel_rfl) (by kernel_rfl) (by kernel_rfl) (fun _ _ _ h => h) (Or.inl ⟨by rfl, ?hy5x13⟩) (by assumption) ?rest5x13
        case hy5x13 => (intro w hSw; (try dsimp only at hSw); go_simp; try with_reducible rfl)
        (try simp only [Act.put, List.getElem_toArray, List.getElem_cons_zero, List.getElem_cons_succ, List.setIfInBounds_toArray, List.set_cons_zero, List.set_cons_succ])
        refine wpAnyH_take (i := 6) (v := ?va6x14) rfl (by kernel_rfl) (by kernel_rfl) (by kernel_rfl) (fun _ _ _ h => h) (Or.inl ⟨by rfl, ?hy6x14⟩) (by assumption) ?rest6x14
        case hy6x14 => (intro w hSw; (try dsimp only at hSw); go_simp; try with_reducible rfl)
        (try simp only [Act.put, List.getElem_toArray, List.getElem_cons_zero, List.getElem_cons_succ, List.setIfInBounds_toArray, List.set_cons_zero, List.set_cons_succ])
        refine wpAnyH_take (i := 7) (v := ?va7x15) rfl (by kernel_rfl) (by kernel_rfl) (by kernel_rfl) (fun _ _ _ h => h) (Or.inl ⟨by rfl, ?hy7x15⟩) (by assumption) ?rest7x15
        case hy7x15 => (intro w hSw; (try dsimp only at hSw); go_simp; try with_reducible rfl)
        (try simp only [Act.put, List.getElem_toArray, List.getElem_cons_zero, List.getElem_cons_succ, List.setIfInBounds_toArray, List.set_cons_zero, List.set_cons_succ])
        refine wpAnyH_take (i := 8) (v := ?va8x16) rfl (by kernel_rfl) (by kernel_rfl) (by kernel_rfl) (fun _ _ _ h => h) (Or.inl ⟨by rfl, ?hy8x16⟩) (by assumption) ?rest8x16
        case hy8x16 => (intro w hSw; (try dsimp only at hSw); go_simp; try with_reducible rfl)
        (try simp only [Act.put, List.getElem_toArray, List.getElem_cons_zero, List.getElem_cons_succ, List.setIfInBounds_toArray, List.set_cons_zero, List.set_cons_succ])
        refine wpAnyH_take (i := 9) (v := ?va9x17) rfl (by kernel_rfl) (by kernel_rfl) (by kernel_rfl) (fun _ _ _ h => h) (Or.inl ⟨by rfl, ?hy9x17⟩) (by assumption) ?rest9x17
        case hy9x17 => (intro w hSw; (try dsimp only at hSw); go_simp; try with_reducible rfl)
        (try simp only [Act.put, List.getElem_toArray, List.getElem_cons_zero, List.getElem_cons_succ, List.setIfInBounds_toArray, List.set_cons_zero, List.set_cons_succ])
        refine wpAnyH_take (i := 10) (v := ?va10x18) rfl (by kernel_rfl) (by kernel_rfl) (by kernel_rfl) (fun _ _ _ h => h) (Or.inl ⟨by rfl, ?hy10x18⟩) (by assumption) ?rest10x18
        case hy10x18 => (intro w hSw; (try dsimp only at hSw); go_simp; try with_reducible rfl)
        (try simp only [Act.put, List.getElem_toArray, List.getElem_cons_zero, List.getElem_cons_succ, List.setIfInBounds_toArray, List.set_cons_zero, List.set_cons_succ])
        refine wpAnyH_ready (rs := [11]) (by kernel_rfl) (by simp) ?_
        refine AllReadyH.cons rfl (fun K hK => ?_) AllReadyH.nil
        go_simp
        refine (c_reachedOver _ _ _ _ x x.r _ (X2.out.below hbx) GX.out (X2.out.r.below hbx) (by have := GX.out.rn; omega) (fun z hz => (refs_bound GX.out GX.out.rr z hz).imp id (fun h => ⟨h.1, h.2.1⟩))).mono ?_
        rintro e w4 ⟨kv, rfl, hok, hb4⟩
        replace hbx := bst hbx hb4 hbx.size
        replace c0 := cellBelow hb4 (Nat.le_refl _) c0
        replace c1 := cellBelow hb4 (Nat.le_refl _) c1
        replace c2 := cellBelow hb4 (Nat.le_refl _) c2
        replace d0 := cellBelow hb4 (Nat.le_refl _) d0
        replace d1 := cellBelow hb4 (Nat.le_refl _) d1
        replace d2 := cellBelow hb4 (Nat.le_refl _) d2
        obtain ⟨pk, qk, hpk⟩ := (owns_bools hok).shape
        subst hpk
        have KB := Lib.hid (owns_bools hok)
        clear hok hb4
        refine hK.out _ _ ⟨c0, c1, c2, d0, d1, d2, hbx⟩ (fun hHeld => ?_)
        clear hK K
        (try simp only [Act.put, List.getElem_toArray, List.getElem_cons_zero, List.getElem_cons_succ, List.setIfInBounds_toArray, List.set_cons_zero, List.set_cons_succ])
        refine wpAnyH_ready (rs := [12]) (by kernel_rfl) (by simp) ?_
        refine AllReadyH.cons rfl (fun K hK => ?_) AllReadyH.nil
        go_simp
        refine (c_sameFields _ _ _ _ _ _ _ x y (reachL x.f x.r) _ (X2.out.below hbx) (Y2.out.below hbx) KB.out GX.out GY.out (reachL_length _ _)).mono ?_
        rintro e w5 ⟨rfl, hb5⟩
        replace hbx := bst hbx hb5 hbx.size
        replace c0 := cellBelow hb5 (Nat.le_refl _) c0
        replace c1 := cellBelow hb5 (Nat.le_refl _) c1
        replace c2 := cellBelow hb5 (Nat.le_refl _) c2
        replace d0 := cellBelow hb5 (Nat.le_refl _) d0
        replace d1 := cellBelow hb5 (Nat.le_refl _) d1
        replace d2 := cellBelow hb5 (Nat.le_refl _) d2
        refine hK.out _ _ ⟨c0, c1, c2, d0, d1, d2, hbx⟩ (fun hHeld => ?_)
        clear hK K hb5
        (try simp only [Act.put, List.getElem_toArray, List.getElem_cons_zero, List.getElem_cons_succ, List.setIfInBounds_toArray, List.set_cons_zero, List.set_cons_succ])
        refine wpAnyH_take (i := 13) (v := ?va13x19) rfl (by kernel_rfl) (by kernel_rfl) (by kernel_rfl) (fun _ _ _ h => h) (Or.inl ⟨by rfl, ?hy13x19⟩) (by assumption) ?rest13x19
        case hy13x19 => (intro w hSw; (try dsimp only at hSw); go_simp; try with_reducible rfl)
        (try simp only [Act.put, List.getElem_toArray, List.getElem_cons_zero, List.getElem_cons_succ, List.setIfInBounds_toArray, List.set_cons_zero, List.set_cons_succ])
        refine wpAnyH_take (i := 14) (v := ?va14x20) rfl (by kernel_rfl) (by kernel_rfl) (by kernel_rfl) (fun _ _ _ h => h) (Or.inl ⟨by rfl, ?hy14x20⟩) (by assumption) ?rest14x20
        case hy14x20 => (intro w hSw; (try dsimp only at hSw); go_simp; try with_reducible rfl)
        (try simp only [Act.put, List.getElem_toArray, List.getElem_cons_zero, List.getElem_cons_succ, List.setIfInBounds_toArray, List.set_cons_zero, List.set_cons_succ])
        refine wpAnyH_take (i := 15) (v := ?va15x21) rfl (by kernel_rfl) (by kernel_rfl) (by kernel_rfl) (fun _ _ _ h => h) (Or.inl ⟨by rfl, ?hy15x21⟩) (by assumption) ?rest15x21
        case hy15x21 => (intro w hSw; (try dsimp only at hSw); go_simp; try with_reducible rfl)
        (try simp only [Act.put, List.getElem_toArray, List.getElem_cons_zero, List.getElem_cons_succ, List.setIfInBounds_toArray, List.set_cons_zero, List.set_cons_succ])
        refine wpAnyH_done (by kernel_rfl) ?_ _
        go_wp2_with fail
        go_ret2
        exact ⟨r_bb (HSP.out.trans H1.out.symm) H2.out.symm, bst B2.out hbx B2.out.size⟩
      · have hd : decide (x.r = y.r) = false := decide_eq_false hxy
        have HSP := Lib.hid (HSN.out hxy)
        rw [hd] at HEQ
        clear hd hxy
        refine wp_region_held_drew (S := (fun w' => w'.cell? ⟨w.heap.size, 0, none⟩ = some (.slice fa x.f.length fc) ∧ w'.cell? ⟨w.heap.size, 1, none⟩ = some (.slice la x.l.length lc) ∧ w'.cell? ⟨w.heap.size, 2, none⟩ = some (.slice ra x.r.length rc) ∧ w'.cell? ⟨w.heap.size + 1, 0, none⟩ = some (.slice ga y.f.length gc) ∧ w'.cell? ⟨w.heap.size + 1, 1, none⟩ = some (.slice ma y.l.length mc) ∧ w'.cell? ⟨w.heap.size + 1, 2, none⟩ = some (.slice sa y.r.length sc) ∧ Below w2.heap.size w2 w')) (by kernel_rfl) (⟨c0, c1, c2, d0, d1, d2, BD⟩) (fun hHeld => ?_)
        refine wpAnyH_take (i := 0) (v := ?va0x1) rfl (by kernel_rfl) (by kernel_rfl) (by kernel_rfl) (fun _ _ _ h => h) (Or.inl ⟨by rfl, ?hy0x1⟩) (by assumption) ?rest0x1
        case hy0x1 => (intro w hSw; (try dsimp only at hSw); go_simp; try with_reducible rfl)
        (try simp only [Act.put, List.getElem_toArray, List.getElem_cons_zero, List.setIfInBounds_toArray, List.set_cons_zero, List.set_cons_succ])
        refine wpAnyH_take (i := 1) (v := ?va1x2) rfl (by kernel_rfl) (by kernel_rfl) (by kernel_rfl) (fun _ _ _ h => h) (Or.inl ⟨by rfl, ?hy1x2⟩) (by assumption) ?rest1x2
        case hy1x2 => (intro w hSw; (try dsimp only at hSw); go_simp; try with_reducible rfl)
        (try simp only [Act.put, List.getElem_toArray, List.getElem_cons_zero, List.getElem_cons_succ, List.setIfInBounds_toArray, List.set_cons_zero, List.set_cons_succ])
        refine wpAnyH_take (i := 2) (v := ?va2x3) rfl (by kernel_rfl) (by kernel_rfl) (by kernel_rfl) (fun _ _ _ h => h) (Or.inl ⟨by rfl, ?hy2x3⟩) (by assumption) ?rest2x3
        case hy2x3 => (intro w hSw; (try dsimp only at hSw); go_simp; try with_reducible rfl)
        (try simp only [Act.put, List.getElem_toArray, List.getElem_cons_zero, List.getElem_cons_succ, List.setIfInBounds_toArray, List.set_cons_zero, List.set_cons_succ])
        refine wpAnyH_take (i := 3) (v := ?va3x4) rfl (by kernel_rfl) (by kernel_rfl) (by kernel_rfl) (fun _ _ _ h => h) (Or.inl ⟨by rfl, ?hy3x4⟩) (by assumption) ?rest3x4
        case hy3x4 => (intro w hSw; (try dsimp only at hSw); go_simp; try with_reducible rfl)
        (try simp only [Act.put, List.getElem_toArray, List.getElem_cons_zero, List.getElem_cons_succ, List.setIfInBounds_toArray, List.set_cons_zero, List.set_cons_succ])
        refine wpAnyH_ready (rs := [4]) (by kernel_rfl) (by simp) ?_
        refine AllReadyH.cons rfl (fun K hK => ?_) AllReadyH.nil
        go_simp
        refine (HEQ.out _ BD).mono ?_
        rintro e w3 ⟨rfl, nd, rfl⟩
        have hbx := below_drewN BD nd
        replace c0 : (w2.drew.drewN nd).cell? ⟨w.heap.size, 0, none⟩ = some (.slice fa x.f.length fc) := c0
        replace c1 : (w2.drew.drewN nd).cell? ⟨w.heap.size, 1, none⟩ = some (.slice la x.l.length lc) := c1
        replace c2 : (w2.drew.drewN nd).cell? ⟨w.heap.size, 2, none⟩ = some (.slice ra x.r.length rc) := c2
        replace d0 : (w2.drew.drewN nd).cell? ⟨w.heap.size + 1, 0, none⟩ = some (.slice ga y.f.length gc) := d0
        replace d1 : (w2.drew.drewN nd).cell? ⟨w.heap.size + 1, 1, none⟩ = some (.slice ma y.l.length mc) := d1
        replace d2 : (w2.drew.drewN nd).cell? ⟨w.heap.size + 1, 2, none⟩ = some (.slice sa y.r.length sc) := d2
        refine hK.out _ _ ⟨c0, c1, c2, d0, d1, d2, hbx⟩ (fun hHeld => ?_)
        clear hK K
        (try simp only [Act.put, List.getElem_toArray, List.getElem_cons_zero, List.getElem_cons_succ, List.setIfInBounds_toArray, List.set_cons_zero, List.set_cons_succ])
        generalize w2.drew.drewN nd = w3 at *
        refine wpAnyH_take (i := 5) (v := ?va5x5) rfl (by kernel_rfl) (by kernel_rfl) (by kernel_rfl) (fun _ _ _ h => h) (Or.inl ⟨by rfl, ?hy5x5⟩) (by assumption) ?rest5x5
        case hy5x5 => (intro w hSw; (try dsimp only at hSw); go_simp; try with_reducible rfl)
        (try simp only [Act.put, List.getElem_toArray, List.getElem_cons_zero, List.getElem_cons_succ, List.setIfInBounds_toArray, List.set_cons_zero, List.set_cons_succ])
        refine wpAnyH_take (i := 6) (v := undef) rfl (by kernel_rfl) (by kernel_rfl) (by kernel_rfl) (fun _ _ _ h => h) (Or.inr ⟨by rfl, rfl⟩) (by assumption) ?_
        (try simp only [Act.put, List.getElem_toArray, List.getElem_cons_zero, List.getElem_cons_succ, List.setIfInBounds_toArray, List.set_cons_zero, List.set_cons_succ])
        refine wpAnyH_take (i := 7) (v := undef) rfl (by kernel_rfl) (by kernel_rfl) (by kernel_rfl) (fun _ _ _ h => h) (Or.inr ⟨by rfl, rfl⟩) (by assumption) ?_
        (try simp only [Act.put, List.getElem_toArray, List.getElem_cons_zero, List.getElem_cons_succ, List.setIfInBounds_toArray, List.set_cons_zero, List.set_cons_succ])
        refine wpAnyH_take (i := 8) (v := undef) rfl (by kernel_rfl) (by kernel_rfl) (by kernel_rfl) (fun _ _ _ h => h) (Or.inr ⟨by rfl, rfl⟩) (by assumption) ?_
        (try simp only [Act.put, List.getElem_toArray, List.getElem_cons_zero, List.getElem_cons_succ, List.setIfInBounds_toArray, List.set_cons_zero, List.set_cons_succ])
        refine wpAnyH_take (i := 9) (v := undef) rfl (by kernel_rfl) (by kernel_rfl) (by kernel_rfl) (fun _ _ _ h => h) (Or.inr ⟨by rfl, rfl⟩) (by assumption) ?_
        (try simp only [Act.put, List.getElem_toArray, List.getElem_cons_zero, List.getElem_cons_succ, List.setIfInBounds_toArray, List.set_cons_zero, List.set_cons_succ])
        refine wpAnyH_take (i := 10) (v := undef) rfl (by kernel_rfl) (by kernel_rfl) (by kernel_rfl) (fun _ _ _ h => h) (Or.inr ⟨by rfl, rfl⟩) (by assumption) ?_
        (try simp only [Act.put, List.getElem_toArray, List.getElem_cons_zero, List.getElem_cons_succ, List.setIfInBounds_toArray, List.set_cons_zero, List.set_cons_succ])
        refine wpAnyH_take (i := 11) (v := undef) rfl (by kernel_rfl) (by kernel_rfl) (by kernel_rfl) (fun _ _ _ h => h) (Or.inr ⟨by rfl, rfl⟩) (by assumption) ?_
        (try simp only [Act.put, List.getElem_toArray, List.getElem_cons_zero, List.getElem_cons_succ, List.setIfInBounds_toArray, List.set_cons_zero, List.set_cons_succ])
        refine wpAnyH_take (i := 12) (v := undef) rfl (by kernel_rfl) (by kernel_rfl) (by kernel_rfl) (fun _ _ _ h => h) (Or.inr ⟨by rfl, rfl⟩) (by assumption) ?_
        (try simp only [Act.put, List.getElem_toArray, List.getElem_cons_zero, List.getElem_cons_succ, List.setIfInBounds_toArray, List.set_cons_zero, List.set_cons_succ])
        refine wpAnyH_take (i := 13) (v := ?va13x6) rfl (by kernel_rfl) (by kernel_rfl) (by kernel_rfl) (fun _ _ _ h => h) (Or.inl ⟨by rfl, ?hy13x6⟩) (by assumption) ?rest13x6
        case hy13x6 => (intro w hSw; (try dsimp only at hSw); go_simp; try with_reducible rfl)
        (try simp only [Act.put, List.getElem_toArray, List.getElem_cons_zero, List.getElem_cons_succ, List.setIfInBounds_toArray, List.set_cons_zero, List.set_cons_succ])
        refine wpAnyH_take (i := 14) (v := ?va14x7) rfl (by kernel_rfl) (by kernel_rfl) (by kernel_rfl) (fun _ _ _ h => h) (Or.inl ⟨by rfl, ?hy14x7⟩) (by assumption) ?rest14x7
        case hy14x7 => (intro w hSw; (try dsimp only at hSw); go_simp; try with_reducible rfl)
        (try simp only [Act.put, List.getElem_toArray, List.getElem_cons_zero, List.getElem_cons_succ, List.setIfInBounds_toArray, List.set_cons_zero, List.set_cons_succ])
        refine wpAnyH_take (i := 15) (v := ?va15x8) rfl (by kernel_rfl) (by kernel_rfl) (by kernel_rfl) (fun _ _ _ h => h) (Or.inl ⟨by rfl, ?hy15x8⟩) (by assumption) ?rest15x8
        case hy15x8 => (intro w hSw; (try dsimp only at hSw); go_simp; try with_reducible rfl)
        (try simp only [Act.put, List.getElem_toArray, List.getElem_cons_zero, List.getElem_cons_succ, List.setIfInBounds_toArray, List.set_cons_zero, List.set_cons_succ])
        refine wpAnyH_done (by kernel_rfl) ?_ _
        go_wp2_with fail
        go_ret2
        exact ⟨r_bb (HSP.out.symm.trans H1.out.symm) H2.out.symm, bst B2.out hbx B2.out.size⟩
end Go.Proofs.Ythanckifinfpiaa
