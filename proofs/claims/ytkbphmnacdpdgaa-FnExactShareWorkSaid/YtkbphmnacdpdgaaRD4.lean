/- What the laws rest on, part 4. -/
import Derived.Test.YtkbphmnacdpdgaaRD3
import Derived.Deep.Cut
namespace Go.Proofs.Ytkbphmnacdpdgaa
open Go.RowKit Ph Kw
set_option maxRecDepth 100000 in
set_option maxHeartbeats 12800000 in
theorem s_step_pop (a c : Value) (W : Wk) (j : Nat) (w : World) (lo hi : Nat) (hO : OwnW w lo hi a c W) (hs : Sm W) (hh : hi ≤ w.heap.size) (hj : j < 3) (hm : 0 < (row W j).length) : Calls Try.prog 55 #[wkv a W.n c, stv 2 (j : Int) 0] w (EndS a W (2, (j : Int), 0) lo hi w) := by
  obtain ⟨i0, hinf, hz0, hz1, hz2⟩ := info_parts info_int
  have hwj : isW (j : Int) = true := isW_iff.2 ⟨by omega, by omega⟩
  have HEN : Hid (en W (2, (j : Int), 0) = true) := by
    unfold Hid; rw [en_pop (W := W) (s := (2, (j : Int), 0)) hwj rfl rfl]
    show decide (0 < (row W (j : Int).toNat).length) = true
    rw [show (j : Int).toNat = j by omega, decide_eq_true hm]
  have HACT : Hid (act W (2, (j : Int), 0) = pop W j) := by
    unfold Hid act; rw [if_neg (show ¬ (2 : Int) = 1 by decide), if_pos rfl]; show pop W (j : Int).toNat = _; rw [show (j : Int).toNat = j by omega]
  have hl3 := hs.len
  obtain ⟨us, hF0⟩ := hO
  obtain ⟨ga, qa, rfl⟩ : ∃ g q, a = .slice (some ⟨g, 0, none⟩) 3 q := by
    rcases hF0.shape with ⟨_, h2⟩ | ⟨g, q, h2⟩
    · have h2 : W.r = [] := h2
      rw [h2] at hl3; simp at hl3
    · have h2 : a = .slice (some ⟨g, 0, none⟩) W.r.length q := h2
      rw [hl3] at h2; exact ⟨g, q, h2⟩
  obtain ⟨pc, qc, hpc⟩ := (FamH.roots hF0).ints.shape
  have hpc : c = .slice pc W.d.length qc := hpc
  have hdl := (sm_len hs).2
  have hr12 := hs.rows
  have hn100 := hs.n1
  have hn0 := hs.n0
  generalize hnd : W.d.length = nd at *
  subst hpc
  have hb0 := ((below1 w (.cells (w3 (.slice (some ⟨ga, 0, none⟩) 3 qa) W.n (.slice pc nd qc)) 28)).alloc (by simp) (.cells (s3c 2 (j : Int) 0) 44)).alloc (by simp; omega) (.cells (w3 nilV 0 nilV) 28)
  have RW0 := Lib.hid (show RowW (((w.alloc (.cells (w3 (.slice (some ⟨ga, 0, none⟩) 3 qa) W.n (.slice pc nd qc)) 28)).alloc (.cells (s3c 2 (j : Int) 0) 44)).alloc (.cells (w3 nilV 0 nilV) 28)) w.heap.size (.slice (some ⟨ga, 0, none⟩) 3 qa) W.n (.slice pc nd qc) from Row.alloc (Row.alloc (Row.new w 28 _) _) _)
  have RS0 := Lib.hid (show Row (((w.alloc (.cells (w3 (.slice (some ⟨ga, 0, none⟩) 3 qa) W.n (.slice pc nd qc)) 28)).alloc (.cells (s3c 2 (j : Int) 0) 44)).alloc (.cells (w3 nilV 0 nilV) 28)) (w.heap.size + 1) 44 (s3c 2 (j : Int) 0) from Row.alloc (Row.new1 w _ 44 (s3c 2 (j : Int) 0)) _)
  have RR0 := Lib.hid (show RowW (((w.alloc (.cells (w3 (.slice (some ⟨ga, 0, none⟩) 3 qa) W.n (.slice pc nd qc)) 28)).alloc (.cells (s3c 2 (j : Int) 0) 44)).alloc (.cells (w3 nilV 0 nilV) 28)) (w.heap.size + 1 + 1) nilV 0 nilV from Row.new2 w _ _ 28 (w3 nilV 0 nilV))
  have HB := Lib.hid hb0
  have HF : Hid (FamH (((w.alloc (.cells (w3 (.slice (some ⟨ga, 0, none⟩) 3 qa) W.n (.slice pc nd qc)) 28)).alloc (.cells (s3c 2 (j : Int) 0) 44)).alloc (.cells (w3 nilV 0 nilV) 28)) lo hi (.slice (some ⟨ga, 0, none⟩) 3 qa) nilV (.slice pc nd qc) us (wh W)) := Fam.below hF0 hb0
  have HH := Lib.hid hh; have HL3 := Lib.hid hl3; have HND := Lib.hid hnd; have HDL := Lib.hid hdl; have HR12 := Lib.hid hr12
  have HN := Lib.hid (And.intro hn0 hn100)
  have HOW := Lib.hid (show OwnW w lo hi (.slice (some ⟨ga, 0, none⟩) 3 qa) (.slice pc nd qc) W from ⟨us, hF0⟩)
  have hcell := fun i (h : i < 3) => (HF.out.cell (g := ga) (cap := qa) (i := i) (by show _ = Value.slice _ W.r.length _; rw [hl3]) (by show i < W.r.length; omega)).1
  have HCE := Lib.hid hcell
  have q0 := RowW.c0 RW0.out
  have q1 := RowW.c1 RW0.out
  have q2 := RowW.c2 RW0.out
  have s0 := Row.cell RS0.out 0
  have s1 := Row.cell RS0.out 1
  have s2 := Row.cell RS0.out 2
  clear hb0 hF0 hh hl3 hnd hdl hr12 hcell hn100 hn0
  have HJ := Lib.hid hwj
  have HJ2 : Hid True := trivial
  have HJJ := Lib.hid hj
  have hjf : j < (wh W).f.length := by show j < W.r.length; rw [HL3.out]; exact hj
  have HJF := Lib.hid hjf
  have HGA := Lib.hid (FamH.outBlk HF.out rfl)
  have HDB := Lib.hid (fun g hg => FamH.donBlk (g := g) HF.out hg)
  have hjc := HCE.out j hj
  obtain ⟨gj, cj, hpj⟩ : ∃ g q, us j = .slice (some ⟨g, 0, none⟩) (row W j).length q := ownOne (show Own _ lo (us j) (row W j) from FamH.row HF.out hjf) hm
  have hcap : (row W j).length ≤ cj := by have := (show Own _ lo (us j) (row W j) from FamH.row HF.out hjf).intsC; rw [hpj] at this; exact this.2 _ _ _ rfl
  rw [hpj] at hjc
  have HPJ := Lib.hid hpj
  have HM := Lib.hid (HR12.out j hj)
  have i1 : (j : Int) < 3 := by omega
  have e2 : ((1 : Int) == 0) = false := rfl
  obtain ⟨m, hmm⟩ : ∃ m, (row W j).length = m + 1 := ⟨(row W j).length - 1, by omega⟩
  clear hwj hj hjf hpj hm
  rw [hmm] at hjc HPJ HM hcap
  have HMM := Lib.hid hmm; clear hmm
  have h3 : ((m + 1 : Nat) : Int) > 0 := by omega
  have k1 : (((m + 1 : Nat) : Int) - 1) = (m : Int) := by omega
  have k2 : IntKind.i64.wrap (((m + 1 : Nat) : Int) - 1) = (m : Int) := by rw [k1]; exact IntWalk.i64_in (m : Int) (by have := HM.out; omega)
  have k3 : (0 : Int) ≤ (m : Int) := by omega
  have k4 : (m : Int) < ((m + 1 : Nat) : Int) := by omega
  have k5 : m ≤ cj := by omega
  have k6 : IntKind.i64.wrap (m : Int) = (m : Int) := IntWalk.i64_in (m : Int) (by have := HM.out; omega)
  have k7 : (m : Int) < (m : Int) + 1 := by omega
  have k8 : (m : Int) ≤ (cj : Int) := by omega
  have HZ : Hid ((row W j).getD m 0 = (row W j).getD m 0) := rfl
  generalize hzz : (row W j).getD m 0 = z at HZ
  replace HZ := Lib.hid hzz
  clear hzz hcap
  have HZ0 : Hid (w.heap.size + 3 ≤ (((w.alloc (.cells (w3 (.slice (some ⟨ga, 0, none⟩) 3 qa) W.n (.slice pc nd qc)) 28)).alloc (.cells (s3c 2 (j : Int) 0) 44)).alloc (.cells (w3 nilV 0 nilV) 28)).heap.size) := by unfold Hid; simp
  go_enter Try.func55, Try.ntmps55
  go_upto_region 5 with (go_at_call 85; refine (s_l10Who _ _).mono ?_; rintro e w1 ⟨rfl, rfl⟩; first | rw [HJ.out] | rw [HJ2.out])
  generalize (((w.alloc (.cells (w3 (.slice (some ⟨ga, 0, none⟩) 3 qa) W.n (.slice pc nd qc)) 28)).alloc (.cells (s3c 2 (j : Int) 0) 44)).alloc (.cells (w3 nilV 0 nilV) 28)) = wa at *
  go_upto_region 9 with fail
  have CH0 := Lib.hid (Chg.of_below (lo := lo) (hi := hi) HB.out)
  have KP0 := Lib.hid (KeepW.of_below HB.out)
  have F0 := HF
  have Z0 := HZ0
  clear q0 q1 q2 s0 s1 s2 hjc HB HF HCE HOW HZ0
  have hbd := below_drew (Below.refl wa.heap.size wa)
  have RW3 := Lib.hid (RowW.below RW0.out hbd)
  have RS3 := Lib.hid (Row.below RS0.out hbd)
  have RR3 := Lib.hid (RowW.below RR0.out hbd)
  have CH3 := Lib.hid (CH0.out.then hbd)
  have KP3 := Lib.hid (KP0.out.below hbd)
  have Z3 : Hid (w.heap.size + 3 ≤ (wa.drew).heap.size) := Nat.le_trans Z0.out hbd.size
  have F3 : Hid (FamH wa.drew lo hi (.slice (some ⟨ga, 0, none⟩) 3 qa) nilV (.slice pc nd qc) us (wh W)) := Fam.below F0.out hbd
  clear RW0 RS0 RR0 CH0 KP0 Z0 F0 hbd
  have qe : wa.drew.cell? ⟨gj, m, none⟩ = some (.int .i64 z) := (by have h : Own _ lo (us j) (row W j) := FamH.row F3.out HJF.out; rw [HPJ.out] at h; have h2 := ownCell h HMM.out (Nat.lt_succ_self m); rw [HZ.out] at h2; exact h2)
  refine wp_region_held_drew (S := (fun w' => w'.cell? ⟨gj, m, none⟩ = some (.int .i64 z))) (by kernel_rfl) (qe) (fun hHeld => ?_)
  generalize wa.drew = x0 at *
  refine wpAnyH_take (i := 0) (v := ?va0x9) rfl (by kernel_rfl) (by kernel_rfl) (by kernel_rfl) (fun _ _ _ h => h) (Or.inl ⟨by rfl, ?hy0x9⟩) (by assumption) ?rest0x9
  case hy0x9 => (intro w hSw; (try dsimp only at hSw); go_simp; try with_reducible rfl)
  (try simp only [Act.put, List.getElem_toArray, List.getElem_cons_zero, List.setIfInBounds_toArray, List.set_cons_zero, List.set_cons_succ])
  refine wpAnyH_take (i := 2) (v := ?va2x10) rfl (by kernel_rfl) (by kernel_rfl) (by kernel_rfl) (fun _ _ _ h => h) (Or.inl ⟨by rfl, ?hy2x10⟩) (by assumption) ?rest2x10
  case hy2x10 => (intro w hSw; (try dsimp only at hSw); go_simp; try with_reducible rfl)
  (try simp only [Act.put, List.getElem_toArray, List.getElem_cons_zero, List.getElem_cons_succ, List.setIfInBounds_toArray, List.set_cons_zero, List.set_cons_succ])
  refine wpAnyH_take (i := 3) (v := ?va3x11) rfl (by kernel_rfl) (by kernel_rfl) (by kernel_rfl) (fun _ _ _ h => h) (Or.inl ⟨by rfl, ?hy3x11⟩) (by assumption) ?rest3x11
  case hy3x11 => (intro w hSw; (try dsimp only at hSw); go_simp; try with_reducible rfl)
  (try simp only [Act.put, List.getElem_toArray, List.getElem_cons_zero, List.getElem_cons_succ, List.setIfInBounds_toArray, List.set_cons_zero, List.set_cons_succ])
  refine wpAnyH_take (i := 4) (v := ?va4x12) rfl (by kernel_rfl) (by kernel_rfl) (by kernel_rfl) (fun _ _ _ h => h) (Or.inl ⟨by rfl, ?hy4x12⟩) (by assumption) ?rest4x12
  case hy4x12 => (intro w hSw; (try dsimp only at hSw); go_simp; try with_reducible rfl)
  (try simp only [Act.put, List.getElem_toArray, List.getElem_cons_zero, List.getElem_cons_succ, List.setIfInBounds_toArray, List.set_cons_zero, List.set_cons_succ])
  refine wpAnyH_take (i := 5) (v := ?va5x13) rfl (by kernel_rfl) (by kernel_rfl) (by kernel_rfl) (fun _ _ _ h => h) (Or.inl ⟨by rfl, ?hy5x13⟩) (by assumption) ?rest5x13
  case hy5x13 => (intro w hSw; (try dsimp only at hSw); go_simp; try with_reducible rfl)
  (try simp only [Act.put, List.getElem_toArray, List.getElem_cons_zero, List.getElem_cons_succ, List.setIfInBounds_toArray, List.set_cons_zero, List.set_cons_succ])
  refine wpAnyH_take (i := 6) (v := ?va6x14) rfl (by kernel_rfl) (by kernel_rfl) (by kernel_rfl) (fun _ _ _ h => h) (Or.inl ⟨by rfl, ?hy6x14⟩) (by assumption) ?rest6x14
  case hy6x14 => (intro w hSw; (try dsimp only at hSw); go_simp; try with_reducible rfl)
  (try simp only [Act.put, List.getElem_toArray, List.getElem_cons_zero, List.getElem_cons_succ, List.setIfInBounds_toArray, List.set_cons_zero, List.set_cons_succ])
  refine wpAnyH_take (i := 7) (v := ?va7x15) rfl (by kernel_rfl) (by kernel_rfl) (by kernel_rfl) (fun _ _ _ h => h) (Or.inl ⟨by rfl, ?hy7x15⟩) (by assumption) ?rest7x15
  case hy7x15 => (intro w hSw; (try dsimp only at hSw); go_simp; try with_reducible rfl)
  (try simp only [Act.put, List.getElem_toArray, List.getElem_cons_zero, List.getElem_cons_succ, List.setIfInBounds_toArray, List.set_cons_zero, List.set_cons_succ])
  have qd := RowW.c2 RW3.out
  refine wpAnyH_ready (rs := [1, 8]) (by kernel_rfl) (by simp) ?_
  refine AllReadyH.cons rfl (fun K hK => ?_) (AllReadyH.cons rfl (fun K hK => ?_) AllReadyH.nil)
  · clear hHeld
    go_simp
    refine hK.out _ _ ((by have h : Own _ lo (us j) (row W j) := FamH.row F3.out HJF.out; rw [HPJ.out] at h; have h2 := ownCell h HMM.out (Nat.lt_succ_self m); rw [HZ.out] at h2; exact h2)) (fun hHeld => ?_)
    clear hK K qd qe
    (try simp only [Act.put, List.getElem_toArray, List.getElem_cons_zero, List.getElem_cons_succ, List.setIfInBounds_toArray, List.set_cons_zero, List.set_cons_succ])
    refine wpAnyH_ready (rs := [8]) (by kernel_rfl) (by simp) ?_
    refine AllReadyH.cons rfl (fun K hK => ?_) AllReadyH.nil
    clear hHeld
    obtain ⟨x1, hx1⟩ : ∃ x, x = x0.alloc (.cells #[.int .i64 z] 3) := ⟨_, rfl⟩
    have hb1 : Below x0.heap.size x0 x1 := by rw [hx1]; exact below1 x0 (.cells #[.int .i64 z] 3)
    have RW4 := Lib.hid (RowW.below RW3.out hb1)
    have RS4 := Lib.hid (Row.below RS3.out hb1)
    have RR4 := Lib.hid (RowW.below RR3.out hb1)
    have CH4 := Lib.hid (CH3.out.then hb1)
    have KP4 := Lib.hid (KP3.out.below hb1)
    have Z4 : Hid (w.heap.size + 3 ≤ (x1).heap.size) := Nat.le_trans Z3.out hb1.size
    have F4 : Hid (FamH x1 lo hi (.slice (some ⟨ga, 0, none⟩) 3 qa) nilV (.slice pc nd qc) us (wh W)) := Fam.below F3.out hb1
    have SR4 : Hid (SrcAt x1 (.slice (some ⟨x0.heap.size, 0, none⟩) 1 1) [.int .i64 z]) := by unfold Hid; rw [hx1]; exact src_oneI x0 _
    go_simp
    rw [← hx1]
    refine hK.out _ _ ((by have h : Own _ lo (us j) (row W j) := FamH.row F4.out HJF.out; rw [HPJ.out] at h; have h2 := ownCell h HMM.out (Nat.lt_succ_self m); rw [HZ.out] at h2; exact h2)) (fun hHeld => ?_)
    clear hK K hb1 hx1
    clear RW3 RS3 RR3 CH3 KP3 Z3 F3
    (try simp only [Act.put, List.getElem_toArray, List.getElem_cons_zero, List.getElem_cons_succ, List.setIfInBounds_toArray, List.set_cons_zero, List.set_cons_succ])
    refine wpAnyH_ready (rs := [9]) (by kernel_rfl) (by simp) ?_
    refine AllReadyH.cons rfl (fun K hK => ?_) AllReadyH.nil
    clear hHeld
    obtain ⟨u5, x2, hrun, ho5, hg5, hbl5⟩ := run_appOwn (P := Try.prog) x1 lo 26 26 3 i0 (.int .i64 0) 8 Try.underlying26 hinf hz0 hz1 hz2 rfl (.slice pc nd qc) nd (W.d.map (Value.int .i64)) (by have h : Own x1 lo (.slice pc nd qc) W.d := FamH.roots F4.out; unfold Own at h; rw [HND.out] at h; exact h) _ _ SR4.out (by have := HDL.out; simp; unfold maxLen; omega) (by have := HDL.out; simp; omega) (by have := HGA.out; have := HH.out; have := Z4.out; omega)
    have O5 : Hid (Own x2 lo u5 (W.d ++ [z])) := by unfold Hid Own; rw [List.length_append, List.map_append, HND.out]; exact ho5
    have RW5 : Hid (RowW x2 _ _ _ _) := Row.grownBy RW4.out hg5 (fun e => by have := HDB.out _ e; have := HH.out; omega)
    have RS5 := Lib.hid (Row.grownBy RS4.out hg5 (fun e => by have := HDB.out _ e; have := HH.out; omega))
    have RR5 : Hid (RowW x2 _ _ _ _) := Row.grownBy RR4.out hg5 (fun e => by have := HDB.out _ e; have := HH.out; omega)
    have CH5 := Lib.hid (CH4.out.own hg5 HDB.out)
    have KP5 := Lib.hid (KP4.out.grown hg5 (FamH.roots F4.out) (by decide))
    have Z5 : Hid (w.heap.size + 3 ≤ x2.heap.size) := Nat.le_trans Z4.out hg5.size
    have LE4 : hi ≤ x1.heap.size := by have := HH.out; have := Z4.out; omega
    have F5 : Hid (FamH x2 lo x2.heap.size (.slice (some ⟨ga, 0, none⟩) 3 qa) nilV u5 us ⟨W.r, [], W.d ++ [z]⟩) := FamH.turnRoots F4.out hg5 O5.out (Nat.le_trans LE4 hg5.size) (fun g hg => by rcases hbl5 with h | h; exact .inr (by rw [← h]; exact hg); exact .inl ⟨by rw [h] at hg; cases hg; exact LE4, (owns_lt O5.out hg).2⟩)
    obtain ⟨p5, c5, hu5⟩ := O5.out.ints.shape
    generalize (W.d ++ [z]).length = m5 at hu5
    subst hu5
    rw [if_pos (by rfl)]
    refine op_app _ _ _ rfl rfl rfl hrun ?_
    refine hK.out _ _ ((by have h : Own _ lo (us j) (row W j) := FamH.row F5.out HJF.out; rw [HPJ.out] at h; have h2 := ownCell h HMM.out (Nat.lt_succ_self m); rw [HZ.out] at h2; exact h2)) (fun hHeld => ?_)
    have cc := RowW.c2 RW5.out
    have ff := Row.frozen RW5.out 2
    clear hK K hrun ho5 hg5 hbl5 SR4 LE4 F4 O5
    clear RW4 RS4 RR4 CH4 KP4 Z4 
    (try simp only [Act.put, List.getElem_toArray, List.getElem_cons_zero, List.getElem_cons_succ, List.setIfInBounds_toArray, List.set_cons_zero, List.set_cons_succ])
    refine wpAnyH_take (i := 10) (v := ?va10x16) rfl (by kernel_rfl) (by kernel_rfl) (by kernel_rfl) (fun _ _ _ h => h) (Or.inl ⟨by rfl, ?hy10x16⟩) (by assumption) ?rest10x16
    case hy10x16 => (intro w hSw; (try dsimp only at hSw); go_simp; try with_reducible rfl)
    (try simp only [Act.put, List.getElem_toArray, List.getElem_cons_zero, List.getElem_cons_succ, List.setIfInBounds_toArray, List.set_cons_zero, List.set_cons_succ])
    refine wpAnyH_ready (rs := [11]) (by kernel_rfl) (by simp) ?_
    refine AllReadyH.cons rfl (fun K hK => ?_) AllReadyH.nil
    clear hHeld
    have RW6 := Lib.hid (RowW.set2 RW5.out (.slice p5 m5 c5))
    have RS6 := Lib.hid (Row.other RS5.out ⟨w.heap.size, 2, none⟩ (by show w.heap.size + 1 ≠ w.heap.size; omega) (.slice p5 m5 c5))
    have RR6 : Hid (RowW (x2.setCell ⟨w.heap.size, 2, none⟩ (.slice p5 m5 c5)) _ _ _ _) := Row.other RR5.out ⟨w.heap.size, 2, none⟩ (by show w.heap.size + 1 + 1 ≠ w.heap.size; omega) (.slice p5 m5 c5)
    have F6 := Lib.hid (FamH.keepRowW F5.out RW5.out (w' := x2.setCell ⟨w.heap.size, 2, none⟩ (.slice p5 m5 c5)) fun i hi _ => heap_setCell_other _ ⟨w.heap.size, 2, none⟩ i _ hi)
    have CH6 := Lib.hid (CH5.out.newCell ⟨w.heap.size, 2, none⟩ (Nat.le_refl _) (.slice p5 m5 c5))
    have KP6 := Lib.hid (KP5.out.newCell ⟨w.heap.size, 2, none⟩ (Nat.le_refl _) (.slice p5 m5 c5))
    have Z6 : Hid (w.heap.size + 3 ≤ (x2.setCell ⟨w.heap.size, 2, none⟩ (.slice p5 m5 c5)).heap.size) := by unfold Hid; rw [World.size_setCell]; exact Z5.out
    go_simp
    refine hK.out _ _ ((by have h : Own _ lo (us j) (row W j) := FamH.row F6.out HJF.out; rw [HPJ.out] at h; have h2 := ownCell h HMM.out (Nat.lt_succ_self m); rw [HZ.out] at h2; exact h2)) (fun hHeld => ?_)
    clear hK K
    (try simp only [Act.put, List.getElem_toArray, List.getElem_cons_zero, List.getElem_cons_succ, List.setIfInBounds_toArray, List.set_cons_zero, List.set_cons_succ])
    refine wpAnyH_done (by kernel_rfl) ?_ _
    have E6 : Hid (x2.heap.size ≤ (x2.setCell ⟨w.heap.size, 2, none⟩ (.slice p5 m5 c5)).heap.size) := by unfold Hid; rw [World.size_setCell]; exact Nat.le_refl _
    clear hHeld cc ff F5
    clear RW5 RS5 RR5 CH5 KP5 Z5 
    generalize x2.setCell ⟨w.heap.size, 2, none⟩ (.slice p5 m5 c5) = x3 at *
    generalize x2.heap.size = hx at *
    go_upto_region 10 with fail
    have hbd := below_drew (Below.refl x3.heap.size x3)
    have RW7 := Lib.hid (RowW.below RW6.out hbd)
    have RS7 := Lib.hid (Row.below RS6.out hbd)
    have RR7 := Lib.hid (RowW.below RR6.out hbd)
    have CH7 := Lib.hid (CH6.out.then hbd)
    have KP7 := Lib.hid (KP6.out.below hbd)
    have Z7 : Hid (w.heap.size + 3 ≤ (x3.drew).heap.size) := Nat.le_trans Z6.out hbd.size
    have F7 : Hid (FamH x3.drew lo hx (.slice (some ⟨ga, 0, none⟩) 3 qa) nilV (.slice p5 m5 c5) us ⟨W.r, [], W.d ++ [z]⟩) := Fam.below F6.out hbd
    have E7 : Hid (hx ≤ x3.drew.heap.size) := E6
    clear RW6 RS6 RR6 CH6 KP6 Z6 F6 E6 hbd
    refine wp_region_held_drew (S := (fun w' => w'.cell? ⟨w.heap.size, 0, none⟩ = some (.slice (some ⟨ga, 0, none⟩) 3 qa) ∧ w'.cell? ⟨w.heap.size + 1, 1, none⟩ = some (.int .i64 (j : Int)))) (by kernel_rfl) (⟨RowW.c0 RW7.out, Row.cell RS7.out 1⟩) (fun hHeld => ?_)
    generalize x3.drew = x4 at *
    refine wpAnyH_take (i := 0) (v := ?va0x17) rfl (by kernel_rfl) (by kernel_rfl) (by kernel_rfl) (fun _ _ _ h => h) (Or.inl ⟨by rfl, ?hy0x17⟩) (by assumption) ?rest0x17
    case hy0x17 => (intro w hSw; (try dsimp only at hSw); go_simp; try with_reducible rfl)
    (try simp only [Act.put, List.getElem_toArray, List.getElem_cons_zero, List.setIfInBounds_toArray, List.set_cons_zero, List.set_cons_succ])
    refine wpAnyH_take (i := 1) (v := ?va1x18) rfl (by kernel_rfl) (by kernel_rfl) (by kernel_rfl) (fun _ _ _ h => h) (Or.inl ⟨by rfl, ?hy1x18⟩) (by assumption) ?rest1x18
    case hy1x18 => (intro w hSw; (try dsimp only at hSw); go_simp; try with_reducible rfl)
    (try simp only [Act.put, List.getElem_toArray, List.getElem_cons_zero, List.getElem_cons_succ, List.setIfInBounds_toArray, List.set_cons_zero, List.set_cons_succ])
    refine wpAnyH_take (i := 2) (v := ?va2x19) rfl (by kernel_rfl) (by kernel_rfl) (by kernel_rfl) (fun _ _ _ h => h) (Or.inl ⟨by rfl, ?hy2x19⟩) (by assumption) ?rest2x19
    case hy2x19 => (intro w hSw; (try dsimp only at hSw); go_simp; try with_reducible rfl)
    (try simp only [Act.put, List.getElem_toArray, List.getElem_cons_zero, List.getElem_cons_succ, List.setIfInBounds_toArray, List.set_cons_zero, List.set_cons_succ])
    refine wpAnyH_take (i := 3) (v := ?va3x20) rfl (by kernel_rfl) (by kernel_rfl) (by kernel_rfl) (fun _ _ _ h => h) (Or.inl ⟨by rfl, ?hy3x20⟩) (by assumption) ?rest3x20
    case hy3x20 => (intro w hSw; (try dsimp only at hSw); go_simp; try with_reducible rfl)
    (try simp only [Act.put, List.getElem_toArray, List.getElem_cons_zero, List.getElem_cons_succ, List.setIfInBounds_toArray, List.set_cons_zero, List.set_cons_succ])
    refine wpAnyH_take (i := 4) (v := ?va4x21) rfl (by kernel_rfl) (by kernel_rfl) (by kernel_rfl) (fun _ _ _ h => h) (Or.inl ⟨by rfl, ?hy4x21⟩) (by assumption) ?rest4x21
    case hy4x21 => (intro w hSw; (try dsimp only at hSw); go_simp; try with_reducible rfl)
    (try simp only [Act.put, List.getElem_toArray, List.getElem_cons_zero, List.getElem_cons_succ, List.setIfInBounds_toArray, List.set_cons_zero, List.set_cons_succ])
    refine wpAnyH_take (i := 5) (v := ?va5x22) rfl (by kernel_rfl) (by kernel_rfl) (by kernel_rfl) (fun _ _ _ h => h) (Or.inl ⟨by rfl, ?hy5x22⟩) (by assumption) ?rest5x22
    case hy5x22 => (intro w hSw; (try dsimp only at hSw); go_simp; try with_reducible rfl)
    (try simp only [Act.put, List.getElem_toArray, List.getElem_cons_zero, List.getElem_cons_succ, List.setIfInBounds_toArray, List.set_cons_zero, List.set_cons_succ])
    refine wpAnyH_take (i := 6) (v := ?va6x23) rfl (by kernel_rfl) (by kernel_rfl) (by kernel_rfl) (fun _ _ _ h => h) (Or.inl ⟨by rfl, ?hy6x23⟩) (by assumption) ?rest6x23
    case hy6x23 => (intro w hSw; (try dsimp only at hSw); go_simp; try with_reducible rfl)
    (try simp only [Act.put, List.getElem_toArray, List.getElem_cons_zero, List.getElem_cons_succ, List.setIfInBounds_toArray, List.set_cons_zero, List.set_cons_succ])
    refine wpAnyH_take (i := 7) (v := ?va7x24) rfl (by kernel_rfl) (by kernel_rfl) (by kernel_rfl) (fun _ _ _ h => h) (Or.inl ⟨by rfl, ?hy7x24⟩) (by assumption) ?rest7x24
    case hy7x24 => (intro w hSw; (try dsimp only at hSw); go_simp; try with_reducible rfl)
    (try simp only [Act.put, List.getElem_toArray, List.getElem_cons_zero, List.getElem_cons_succ, List.setIfInBounds_toArray, List.set_cons_zero, List.set_cons_succ])
    refine wpAnyH_take (i := 8) (v := ?va8x25) rfl (by kernel_rfl) (by kernel_rfl) (by kernel_rfl) (fun _ _ _ h => h) (Or.inl ⟨by rfl, ?hy8x25⟩) (by assumption) ?rest8x25
    case hy8x25 => (intro w hSw; (try dsimp only at hSw); go_simp; try with_reducible rfl)
    (try simp only [Act.put, List.getElem_toArray, List.getElem_cons_zero, List.getElem_cons_succ, List.setIfInBounds_toArray, List.set_cons_zero, List.set_cons_succ])
    refine wpAnyH_take (i := 9) (v := ?va9x26) rfl (by kernel_rfl) (by kernel_rfl) (by kernel_rfl) (fun _ _ _ h => h) (Or.inl ⟨by rfl, ?hy9x26⟩) (by assumption) ?rest9x26
    case hy9x26 => (intro w hSw; (try dsimp only at hSw); go_simp; try with_reducible rfl)
    (try simp only [Act.put, List.getElem_toArray, List.getElem_cons_zero, List.getElem_cons_succ, List.setIfInBounds_toArray, List.set_cons_zero, List.set_cons_succ])
    obtain ⟨cc, ff⟩ := FamH.cell F7.out (g := ga) (cap := qa) (i := j) (by show _ = Value.slice _ W.r.length _; rw [HL3.out]) HJF.out
    refine wpAnyH_ready (rs := [10]) (by kernel_rfl) (by simp) ?_
    refine AllReadyH.cons rfl (fun K hK => ?_) AllReadyH.nil
    clear hHeld
    have RW8 : Hid (RowW (x4.setCell ⟨ga, j, none⟩ (.slice (some ⟨gj, 0, none⟩) m cj)) _ _ _ _) := Row.other RW7.out ⟨ga, j, none⟩ (by show _ ≠ ga; have := HGA.out; have := HH.out; omega) (.slice (some ⟨gj, 0, none⟩) m cj)
    have RS8 := Lib.hid (Row.other RS7.out ⟨ga, j, none⟩ (by show _ ≠ ga; have := HGA.out; have := HH.out; omega) (.slice (some ⟨gj, 0, none⟩) m cj))
    have RR8 : Hid (RowW (x4.setCell ⟨ga, j, none⟩ (.slice (some ⟨gj, 0, none⟩) m cj)) _ _ _ _) := Row.other RR7.out ⟨ga, j, none⟩ (by show _ ≠ ga; have := HGA.out; have := HH.out; omega) (.slice (some ⟨gj, 0, none⟩) m cj)
    have Z8 : Hid (w.heap.size + 3 ≤ (x4.setCell ⟨ga, j, none⟩ (.slice (some ⟨gj, 0, none⟩) m cj)).heap.size) := by unfold Hid; rw [World.size_setCell]; exact Z7.out
    go_simp
    refine hK.out _ _ ⟨RowW.c0 RW8.out, Row.cell RS8.out 1⟩ (fun hHeld => ?_)
    clear hK K
    (try simp only [Act.put, List.getElem_toArray, List.getElem_cons_zero, List.getElem_cons_succ, List.setIfInBounds_toArray, List.set_cons_zero, List.set_cons_succ])
    refine wpAnyH_done (by kernel_rfl) ?_ _
    clear hHeld cc ff
    have OU : Own x4 lo (.slice (some ⟨gj, 0, none⟩) m cj) ((row W j).take m) := ownCut (by have h : Own x4 lo (us j) (row W j) := FamH.row F7.out HJF.out; rw [HPJ.out] at h; exact h) HMM.out (Nat.le_succ m)
    obtain ⟨hF8, hG8⟩ := FamH.putRow F7.out HJF.out OU (hi' := hx) (Nat.le_refl _) (fun g hg => .inr (by rw [HPJ.out]; exact hg)) (g := ga) (cap := qa) (by show _ = Value.slice _ W.r.length _; rw [HL3.out])
    have F8 := Lib.hid hF8
    have CH8 := Lib.hid (CH7.out.own hG8 (fun g hg => by cases hg; exact HGA.out))
    have KP8 := Lib.hid (KP7.out.cell (FamH.outer F7.out) (g0 := ga) rfl (by decide) j (.slice (some ⟨gj, 0, none⟩) m cj))
    have E8 : Hid (hx ≤ (x4.setCell ⟨ga, j, none⟩ (.slice (some ⟨gj, 0, none⟩) m cj)).heap.size) := by unfold Hid; rw [World.size_setCell]; exact E7.out
    have HPE : Hid (pop W j = ⟨W.r.set j ((row W j).take m), W.n, W.d ++ [z]⟩) := by unfold Hid pop; rw [HMM.out, Nat.add_sub_cancel, HZ.out]
    clear hF8 hG8 F7 OU E7
    clear RW7 RS7 RR7 CH7 KP7 Z7 
    generalize x4.setCell ⟨ga, j, none⟩ (.slice (some ⟨gj, 0, none⟩) m cj) = x5 at *
    go_wp2_with (first
      | (refine wl_loadW rfl _ rfl w.heap.size (.slice (some ⟨ga, 0, none⟩) 3 qa) W.n (.slice p5 m5 c5) RW8.out rfl ?_)
      | (refine wl_storeW rfl _ _ rfl (w.heap.size + 1 + 1) (.slice (some ⟨ga, 0, none⟩) 3 qa) W.n (.slice p5 m5 c5) nilV 0 nilV RR8.out rfl rfl rfl rfl ?_))
    refine bodyPost_ret (res_row_slot Try.results55 (Row.put RR8.out (w3 (.slice (some ⟨ga, 0, none⟩) 3 qa) W.n (.slice p5 m5 c5))) rfl rfl Try.underlying28 rfl info_work) rfl ?_
    refine ⟨(.slice p5 m5 c5), by rw [HEN.out, stp_yes HEN.out, HACT.out]; rfl, ?_, CH8.out.newRow (w.heap.size + 1 + 1) (by omega) _, KP8.out.newRow (w.heap.size + 1 + 1) (by omega) _, fun h => by rw [HEN.out] at h; cases h⟩
    rw [stp_yes HEN.out, HACT.out]
    have OW : OwnW _ lo _ (.slice (some ⟨ga, 0, none⟩) 3 qa) (.slice p5 m5 c5) (pop W j) := OwnW.wholeRow (W := pop W j) ⟨upd us j (.slice (some ⟨gj, 0, none⟩) m cj), (by rw [HPE.out]; exact F8.out)⟩ RR8.out (w3 (.slice (some ⟨ga, 0, none⟩) 3 qa) W.n (.slice p5 m5 c5))
    exact OW.wide (Nat.le_refl _) (by rw [size_setRow]; exact E8.out)
  · clear hHeld
    obtain ⟨x1, hx1⟩ : ∃ x, x = x0.alloc (.cells #[.int .i64 z] 3) := ⟨_, rfl⟩
    have hb1 : Below x0.heap.size x0 x1 := by rw [hx1]; exact below1 x0 (.cells #[.int .i64 z] 3)
    have RW4 := Lib.hid (RowW.below RW3.out hb1)
    have RS4 := Lib.hid (Row.below RS3.out hb1)
    have RR4 := Lib.hid (RowW.below RR3.out hb1)
    have CH4 := Lib.hid (CH3.out.then hb1)
    have KP4 := Lib.hid (KP3.out.below hb1)
    have Z4 : Hid (w.heap.size + 3 ≤ (x1).heap.size) := Nat.le_trans Z3.out hb1.size
    have F4 : Hid (FamH x1 lo hi (.slice (some ⟨ga, 0, none⟩) 3 qa) nilV (.slice pc nd qc) us (wh W)) := Fam.below F3.out hb1
    have SR4 : Hid (SrcAt x1 (.slice (some ⟨x0.heap.size, 0, none⟩) 1 1) [.int .i64 z]) := by unfold Hid; rw [hx1]; exact src_oneI x0 _
    go_simp
    rw [← hx1]
    refine hK.out _ _ ((by have h : Own _ lo (us j) (row W j) := FamH.row F4.out HJF.out; rw [HPJ.out] at h; have h2 := ownCell h HMM.out (Nat.lt_succ_self m); rw [HZ.out] at h2; exact h2)) (fun hHeld => ?_)
    clear hK K hb1 hx1 qe qd
    clear RW3 RS3 RR3 CH3 KP3 Z3 F3
    (try simp only [Act.put, List.getElem_toArray, List.getElem_cons_zero, List.getElem_cons_succ, List.setIfInBounds_toArray, List.set_cons_zero, List.set_cons_succ])
    have qd := RowW.c2 RW4.out
    refine wpAnyH_ready (rs := [1]) (by kernel_rfl) (by simp) ?_
    refine AllReadyH.cons rfl (fun K hK => ?_) AllReadyH.nil
    clear hHeld
    go_simp
    refine hK.out _ _ ((by have h : Own _ lo (us j) (row W j) := FamH.row F4.out HJF.out; rw [HPJ.out] at h; have h2 := ownCell h HMM.out (Nat.lt_succ_self m); rw [HZ.out] at h2; exact h2)) (fun hHeld => ?_)
    clear hK K qd
    (try simp only [Act.put, List.getElem_toArray, List.getElem_cons_zero, List.getElem_cons_succ, List.setIfInBounds_toArray, List.set_cons_zero, List.set_cons_succ])
    refine wpAnyH_ready (rs := [9]) (by kernel_rfl) (by simp) ?_
    refine AllReadyH.cons rfl (fun K hK => ?_) AllReadyH.nil
    clear hHeld
    obtain ⟨u5, x2, hrun, ho5, hg5, hbl5⟩ := run_appOwn (P := Try.prog) x1 lo 26 26 3 i0 (.int .i64 0) 8 Try.underlying26 hinf hz0 hz1 hz2 rfl (.slice pc nd qc) nd (W.d.map (Value.int .i64)) (by have h : Own x1 lo (.slice pc nd qc) W.d := FamH.roots F4.out; unfold Own at h; rw [HND.out] at h; exact h) _ _ SR4.out (by have := HDL.out; simp; unfold maxLen; omega) (by have := HDL.out; simp; omega) (by have := HGA.out; have := HH.out; have := Z4.out; omega)
    have O5 : Hid (Own x2 lo u5 (W.d ++ [z])) := by unfold Hid Own; rw [List.length_append, List.map_append, HND.out]; exact ho5
    have RW5 : Hid (RowW x2 _ _ _ _) := Row.grownBy RW4.out hg5 (fun e => by have := HDB.out _ e; have := HH.out; omega)
    have RS5 := Lib.hid (Row.grownBy RS4.out hg5 (fun e => by have := HDB.out _ e; have := HH.out; omega))
    have RR5 : Hid (RowW x2 _ _ _ _) := Row.grownBy RR4.out hg5 (fun e => by have := HDB.out _ e; have := HH.out; omega)
    have CH5 := Lib.hid (CH4.out.own hg5 HDB.out)
    have KP5 := Lib.hid (KP4.out.grown hg5 (FamH.roots F4.out) (by decide))
    have Z5 : Hid (w.heap.size + 3 ≤ x2.heap.size) := Nat.le_trans Z4.out hg5.size
    have LE4 : hi ≤ x1.heap.size := by have := HH.out; have := Z4.out; omega
    have F5 : Hid (FamH x2 lo x2.heap.size (.slice (some ⟨ga, 0, none⟩) 3 qa) nilV u5 us ⟨W.r, [], W.d ++ [z]⟩) := FamH.turnRoots F4.out hg5 O5.out (Nat.le_trans LE4 hg5.size) (fun g hg => by rcases hbl5 with h | h; exact .inr (by rw [← h]; exact hg); exact .inl ⟨by rw [h] at hg; cases hg; exact LE4, (owns_lt O5.out hg).2⟩)
    obtain ⟨p5, c5, hu5⟩ := O5.out.ints.shape
    generalize (W.d ++ [z]).length = m5 at hu5
    subst hu5
    rw [if_pos (by rfl)]
    refine op_app _ _ _ rfl rfl rfl hrun ?_
    refine hK.out _ _ ((by have h : Own _ lo (us j) (row W j) := FamH.row F5.out HJF.out; rw [HPJ.out] at h; have h2 := ownCell h HMM.out (Nat.lt_succ_self m); rw [HZ.out] at h2; exact h2)) (fun hHeld => ?_)
    have cc := RowW.c2 RW5.out
    have ff := Row.frozen RW5.out 2
    clear hK K hrun ho5 hg5 hbl5 SR4 LE4 F4 O5
    clear RW4 RS4 RR4 CH4 KP4 Z4 
    (try simp only [Act.put, List.getElem_toArray, List.getElem_cons_zero, List.getElem_cons_succ, List.setIfInBounds_toArray, List.set_cons_zero, List.set_cons_succ])
    refine wpAnyH_take (i := 10) (v := ?va10x27) rfl (by kernel_rfl) (by kernel_rfl) (by kernel_rfl) (fun _ _ _ h => h) (Or.inl ⟨by rfl, ?hy10x27⟩) (by assumption) ?rest10x27
    case hy10x27 => (intro w hSw; (try dsimp only at hSw); go_simp; try with_reducible rfl)
    (try simp only [Act.put, List.getElem_toArray, List.getElem_cons_zero, List.getElem_cons_succ, List.setIfInBounds_toArray, List.set_cons_zero, List.set_cons_succ])
    refine wpAnyH_ready (rs := [11]) (by kernel_rfl) (by simp) ?_
    refine AllReadyH.cons rfl (fun K hK => ?_) AllReadyH.nil
    clear hHeld
    have RW6 := Lib.hid (RowW.set2 RW5.out (.slice p5 m5 c5))
    have RS6 := Lib.hid (Row.other RS5.out ⟨w.heap.size, 2, none⟩ (by show w.heap.size + 1 ≠ w.heap.size; omega) (.slice p5 m5 c5))
    have RR6 : Hid (RowW (x2.setCell ⟨w.heap.size, 2, none⟩ (.slice p5 m5 c5)) _ _ _ _) := Row.other RR5.out ⟨w.heap.size, 2, none⟩ (by show w.heap.size + 1 + 1 ≠ w.heap.size; omega) (.slice p5 m5 c5)
    have F6 := Lib.hid (FamH.keepRowW F5.out RW5.out (w' := x2.setCell ⟨w.heap.size, 2, none⟩ (.slice p5 m5 c5)) fun i hi _ => heap_setCell_other _ ⟨w.heap.size, 2, none⟩ i _ hi)
    have CH6 := Lib.hid (CH5.out.newCell ⟨w.heap.size, 2, none⟩ (Nat.le_refl _) (.slice p5 m5 c5))
    have KP6 := Lib.hid (KP5.out.newCell ⟨w.heap.size, 2, none⟩ (Nat.le_refl _) (.slice p5 m5 c5))
    have Z6 : Hid (w.heap.size + 3 ≤ (x2.setCell ⟨w.heap.size, 2, none⟩ (.slice p5 m5 c5)).heap.size) := by unfold Hid; rw [World.size_setCell]; exact Z5.out
    go_simp
    refine hK.out _ _ ((by have h : Own _ lo (us j) (row W j) := FamH.row F6.out HJF.out; rw [HPJ.out] at h; have h2 := ownCell h HMM.out (Nat.lt_succ_self m); rw [HZ.out] at h2; exact h2)) (fun hHeld => ?_)
    clear hK K
    (try simp only [Act.put, List.getElem_toArray, List.getElem_cons_zero, List.getElem_cons_succ, List.setIfInBounds_toArray, List.set_cons_zero, List.set_cons_succ])
    refine wpAnyH_done (by kernel_rfl) ?_ _
    have E6 : Hid (x2.heap.size ≤ (x2.setCell ⟨w.heap.size, 2, none⟩ (.slice p5 m5 c5)).heap.size) := by unfold Hid; rw [World.size_setCell]; exact Nat.le_refl _
    clear hHeld cc ff F5
    clear RW5 RS5 RR5 CH5 KP5 Z5 
    generalize x2.setCell ⟨w.heap.size, 2, none⟩ (.slice p5 m5 c5) = x3 at *
    generalize x2.heap.size = hx at *
    go_upto_region 10 with fail
    have hbd := below_drew (Below.refl x3.heap.size x3)
    have RW7 := Lib.hid (RowW.below RW6.out hbd)
    have RS7 := Lib.hid (Row.below RS6.out hbd)
    have RR7 := Lib.hid (RowW.below RR6.out hbd)
    have CH7 := Lib.hid (CH6.out.then hbd)
    have KP7 := Lib.hid (KP6.out.below hbd)
    have Z7 : Hid (w.heap.size + 3 ≤ (x3.drew).heap.size) := Nat.le_trans Z6.out hbd.size
    have F7 : Hid (FamH x3.drew lo hx (.slice (some ⟨ga, 0, none⟩) 3 qa) nilV (.slice p5 m5 c5) us ⟨W.r, [], W.d ++ [z]⟩) := Fam.below F6.out hbd
    have E7 : Hid (hx ≤ x3.drew.heap.size) := E6
    clear RW6 RS6 RR6 CH6 KP6 Z6 F6 E6 hbd
    refine wp_region_held_drew (S := (fun w' => w'.cell? ⟨w.heap.size, 0, none⟩ = some (.slice (some ⟨ga, 0, none⟩) 3 qa) ∧ w'.cell? ⟨w.heap.size + 1, 1, none⟩ = some (.int .i64 (j : Int)))) (by kernel_rfl) (⟨RowW.c0 RW7.out, Row.cell RS7.out 1⟩) (fun hHeld => ?_)
    generalize x3.drew = x4 at *
    refine wpAnyH_take (i := 0) (v := ?va0x28) rfl (by kernel_rfl) (by kernel_rfl) (by kernel_rfl) (fun _ _ _ h => h) (Or.inl ⟨by rfl, ?hy0x28⟩) (by assumption) ?rest0x28
    case hy0x28 => (intro w hSw; (try dsimp only at hSw); go_simp; try with_reducible rfl)
    (try simp only [Act.put, List.getElem_toArray, List.getElem_cons_zero, List.setIfInBounds_toArray, List.set_cons_zero, List.set_cons_succ])
    refine wpAnyH_take (i := 1) (v := ?va1x29) rfl (by kernel_rfl) (by kernel_rfl) (by kernel_rfl) (fun _ _ _ h => h) (Or.inl ⟨by rfl, ?hy1x29⟩) (by assumption) ?rest1x29
    case hy1x29 => (intro w hSw; (try dsimp only at hSw); go_simp; try with_reducible rfl)
    (try simp only [Act.put, List.getElem_toArray, List.getElem_cons_zero, List.getElem_cons_succ, List.setIfInBounds_toArray, List.set_cons_zero, List.set_cons_succ])
    refine wpAnyH_take (i := 2) (v := ?va2x30) rfl (by kernel_rfl) (by kernel_rfl) (by kernel_rfl) (fun _ _ _ h => h) (Or.inl ⟨by rfl, ?hy2x30⟩) (by assumption) ?rest2x30
    case hy2x30 => (intro w hSw; (try dsimp only at hSw); go_simp; try with_reducible rfl)
    (try simp only [Act.put, List.getElem_toArray, List.getElem_cons_zero, List.getElem_cons_succ, List.setIfInBounds_toArray, List.set_cons_zero, List.set_cons_succ])
    refine wpAnyH_take (i := 3) (v := ?va3x31) rfl (by kernel_rfl) (by kernel_rfl) (by kernel_rfl) (fun _ _ _ h => h) (Or.inl ⟨by rfl, ?hy3x31⟩) (by assumption) ?rest3x31
    case hy3x31 => (intro w hSw; (try dsimp only at hSw); go_simp; try with_reducible rfl)
    (try simp only [Act.put, List.getElem_toArray, List.getElem_cons_zero, List.getElem_cons_succ, List.setIfInBounds_toArray, List.set_cons_zero, List.set_cons_succ])
    refine wpAnyH_take (i := 4) (v := ?va4x32) rfl (by kernel_rfl) (by kernel_rfl) (by kernel_rfl) (fun _ _ _ h => h) (Or.inl ⟨by rfl, ?hy4x32⟩) (by assumption) ?rest4x32
    case hy4x32 => (intro w hSw; (try dsimp only at hSw); go_simp; try with_reducible rfl)
    (try simp only [Act.put, List.getElem_toArray, List.getElem_cons_zero, List.getElem_cons_succ, List.setIfInBounds_toArray, List.set_cons_zero, List.set_cons_succ])
    refine wpAnyH_take (i := 5) (v := ?va5x33) rfl (by kernel_rfl) (by kernel_rfl) (by kernel_rfl) (fun _ _ _ h => h) (Or.inl ⟨by rfl, ?hy5x33⟩) (by assumption) ?rest5x33
    case hy5x33 => (intro w hSw; (try dsimp only at hSw); go_simp; try with_reducible rfl)
    (try simp only [Act.put, List.getElem_toArray, List.getElem_cons_zero, List.getElem_cons_succ, List.setIfInBounds_toArray, List.set_cons_zero, List.set_cons_succ])
    refine wpAnyH_take (i := 6) (v := ?va6x34) rfl (by kernel_rfl) (by kernel_rfl) (by kernel_rfl) (fun _ _ _ h => h) (Or.inl ⟨by rfl, ?hy6x34⟩) (by assumption) ?rest6x34
    case hy6x34 => (intro w hSw; (try dsimp only at hSw); go_simp; try with_reducible rfl)
    (try simp only [Act.put, List.getElem_toArray, List.getElem_cons_zero, List.getElem_cons_succ, List.setIfInBounds_toArray, List.set_cons_zero, List.set_cons_succ])
    refine wpAnyH_take (i := 7) (v := ?va7x35) rfl (by kernel_rfl) (by kernel_rfl) (by kernel_rfl) (fun _ _ _ h => h) (Or.inl ⟨by rfl, ?hy7x35⟩) (by assumption) ?rest7x35
    case hy7x35 => (intro w hSw; (try dsimp only at hSw); go_simp; try with_reducible rfl)
    (try simp only [Act.put, List.getElem_toArray, List.getElem_cons_zero, List.getElem_cons_succ, List.setIfInBounds_toArray, List.set_cons_zero, List.set_cons_succ])
    refine wpAnyH_take (i := 8) (v := ?va8x36) rfl (by kernel_rfl) (by kernel_rfl) (by kernel_rfl) (fun _ _ _ h => h) (Or.inl ⟨by rfl, ?hy8x36⟩) (by assumption) ?rest8x36
    case hy8x36 => (intro w hSw; (try dsimp only at hSw); go_simp; try with_reducible rfl)
    (try simp only [Act.put, List.getElem_toArray, List.getElem_cons_zero, List.getElem_cons_succ, List.setIfInBounds_toArray, List.set_cons_zero, List.set_cons_succ])
    refine wpAnyH_take (i := 9) (v := ?va9x37) rfl (by kernel_rfl) (by kernel_rfl) (by kernel_rfl) (fun _ _ _ h => h) (Or.inl ⟨by rfl, ?hy9x37⟩) (by assumption) ?rest9x37
    case hy9x37 => (intro w hSw; (try dsimp only at hSw); go_simp; try with_reducible rfl)
    (try simp only [Act.put, List.getElem_toArray, List.getElem_cons_zero, List.getElem_cons_succ, List.setIfInBounds_toArray, List.set_cons_zero, List.set_cons_succ])
    obtain ⟨cc, ff⟩ := FamH.cell F7.out (g := ga) (cap := qa) (i := j) (by show _ = Value.slice _ W.r.length _; rw [HL3.out]) HJF.out
    refine wpAnyH_ready (rs := [10]) (by kernel_rfl) (by simp) ?_
    refine AllReadyH.cons rfl (fun K hK => ?_) AllReadyH.nil
    clear hHeld
    have RW8 : Hid (RowW (x4.setCell ⟨ga, j, none⟩ (.slice (some ⟨gj, 0, none⟩) m cj)) _ _ _ _) := Row.other RW7.out ⟨ga, j, none⟩ (by show _ ≠ ga; have := HGA.out; have := HH.out; omega) (.slice (some ⟨gj, 0, none⟩) m cj)
    have RS8 := Lib.hid (Row.other RS7.out ⟨ga, j, none⟩ (by show _ ≠ ga; have := HGA.out; have := HH.out; omega) (.slice (some ⟨gj, 0, none⟩) m cj))
    have RR8 : Hid (RowW (x4.setCell ⟨ga, j, none⟩ (.slice (some ⟨gj, 0, none⟩) m cj)) _ _ _ _) := Row.other RR7.out ⟨ga, j, none⟩ (by show _ ≠ ga; have := HGA.out; have := HH.out; omega) (.slice (some ⟨gj, 0, none⟩) m cj)
    have Z8 : Hid (w.heap.size + 3 ≤ (x4.setCell ⟨ga, j, none⟩ (.slice (some ⟨gj, 0, none⟩) m cj)).heap.size) := by unfold Hid; rw [World.size_setCell]; exact Z7.out
    go_simp
    refine hK.out _ _ ⟨RowW.c0 RW8.out, Row.cell RS8.out 1⟩ (fun hHeld => ?_)
    clear hK K
    (try simp only [Act.put, List.getElem_toArray, List.getElem_cons_zero, List.getElem_cons_succ, List.setIfInBounds_toArray, List.set_cons_zero, List.set_cons_succ])
    refine wpAnyH_done (by kernel_rfl) ?_ _
    clear hHeld cc ff
    have OU : Own x4 lo (.slice (some ⟨gj, 0, none⟩) m cj) ((row W j).take m) := ownCut (by have h : Own x4 lo (us j) (row W j) := FamH.row F7.out HJF.out; rw [HPJ.out] at h; exact h) HMM.out (Nat.le_succ m)
    obtain ⟨hF8, hG8⟩ := FamH.putRow F7.out HJF.out OU (hi' := hx) (Nat.le_refl _) (fun g hg => .inr (by rw [HPJ.out]; exact hg)) (g := ga) (cap := qa) (by show _ = Value.slice _ W.r.length _; rw [HL3.out])
    have F8 := Lib.hid hF8
    have CH8 := Lib.hid (CH7.out.own hG8 (fun g hg => by cases hg; exact HGA.out))
    have KP8 := Lib.hid (KP7.out.cell (FamH.outer F7.out) (g0 := ga) rfl (by decide) j (.slice (some ⟨gj, 0, none⟩) m cj))
    have E8 : Hid (hx ≤ (x4.setCell ⟨ga, j, none⟩ (.slice (some ⟨gj, 0, none⟩) m cj)).heap.size) := by unfold Hid; rw [World.size_setCell]; exact E7.out
    have HPE : Hid (pop W j = ⟨W.r.set j ((row W j).take m), W.n, W.d ++ [z]⟩) := by unfold Hid pop; rw [HMM.out, Nat.add_sub_cancel, HZ.out]
    clear hF8 hG8 F7 OU E7
    clear RW7 RS7 RR7 CH7 KP7 Z7 
    generalize x4.setCell ⟨ga, j, none⟩ (.slice (some ⟨gj, 0, none⟩) m cj) = x5 at *
    go_wp2_with (first
      | (refine wl_loadW rfl _ rfl w.heap.size (.slice (some ⟨ga, 0, none⟩) 3 qa) W.n (.slice p5 m5 c5) RW8.out rfl ?_)
      | (refine wl_storeW rfl _ _ rfl (w.heap.size + 1 + 1) (.slice (some ⟨ga, 0, none⟩) 3 qa) W.n (.slice p5 m5 c5) nilV 0 nilV RR8.out rfl rfl rfl rfl ?_))
    refine bodyPost_ret (res_row_slot Try.results55 (Row.put RR8.out (w3 (.slice (some ⟨ga, 0, none⟩) 3 qa) W.n (.slice p5 m5 c5))) rfl rfl Try.underlying28 rfl info_work) rfl ?_
    refine ⟨(.slice p5 m5 c5), by rw [HEN.out, stp_yes HEN.out, HACT.out]; rfl, ?_, CH8.out.newRow (w.heap.size + 1 + 1) (by omega) _, KP8.out.newRow (w.heap.size + 1 + 1) (by omega) _, fun h => by rw [HEN.out] at h; cases h⟩
    rw [stp_yes HEN.out, HACT.out]
    have OW : OwnW _ lo _ (.slice (some ⟨ga, 0, none⟩) 3 qa) (.slice p5 m5 c5) (pop W j) := OwnW.wholeRow (W := pop W j) ⟨upd us j (.slice (some ⟨gj, 0, none⟩) m cj), (by rw [HPE.out]; exact F8.out)⟩ RR8.out (w3 (.slice (some ⟨ga, 0, none⟩) 3 qa) W.n (.slice p5 m5 c5))
    exact OW.wide (Nat.le_refl _) (by rw [size_setRow]; exact E8.out)
end Go.Proofs.Ytkbphmnacdpdgaa
namespace Go.Proofs.Ytkbphmnacdpdgaa
open Go.RowKit Ph Kw
theorem FamH.keepBy {w w' : World} {lo hi : Nat} {a b c : Value} {us : Nat → Value} {h : H} (k : FamH w lo hi a b c us h) (hb : ∀ i, i < hi → i < w.heap.size → w'.heap[i]? = w.heap[i]?) : FamH w' lo hi a b c us h :=
  ⟨fun j hj => owns_block (k.own j hj) fun g hg => hb g (k.lt j hj g hg) (owns_lt (k.own j hj) hg).2, k.lt, k.ap⟩
set_option maxRecDepth 100000 in
set_option maxHeartbeats 12800000 in
theorem s_step_steal (a c : Value) (W : Wk) (j i : Nat) (w : World) (lo hi : Nat) (hO : OwnW w lo hi a c W) (hs : Sm W) (hh : hi ≤ w.heap.size) (hj : j < 3) (hi3 : i < 3) (hne : i ≠ j) (hmi : 0 < (row W i).length) (hm : (row W j).length < 12) : Calls Try.prog 55 #[wkv a W.n c, stv 3 (j : Int) (i : Int)] w (EndS a W (3, (j : Int), (i : Int)) lo hi w) := by
  obtain ⟨i0, hinf, hz0, hz1, hz2⟩ := info_parts info_int
  have hwj : isW (j : Int) = true := isW_iff.2 ⟨by omega, by omega⟩
  have hwi : isW (i : Int) = true := isW_iff.2 ⟨by omega, by omega⟩
  have HEN : Hid (en W (3, (j : Int), (i : Int)) = true) := by
    unfold Hid; rw [en_steal (W := W) (s := (3, (j : Int), (i : Int))) hwj rfl]
    show (isW (i : Int) && (decide ((i : Int) ≠ (j : Int)) && (decide (0 < (row W (i : Int).toNat).length) && decide ((row W (j : Int).toNat).length < 12)))) = true
    rw [show (j : Int).toNat = j by omega, show (i : Int).toNat = i by omega, hwi, decide_eq_true hm, decide_eq_true hmi, decide_eq_true (show (i : Int) ≠ (j : Int) by omega)]; rfl
  have HACT : Hid (act W (3, (j : Int), (i : Int)) = steal W j i) := by
    unfold Hid act; rw [if_neg (show ¬ (3 : Int) = 1 by decide), if_neg (show ¬ (3 : Int) = 2 by decide)]; show steal W (j : Int).toNat (i : Int).toNat = _; rw [show (j : Int).toNat = j by omega, show (i : Int).toNat = i by omega]
  have hl3 := hs.len
  obtain ⟨us, hF0⟩ := hO
  obtain ⟨ga, qa, rfl⟩ : ∃ g q, a = .slice (some ⟨g, 0, none⟩) 3 q := by
    rcases hF0.shape with ⟨_, h2⟩ | ⟨g, q, h2⟩
    · have h2 : W.r = [] := h2
      rw [h2] at hl3; simp at hl3
    · have h2 : a = .slice (some ⟨g, 0, none⟩) W.r.length q := h2
      rw [hl3] at h2; exact ⟨g, q, h2⟩
  obtain ⟨pc, qc, hpc⟩ := (FamH.roots hF0).ints.shape
  have hpc : c = .slice pc W.d.length qc := hpc
  have hdl := (sm_len hs).2
  have hr12 := hs.rows
  have hn100 := hs.n1
  have hn0 := hs.n0
  generalize hnd : W.d.length = nd at *
  subst hpc
  have hb0 := ((below1 w (.cells (w3 (.slice (some ⟨ga, 0, none⟩) 3 qa) W.n (.slice pc nd qc)) 28)).alloc (by simp) (.cells (s3c 3 (j : Int) (i : Int)) 44)).alloc (by simp; omega) (.cells (w3 nilV 0 nilV) 28)
  have RW0 := Lib.hid (show RowW (((w.alloc (.cells (w3 (.slice (some ⟨ga, 0, none⟩) 3 qa) W.n (.slice pc nd qc)) 28)).alloc (.cells (s3c 3 (j : Int) (i : Int)) 44)).alloc (.cells (w3 nilV 0 nilV) 28)) w.heap.size (.slice (some ⟨ga, 0, none⟩) 3 qa) W.n (.slice pc nd qc) from Row.alloc (Row.alloc (Row.new w 28 _) _) _)
  have RS0 := Lib.hid (show Row (((w.alloc (.cells (w3 (.slice (some ⟨ga, 0, none⟩) 3 qa) W.n (.slice pc nd qc)) 28)).alloc (.cells (s3c 3 (j : Int) (i : Int)) 44)).alloc (.cells (w3 nilV 0 nilV) 28)) (w.heap.size + 1) 44 (s3c 3 (j : Int) (i : Int)) from Row.alloc (Row.new1 w _ 44 (s3c 3 (j : Int) (i : Int))) _)
  have RR0 := Lib.hid (show RowW (((w.alloc (.cells (w3 (.slice (some ⟨ga, 0, none⟩) 3 qa) W.n (.slice pc nd qc)) 28)).alloc (.cells (s3c 3 (j : Int) (i : Int)) 44)).alloc (.cells (w3 nilV 0 nilV) 28)) (w.heap.size + 1 + 1) nilV 0 nilV from Row.new2 w _ _ 28 (w3 nilV 0 nilV))
  have HB := Lib.hid hb0
  have HF : Hid (FamH (((w.alloc (.cells (w3 (.slice (some ⟨ga, 0, none⟩) 3 qa) W.n (.slice pc nd qc)) 28)).alloc (.cells (s3c 3 (j : Int) (i : Int)) 44)).alloc (.cells (w3 nilV 0 nilV) 28)) lo hi (.slice (some ⟨ga, 0, none⟩) 3 qa) nilV (.slice pc nd qc) us (wh W)) := Fam.below hF0 hb0
  have HH := Lib.hid hh; have HL3 := Lib.hid hl3; have HND := Lib.hid hnd; have HDL := Lib.hid hdl; have HR12 := Lib.hid hr12
  have HN := Lib.hid (And.intro hn0 hn100)
  have HOW := Lib.hid (show OwnW w lo hi (.slice (some ⟨ga, 0, none⟩) 3 qa) (.slice pc nd qc) W from ⟨us, hF0⟩)
  have hcell := fun i (h : i < 3) => (HF.out.cell (g := ga) (cap := qa) (i := i) (by show _ = Value.slice _ W.r.length _; rw [hl3]) (by show i < W.r.length; omega)).1
  have HCE := Lib.hid hcell
  have q0 := RowW.c0 RW0.out
  have q1 := RowW.c1 RW0.out
  have q2 := RowW.c2 RW0.out
  have s0 := Row.cell RS0.out 0
  have s1 := Row.cell RS0.out 1
  have s2 := Row.cell RS0.out 2
  clear hb0 hF0 hh hl3 hnd hdl hr12 hcell hn100 hn0
  have HJ := Lib.hid hwj
  have HJ2 := Lib.hid hwi
  have HJJ := Lib.hid hj
  have HNE := Lib.hid hne
  have hjf : j < (wh W).f.length := by show j < W.r.length; rw [HL3.out]; exact hj
  have hif : i < (wh W).f.length := by show i < W.r.length; rw [HL3.out]; exact hi3
  have HJF := Lib.hid hjf
  have HIF := Lib.hid hif
  have HGA := Lib.hid (FamH.outBlk HF.out rfl)
  have HUB := Lib.hid (fun g hg => FamH.rowBlk (g := g) HF.out hjf hg)
  have hjc := HCE.out j hj
  have hic := HCE.out i hi3
  obtain ⟨pj, cj, hpj⟩ : ∃ p q, us j = .slice p (row W j).length q := (FamH.row HF.out hjf).ints.shape
  obtain ⟨gi, ci, hpi⟩ : ∃ g q, us i = .slice (some ⟨g, 0, none⟩) (row W i).length q := ownOne (show Own _ lo (us i) (row W i) from FamH.row HF.out hif) hmi
  have hcap : (row W i).length ≤ ci := by have := (show Own _ lo (us i) (row W i) from FamH.row HF.out hif).intsC; rw [hpi] at this; exact this.2 _ _ _ rfl
  rw [hpj] at hjc
  rw [hpi] at hic
  have HPJ := Lib.hid hpj
  have HPI := Lib.hid hpi
  have HM := Lib.hid hm
  have HM2 := Lib.hid (HR12.out i hi3)
  have i1 : (j : Int) < 3 := by omega
  have i2 : (i : Int) < 3 := by omega
  have f2 : ((i : Int) != (j : Int)) = true := by rw [bne_iff_ne]; omega
  have h4 : ((row W j).length : Int) < 12 := by omega
  obtain ⟨ni, hmmi⟩ : ∃ m, (row W i).length = m + 1 := ⟨(row W i).length - 1, by omega⟩
  clear hwj hwi hj hjf hpj hm hi3 hif hpi hmi hne
  generalize hmm : (row W j).length = m at *
  have HMM := Lib.hid hmm; clear hmm
  rw [hmmi] at hic HPI HM2 hcap
  have HMI := Lib.hid hmmi; clear hmmi
  have HCAP := Lib.hid hcap; clear hcap
  have h5 : ((ni + 1 : Nat) : Int) > 0 := by omega
  have h5b : (0 : Int) < ((ni + 1 : Nat) : Int) := by omega
  have h5c : (0 : Int) < (ni : Int) + 1 := by omega
  generalize hzz : (row W i).getD 0 0 = z
  have HZ := Lib.hid hzz; clear hzz
  have HZ0 : Hid (w.heap.size + 3 ≤ (((w.alloc (.cells (w3 (.slice (some ⟨ga, 0, none⟩) 3 qa) W.n (.slice pc nd qc)) 28)).alloc (.cells (s3c 3 (j : Int) (i : Int)) 44)).alloc (.cells (w3 nilV 0 nilV) 28)).heap.size) := by unfold Hid; simp
  go_enter Try.func55, Try.ntmps55
  go_upto_region 5 with (go_at_call 85; refine (s_l10Who _ _).mono ?_; rintro e w1 ⟨rfl, rfl⟩; first | rw [HJ.out] | rw [HJ2.out])
  generalize (((w.alloc (.cells (w3 (.slice (some ⟨ga, 0, none⟩) 3 qa) W.n (.slice pc nd qc)) 28)).alloc (.cells (s3c 3 (j : Int) (i : Int)) 44)).alloc (.cells (w3 nilV 0 nilV) 28)) = wa at *
  go_upto_region 12 with (go_at_call 85; refine (s_l10Who _ _).mono ?_; rintro e w1 ⟨rfl, rfl⟩; first | rw [HJ.out] | rw [HJ2.out])
  have CH0 := Lib.hid (Chg.of_below (lo := lo) (hi := hi) HB.out)
  have KP0 := Lib.hid (KeepW.of_below HB.out)
  have F0 := HF
  have Z0 := HZ0
  clear q0 q1 q2 s0 s1 s2 hjc hic HB HF HCE HOW HZ0
  have hbd := below_drew (Below.refl wa.heap.size wa)
  have RW3 := Lib.hid (RowW.below RW0.out hbd)
  have RS3 := Lib.hid (Row.below RS0.out hbd)
  have RR3 := Lib.hid (RowW.below RR0.out hbd)
  have CH3 := Lib.hid (CH0.out.then hbd)
  have KP3 := Lib.hid (KP0.out.below hbd)
  have Z3 : Hid (w.heap.size + 3 ≤ (wa.drew).heap.size) := Nat.le_trans Z0.out hbd.size
  have F3 : Hid (FamH wa.drew lo hi (.slice (some ⟨ga, 0, none⟩) 3 qa) nilV (.slice pc nd qc) us (wh W)) := Fam.below F0.out hbd
  clear RW0 RS0 RR0 CH0 KP0 Z0 F0 hbd
  refine wp_region_held_drew (S := (fun w' => w'.cell? ⟨w.heap.size, 0, none⟩ = some (.slice (some ⟨ga, 0, none⟩) 3 qa) ∧ w'.cell? ⟨w.heap.size + 1, 1, none⟩ = some (.int .i64 (j : Int)) ∧ w'.cell? ⟨w.heap.size + 1, 2, none⟩ = some (.int .i64 (i : Int)) ∧ w'.cell? ⟨ga, i, none⟩ = some (.slice (some ⟨gi, 0, none⟩) (ni + 1) ci) ∧ w'.cell? ⟨gi, 0, none⟩ = some (.int .i64 z))) (by kernel_rfl) (⟨RowW.c0 RW3.out, Row.cell RS3.out 1, Row.cell RS3.out 2, by have h := (FamH.cell F3.out (g := ga) (cap := qa) (i := i) (by show _ = Value.slice _ W.r.length _; rw [HL3.out]) HIF.out).1; rw [HPI.out] at h; exact h, by have h : Own _ lo (us i) (row W i) := FamH.row F3.out HIF.out; rw [HPI.out] at h; have h2 := ownCell h HMI.out (Nat.succ_pos ni); rw [HZ.out] at h2; exact h2⟩) (fun hHeld => ?_)
  generalize wa.drew = x0 at *
  refine wpAnyH_take (i := 0) (v := ?va0x38) rfl (by kernel_rfl) (by kernel_rfl) (by kernel_rfl) (fun _ _ _ h => h) (Or.inl ⟨by rfl, ?hy0x38⟩) (by assumption) ?rest0x38
  case hy0x38 => (intro w hSw; (try dsimp only at hSw); go_simp; try with_reducible rfl)
  (try simp only [Act.put, List.getElem_toArray, List.getElem_cons_zero, List.setIfInBounds_toArray, List.set_cons_zero, List.set_cons_succ])
  refine wpAnyH_take (i := 1) (v := ?va1x39) rfl (by kernel_rfl) (by kernel_rfl) (by kernel_rfl) (fun _ _ _ h => h) (Or.inl ⟨by rfl, ?hy1x39⟩) (by assumption) ?rest1x39
  case hy1x39 => (intro w hSw; (try dsimp only at hSw); go_simp; try with_reducible rfl)
  (try simp only [Act.put, List.getElem_toArray, List.getElem_cons_zero, List.getElem_cons_succ, List.setIfInBounds_toArray, List.set_cons_zero, List.set_cons_succ])
  refine wpAnyH_take (i := 2) (v := ?va2x40) rfl (by kernel_rfl) (by kernel_rfl) (by kernel_rfl) (fun _ _ _ h => h) (Or.inl ⟨by rfl, ?hy2x40⟩) (by assumption) ?rest2x40
  case hy2x40 => (intro w hSw; (try dsimp only at hSw); go_simp; try with_reducible rfl)
  (try simp only [Act.put, List.getElem_toArray, List.getElem_cons_zero, List.getElem_cons_succ, List.setIfInBounds_toArray, List.set_cons_zero, List.set_cons_succ])
  refine wpAnyH_take (i := 3) (v := ?va3x41) rfl (by kernel_rfl) (by kernel_rfl) (by kernel_rfl) (fun _ _ _ h => h) (Or.inl ⟨by rfl, ?hy3x41⟩) (by assumption) ?rest3x41
  case hy3x41 => (intro w hSw; (try dsimp only at hSw); go_simp; try with_reducible rfl)
  (try simp only [Act.put, List.getElem_toArray, List.getElem_cons_zero, List.getElem_cons_succ, List.setIfInBounds_toArray, List.set_cons_zero, List.set_cons_succ])
  refine wpAnyH_take (i := 4) (v := ?va4x42) rfl (by kernel_rfl) (by kernel_rfl) (by kernel_rfl) (fun _ _ _ h => h) (Or.inl ⟨by rfl, ?hy4x42⟩) (by assumption) ?rest4x42
  case hy4x42 => (intro w hSw; (try dsimp only at hSw); go_simp; try with_reducible rfl)
  (try simp only [Act.put, List.getElem_toArray, List.getElem_cons_zero, List.getElem_cons_succ, List.setIfInBounds_toArray, List.set_cons_zero, List.set_cons_succ])
  refine wpAnyH_take (i := 5) (v := ?va5x43) rfl (by kernel_rfl) (by kernel_rfl) (by kernel_rfl) (fun _ _ _ h => h) (Or.inl ⟨by rfl, ?hy5x43⟩) (by assumption) ?rest5x43
  case hy5x43 => (intro w hSw; (try dsimp only at hSw); go_simp; try with_reducible rfl)
  (try simp only [Act.put, List.getElem_toArray, List.getElem_cons_zero, List.getElem_cons_succ, List.setIfInBounds_toArray, List.set_cons_zero, List.set_cons_succ])
  refine wpAnyH_take (i := 6) (v := ?va6x44) rfl (by kernel_rfl) (by kernel_rfl) (by kernel_rfl) (fun _ _ _ h => h) (Or.inl ⟨by rfl, ?hy6x44⟩) (by assumption) ?rest6x44
  case hy6x44 => (intro w hSw; (try dsimp only at hSw); go_simp; try with_reducible rfl)
  (try simp only [Act.put, List.getElem_toArray, List.getElem_cons_zero, List.getElem_cons_succ, List.setIfInBounds_toArray, List.set_cons_zero, List.set_cons_succ])
  refine wpAnyH_take (i := 7) (v := ?va7x45) rfl (by kernel_rfl) (by kernel_rfl) (by kernel_rfl) (fun _ _ _ h => h) (Or.inl ⟨by rfl, ?hy7x45⟩) (by assumption) ?rest7x45
  case hy7x45 => (intro w hSw; (try dsimp only at hSw); go_simp; try with_reducible rfl)
  (try simp only [Act.put, List.getElem_toArray, List.getElem_cons_zero, List.getElem_cons_succ, List.setIfInBounds_toArray, List.set_cons_zero, List.set_cons_succ])
  refine wpAnyH_take (i := 8) (v := ?va8x46) rfl (by kernel_rfl) (by kernel_rfl) (by kernel_rfl) (fun _ _ _ h => h) (Or.inl ⟨by rfl, ?hy8x46⟩) (by assumption) ?rest8x46
  case hy8x46 => (intro w hSw; (try dsimp only at hSw); go_simp; try with_reducible rfl)
  (try simp only [Act.put, List.getElem_toArray, List.getElem_cons_zero, List.getElem_cons_succ, List.setIfInBounds_toArray, List.set_cons_zero, List.set_cons_succ])
  refine wpAnyH_take (i := 9) (v := ?va9x47) rfl (by kernel_rfl) (by kernel_rfl) (by kernel_rfl) (fun _ _ _ h => h) (Or.inl ⟨by rfl, ?hy9x47⟩) (by assumption) ?rest9x47
  case hy9x47 => (intro w hSw; (try dsimp only at hSw); go_simp; try with_reducible rfl)
  (try simp only [Act.put, List.getElem_toArray, List.getElem_cons_zero, List.getElem_cons_succ, List.setIfInBounds_toArray, List.set_cons_zero, List.set_cons_succ])
  refine wpAnyH_take (i := 10) (v := ?va10x48) rfl (by kernel_rfl) (by kernel_rfl) (by kernel_rfl) (fun _ _ _ h => h) (Or.inl ⟨by rfl, ?hy10x48⟩) (by assumption) ?rest10x48
  case hy10x48 => (intro w hSw; (try dsimp only at hSw); go_simp; try with_reducible rfl)
  (try simp only [Act.put, List.getElem_toArray, List.getElem_cons_zero, List.getElem_cons_succ, List.setIfInBounds_toArray, List.set_cons_zero, List.set_cons_succ])
  refine wpAnyH_take (i := 11) (v := ?va11x49) rfl (by kernel_rfl) (by kernel_rfl) (by kernel_rfl) (fun _ _ _ h => h) (Or.inl ⟨by rfl, ?hy11x49⟩) (by assumption) ?rest11x49
  case hy11x49 => (intro w hSw; (try dsimp only at hSw); go_simp; try with_reducible rfl)
  (try simp only [Act.put, List.getElem_toArray, List.getElem_cons_zero, List.getElem_cons_succ, List.setIfInBounds_toArray, List.set_cons_zero, List.set_cons_succ])
  refine wpAnyH_take (i := 12) (v := ?va12x50) rfl (by kernel_rfl) (by kernel_rfl) (by kernel_rfl) (fun _ _ _ h => h) (Or.inl ⟨by rfl, ?hy12x50⟩) (by assumption) ?rest12x50
  case hy12x50 => (intro w hSw; (try dsimp only at hSw); go_simp; try with_reducible rfl)
  (try simp only [Act.put, List.getElem_toArray, List.getElem_cons_zero, List.getElem_cons_succ, List.setIfInBounds_toArray, List.set_cons_zero, List.set_cons_succ])
  refine wpAnyH_ready (rs := [13]) (by kernel_rfl) (by simp) ?_
  refine AllReadyH.cons rfl (fun K hK => ?_) AllReadyH.nil
  clear hHeld
  obtain ⟨x1, hx1⟩ : ∃ x, x = x0.alloc (.cells #[.int .i64 z] 3) := ⟨_, rfl⟩
  have hb1 : Below x0.heap.size x0 x1 := by rw [hx1]; exact below1 x0 (.cells #[.int .i64 z] 3)
  have RW4 := Lib.hid (RowW.below RW3.out hb1)
  have RS4 := Lib.hid (Row.below RS3.out hb1)
  have RR4 := Lib.hid (RowW.below RR3.out hb1)
  have CH4 := Lib.hid (CH3.out.then hb1)
  have KP4 := Lib.hid (KP3.out.below hb1)
  have Z4 : Hid (w.heap.size + 3 ≤ (x1).heap.size) := Nat.le_trans Z3.out hb1.size
  have F4 : Hid (FamH x1 lo hi (.slice (some ⟨ga, 0, none⟩) 3 qa) nilV (.slice pc nd qc) us (wh W)) := Fam.below F3.out hb1
  have SR4 : Hid (SrcAt x1 (.slice (some ⟨x0.heap.size, 0, none⟩) 1 1) [.int .i64 z]) := by unfold Hid; rw [hx1]; exact src_oneI x0 _
  go_simp
  rw [← hx1]
  refine hK.out _ _ ⟨RowW.c0 RW4.out, Row.cell RS4.out 1, Row.cell RS4.out 2, by have h := (FamH.cell F4.out (g := ga) (cap := qa) (i := i) (by show _ = Value.slice _ W.r.length _; rw [HL3.out]) HIF.out).1; rw [HPI.out] at h; exact h, by have h : Own _ lo (us i) (row W i) := FamH.row F4.out HIF.out; rw [HPI.out] at h; have h2 := ownCell h HMI.out (Nat.succ_pos ni); rw [HZ.out] at h2; exact h2⟩ (fun hHeld => ?_)
  clear hK K hb1 hx1
  clear RW3 RS3 RR3 CH3 KP3 Z3 F3
  (try simp only [Act.put, List.getElem_toArray, List.getElem_cons_zero, List.getElem_cons_succ, List.setIfInBounds_toArray, List.set_cons_zero, List.set_cons_succ])
  refine wpAnyH_ready (rs := [14]) (by kernel_rfl) (by simp) ?_
  refine AllReadyH.cons rfl (fun K hK => ?_) AllReadyH.nil
  clear hHeld
  obtain ⟨u5, x2, hrun, ho5, hg5, hbl5⟩ := run_appOwn (P := Try.prog) x1 lo 26 26 3 i0 (.int .i64 0) 8 Try.underlying26 hinf hz0 hz1 hz2 rfl (.slice pj m cj) m ((row W j).map (Value.int .i64)) (by have h : Own x1 lo (us j) (row W j) := FamH.row F4.out HJF.out; rw [HPJ.out] at h; unfold Own at h; rw [HMM.out] at h; exact h) _ _ SR4.out (by have := HM.out; simp; unfold maxLen; omega) (by have := HM.out; simp; omega) (by have := HGA.out; have := HH.out; have := Z4.out; omega)
  have hg5' : x1.grownBy x2 (us j).ownBlock := by rw [HPJ.out]; exact hg5
  have O5 : Hid (Own x2 lo u5 (row W j ++ [z])) := by unfold Hid Own; rw [List.length_append, List.map_append, HMM.out]; exact ho5
  have RW5 : Hid (RowW x2 _ _ _ _) := Row.grownBy RW4.out hg5' (fun e => by have := HUB.out _ e; have := HH.out; omega)
  have RS5 := Lib.hid (Row.grownBy RS4.out hg5' (fun e => by have := HUB.out _ e; have := HH.out; omega))
  have RR5 : Hid (RowW x2 _ _ _ _) := Row.grownBy RR4.out hg5' (fun e => by have := HUB.out _ e; have := HH.out; omega)
  have CH5 := Lib.hid (CH4.out.own hg5' HUB.out)
  have KP5 := Lib.hid (KP4.out.grown hg5' (FamH.row F4.out HJF.out) (by decide))
  have Z5 : Hid (w.heap.size + 3 ≤ x2.heap.size) := Nat.le_trans Z4.out hg5'.size
  have MC := FamH.midCell F4.out HJF.out hg5' (g := ga) (cap := qa) (by show _ = Value.slice _ W.r.length _; rw [HL3.out]) HJF.out
  have MI := FamH.midCell F4.out HJF.out hg5' (g := ga) (cap := qa) (by show _ = Value.slice _ W.r.length _; rw [HL3.out]) HIF.out
  have MR := Lib.hid (FamH.midRow F4.out HJF.out HIF.out HNE.out hg5')
  have G5 := Lib.hid hg5'
  have BL5 : Hid (u5.ownBlock = (us j).ownBlock ∨ u5.ownBlock = some x1.heap.size) := by unfold Hid; rw [HPJ.out]; exact hbl5
  have LT5 : Hid (∀ g, u5.ownBlock = some g → g < x2.heap.size) := fun g hg => (owns_lt O5.out hg).2
  have LE4 : Hid (hi ≤ x1.heap.size) := by have := HH.out; have := Z4.out; unfold Hid; omega
  have MI1 := Lib.hid MI.1
  obtain ⟨p5, c5, hu5⟩ := O5.out.ints.shape
  have HJ5 : Hid ((W.r.set j (row W j ++ [z])).length = 3) := by unfold Hid; rw [List.length_set]; exact HL3.out
  generalize hrz : row W j ++ [z] = rz at *
  have HRZ := Lib.hid hrz; clear hrz
  generalize rz.length = m5 at hu5
  subst hu5
  rw [if_pos (by rfl)]
  refine op_app _ _ _ rfl rfl rfl hrun ?_
  refine hK.out _ _ ⟨RowW.c0 RW5.out, Row.cell RS5.out 1, Row.cell RS5.out 2, by have h := MI1.out; rw [HPI.out] at h; exact h, by have h : Own _ lo (us i) (row W i) := MR.out; rw [HPI.out] at h; have h2 := ownCell h HMI.out (Nat.succ_pos ni); rw [HZ.out] at h2; exact h2⟩ (fun hHeld => ?_)
  have cc := MC.1
  have ff := MC.2
  clear hK K hrun ho5 hg5 hbl5 hg5' MC MI MI1 SR4
  clear RW4 RS4 RR4 CH4 KP4 Z4 
  (try simp only [Act.put, List.getElem_toArray, List.getElem_cons_zero, List.getElem_cons_succ, List.setIfInBounds_toArray, List.set_cons_zero, List.set_cons_succ])
  refine wpAnyH_take (i := 15) (v := ?va15x51) rfl (by kernel_rfl) (by kernel_rfl) (by kernel_rfl) (fun _ _ _ h => h) (Or.inl ⟨by rfl, ?hy15x51⟩) (by assumption) ?rest15x51
  case hy15x51 => (intro w hSw; (try dsimp only at hSw); go_simp; try with_reducible rfl)
  (try simp only [Act.put, List.getElem_toArray, List.getElem_cons_zero, List.getElem_cons_succ, List.setIfInBounds_toArray, List.set_cons_zero, List.set_cons_succ])
  refine wpAnyH_ready (rs := [16]) (by kernel_rfl) (by simp) ?_
  refine AllReadyH.cons rfl (fun K hK => ?_) AllReadyH.nil
  clear hHeld
  have RW6 : Hid (RowW (x2.setCell ⟨ga, j, none⟩ (.slice p5 m5 c5)) _ _ _ _) := Row.other RW5.out ⟨ga, j, none⟩ (by show _ ≠ ga; have := HGA.out; have := HH.out; omega) (.slice p5 m5 c5)
  have RS6 := Lib.hid (Row.other RS5.out ⟨ga, j, none⟩ (by show _ ≠ ga; have := HGA.out; have := HH.out; omega) (.slice p5 m5 c5))
  have RR6 : Hid (RowW (x2.setCell ⟨ga, j, none⟩ (.slice p5 m5 c5)) _ _ _ _) := Row.other RR5.out ⟨ga, j, none⟩ (by show _ ≠ ga; have := HGA.out; have := HH.out; omega) (.slice p5 m5 c5)
  have Z6 : Hid (w.heap.size + 3 ≤ (x2.setCell ⟨ga, j, none⟩ (.slice p5 m5 c5)).heap.size) := by unfold Hid; rw [World.size_setCell]; exact Z5.out
  obtain ⟨hF6, hG6⟩ := FamH.turnRow F4.out HJF.out G5.out O5.out (hi' := x2.heap.size) (Nat.le_trans LE4.out G5.out.size) (fun g hg => by rcases BL5.out with h | h; exact .inr (by rw [← h]; exact hg); exact .inl ⟨by rw [h] at hg; cases hg; exact LE4.out, LT5.out g hg⟩) (g := ga) (cap := qa) (by show _ = Value.slice _ W.r.length _; rw [HL3.out])
  have F6 : Hid (FamH (x2.setCell ⟨ga, j, none⟩ (.slice p5 m5 c5)) lo x2.heap.size (.slice (some ⟨ga, 0, none⟩) 3 qa) nilV (.slice pc nd qc) (upd us j (.slice p5 m5 c5)) ⟨W.r.set j rz, [], W.d⟩) := hF6
  have CH6 := Lib.hid (CH5.out.own hG6 (fun g hg => by cases hg; exact HGA.out))
  have KP6 := Lib.hid (KP5.out.cell (FamH.midOuter F4.out HJF.out G5.out) (g0 := ga) rfl (by decide) j (.slice p5 m5 c5))
  have C6 : Hid ((x2.setCell ⟨ga, j, none⟩ (.slice p5 m5 c5)).cell? ⟨ga, i, none⟩ = some (us i)) := (by have h := (FamH.cell F6.out (g := ga) (cap := qa) (i := i) (by show _ = Value.slice _ (W.r.set j rz).length _; rw [HJ5.out]) (by show i < (W.r.set j rz).length; rw [List.length_set]; exact HIF.out)).1; rw [upd_other _ _ HNE.out] at h; exact h)
  have R6 : Hid (Own (x2.setCell ⟨ga, j, none⟩ (.slice p5 m5 c5)) lo (us i) (row W i)) := (by have h := FamH.row F6.out (i := i) (by show i < (W.r.set j rz).length; rw [List.length_set]; exact HIF.out); rw [upd_other _ _ HNE.out] at h; have e : (W.r.set j rz).getD i [] = row W i := (by rw [getD_setL HJF.out, if_neg HNE.out]; rfl); rw [show (⟨W.r.set j rz, [], W.d⟩ : H).f = W.r.set j rz from rfl, e] at h; exact h)
  clear hF6 hG6
  go_simp
  refine hK.out _ _ ⟨RowW.c0 RW6.out, Row.cell RS6.out 1, Row.cell RS6.out 2, by have h := C6.out; rw [HPI.out] at h; exact h, by have h : Own _ lo (us i) (row W i) := R6.out; rw [HPI.out] at h; have h2 := ownCell h HMI.out (Nat.succ_pos ni); rw [HZ.out] at h2; exact h2⟩ (fun hHeld => ?_)
  clear hK K C6 R6
  (try simp only [Act.put, List.getElem_toArray, List.getElem_cons_zero, List.getElem_cons_succ, List.setIfInBounds_toArray, List.set_cons_zero, List.set_cons_succ])
  refine wpAnyH_done (by kernel_rfl) ?_ _
  have E6 : Hid (x2.heap.size ≤ (x2.setCell ⟨ga, j, none⟩ (.slice p5 m5 c5)).heap.size) := by unfold Hid; rw [World.size_setCell]; exact Nat.le_refl _
  have E7 : Hid (hi ≤ x2.heap.size) := Nat.le_trans LE4.out G5.out.size
  clear hHeld cc ff F4 G5 O5 BL5 LT5 MR LE4
  clear RW5 RS5 RR5 CH5 KP5 Z5 
  generalize x2.setCell ⟨ga, j, none⟩ (.slice p5 m5 c5) = x3 at *
  generalize x2.heap.size = hx at *
  by_cases hc1 : ci = 1
  · subst hc1
    obtain rfl : ni = 0 := by have := HCAP.out; omega
    go_upto_region 13 with fail
    have hbd := below_drew (Below.refl x3.heap.size x3)
    have RW7 := Lib.hid (RowW.below RW6.out hbd)
    have RS7 := Lib.hid (Row.below RS6.out hbd)
    have RR7 := Lib.hid (RowW.below RR6.out hbd)
    have CH7 := Lib.hid (CH6.out.then hbd)
    have KP7 := Lib.hid (KP6.out.below hbd)
    have Z7 : Hid (w.heap.size + 3 ≤ (x3.drew).heap.size) := Nat.le_trans Z6.out hbd.size
    have F7 : Hid (FamH x3.drew lo hx (.slice (some ⟨ga, 0, none⟩) 3 qa) nilV (.slice pc nd qc) (upd us j (.slice p5 m5 c5)) ⟨W.r.set j rz, [], W.d⟩) := Fam.below F6.out hbd
    have E8 : Hid (hx ≤ x3.drew.heap.size) := E6
    clear RW6 RS6 RR6 CH6 KP6 Z6 F6 E6 hbd
    refine wp_region_held_drew (S := (fun w' => w'.cell? ⟨w.heap.size, 0, none⟩ = some (.slice (some ⟨ga, 0, none⟩) 3 qa) ∧ w'.cell? ⟨w.heap.size + 1, 2, none⟩ = some (.int .i64 (i : Int)))) (by kernel_rfl) (⟨RowW.c0 RW7.out, Row.cell RS7.out 2⟩) (fun hHeld => ?_)
    generalize x3.drew = x4 at *
    refine wpAnyH_take (i := 0) (v := ?va0x52) rfl (by kernel_rfl) (by kernel_rfl) (by kernel_rfl) (fun _ _ _ h => h) (Or.inl ⟨by rfl, ?hy0x52⟩) (by assumption) ?rest0x52
    case hy0x52 => (intro w hSw; (try dsimp only at hSw); go_simp; try with_reducible rfl)
    (try simp only [Act.put, List.getElem_toArray, List.getElem_cons_zero, List.setIfInBounds_toArray, List.set_cons_zero, List.set_cons_succ])
    refine wpAnyH_take (i := 1) (v := ?va1x53) rfl (by kernel_rfl) (by kernel_rfl) (by kernel_rfl) (fun _ _ _ h => h) (Or.inl ⟨by rfl, ?hy1x53⟩) (by assumption) ?rest1x53
    case hy1x53 => (intro w hSw; (try dsimp only at hSw); go_simp; try with_reducible rfl)
    (try simp only [Act.put, List.getElem_toArray, List.getElem_cons_zero, List.getElem_cons_succ, List.setIfInBounds_toArray, List.set_cons_zero, List.set_cons_succ])
    refine wpAnyH_take (i := 2) (v := ?va2x54) rfl (by kernel_rfl) (by kernel_rfl) (by kernel_rfl) (fun _ _ _ h => h) (Or.inl ⟨by rfl, ?hy2x54⟩) (by assumption) ?rest2x54
    case hy2x54 => (intro w hSw; (try dsimp only at hSw); go_simp; try with_reducible rfl)
    (try simp only [Act.put, List.getElem_toArray, List.getElem_cons_zero, List.getElem_cons_succ, List.setIfInBounds_toArray, List.set_cons_zero, List.set_cons_succ])
    refine wpAnyH_take (i := 3) (v := ?va3x55) rfl (by kernel_rfl) (by kernel_rfl) (by kernel_rfl) (fun _ _ _ h => h) (Or.inl ⟨by rfl, ?hy3x55⟩) (by assumption) ?rest3x55
    case hy3x55 => (intro w hSw; (try dsimp only at hSw); go_simp; try with_reducible rfl)
    (try simp only [Act.put, List.getElem_toArray, List.getElem_cons_zero, List.getElem_cons_succ, List.setIfInBounds_toArray, List.set_cons_zero, List.set_cons_succ])
    refine wpAnyH_take (i := 5) (v := ?va5x56) rfl (by kernel_rfl) (by kernel_rfl) (by kernel_rfl) (fun _ _ _ h => h) (Or.inl ⟨by rfl, ?hy5x56⟩) (by assumption) ?rest5x56
    case hy5x56 => (intro w hSw; (try dsimp only at hSw); go_simp; try with_reducible rfl)
    (try simp only [Act.put, List.getElem_toArray, List.getElem_cons_zero, List.getElem_cons_succ, List.setIfInBounds_toArray, List.set_cons_zero, List.set_cons_succ])
    refine wpAnyH_take (i := 6) (v := ?va6x57) rfl (by kernel_rfl) (by kernel_rfl) (by kernel_rfl) (fun _ _ _ h => h) (Or.inl ⟨by rfl, ?hy6x57⟩) (by assumption) ?rest6x57
    case hy6x57 => (intro w hSw; (try dsimp only at hSw); go_simp; try with_reducible rfl)
    (try simp only [Act.put, List.getElem_toArray, List.getElem_cons_zero, List.getElem_cons_succ, List.setIfInBounds_toArray, List.set_cons_zero, List.set_cons_succ])
    refine wpAnyH_take (i := 7) (v := ?va7x58) rfl (by kernel_rfl) (by kernel_rfl) (by kernel_rfl) (fun _ _ _ h => h) (Or.inl ⟨by rfl, ?hy7x58⟩) (by assumption) ?rest7x58
    case hy7x58 => (intro w hSw; (try dsimp only at hSw); go_simp; try with_reducible rfl)
    (try simp only [Act.put, List.getElem_toArray, List.getElem_cons_zero, List.getElem_cons_succ, List.setIfInBounds_toArray, List.set_cons_zero, List.set_cons_succ])
    refine wpAnyH_take (i := 8) (v := ?va8x59) rfl (by kernel_rfl) (by kernel_rfl) (by kernel_rfl) (fun _ _ _ h => h) (Or.inl ⟨by rfl, ?hy8x59⟩) (by assumption) ?rest8x59
    case hy8x59 => (intro w hSw; (try dsimp only at hSw); go_simp; try with_reducible rfl)
    (try simp only [Act.put, List.getElem_toArray, List.getElem_cons_zero, List.getElem_cons_succ, List.setIfInBounds_toArray, List.set_cons_zero, List.set_cons_succ])
    refine wpAnyH_take (i := 9) (v := ?va9x60) rfl (by kernel_rfl) (by kernel_rfl) (by kernel_rfl) (fun _ _ _ h => h) (Or.inl ⟨by rfl, ?hy9x60⟩) (by assumption) ?rest9x60
    case hy9x60 => (intro w hSw; (try dsimp only at hSw); go_simp; try with_reducible rfl)
    (try simp only [Act.put, List.getElem_toArray, List.getElem_cons_zero, List.getElem_cons_succ, List.setIfInBounds_toArray, List.set_cons_zero, List.set_cons_succ])
    have C7 : x4.cell? ⟨ga, i, none⟩ = some (us i) := (by have h := (FamH.cell F7.out (g := ga) (cap := qa) (i := i) (by show _ = Value.slice _ (W.r.set j rz).length _; rw [HJ5.out]) (by show i < (W.r.set j rz).length; rw [List.length_set]; exact HIF.out)).1; rw [upd_other _ _ HNE.out] at h; exact h)
    rw [HPI.out] at C7
    refine wpAnyH_ready (rs := [4, 10]) (by kernel_rfl) (by simp) ?_
    refine AllReadyH.cons rfl (fun K hK => ?_) (AllReadyH.cons rfl (fun K hK => ?_) AllReadyH.nil)
    · clear hHeld
      obtain ⟨x5, hx5⟩ : ∃ x, x = x4.alloc (.cells #[] 3) := ⟨_, rfl⟩
      have hb5 : Below x4.heap.size x4 x5 := by rw [hx5]; exact below1 x4 (.cells #[] 3)
      have RW8 := Lib.hid (RowW.below RW7.out hb5)
      have RS8 := Lib.hid (Row.below RS7.out hb5)
      have RR8 := Lib.hid (RowW.below RR7.out hb5)
      have CH8 := Lib.hid (CH7.out.then hb5)
      have KP8 := Lib.hid (KP7.out.below hb5)
      have Z8 : Hid (w.heap.size + 3 ≤ (x5).heap.size) := Nat.le_trans Z7.out hb5.size
      have F8 : Hid (FamH x5 lo hx (.slice (some ⟨ga, 0, none⟩) 3 qa) nilV (.slice pc nd qc) (upd us j (.slice p5 m5 c5)) ⟨W.r.set j rz, [], W.d⟩) := Fam.below F7.out hb5
      have EM8 : Hid (x5.ownsRow lo 3 1 (.slice (some ⟨x4.heap.size, 0, none⟩) 0 0) 0 []) := by unfold Hid; rw [hx5]; exact own_emptyLo x4 3 (by have := HGA.out; have := HH.out; have := Z7.out; omega)
      have GE8 : Hid (hx ≤ x4.heap.size ∧ w.heap.size + 3 ≤ x4.heap.size ∧ x4.heap.size ≤ x5.heap.size) := ⟨E8.out, Z7.out, hb5.size⟩
      go_simp
      rw [← hx5]
      refine hK.out _ _ ⟨RowW.c0 RW8.out, Row.cell RS8.out 2⟩ (fun hHeld => ?_)
      clear hK K hb5 hx5
      (try simp only [Act.put, List.getElem_toArray, List.getElem_cons_zero, List.getElem_cons_succ, List.setIfInBounds_toArray, List.set_cons_zero, List.set_cons_succ])
      clear RW7 RS7 RR7 CH7 KP7 Z7 F7
      have C8 : x5.cell? ⟨ga, i, none⟩ = some (us i) := (by have h := (FamH.cell F8.out (g := ga) (cap := qa) (i := i) (by show _ = Value.slice _ (W.r.set j rz).length _; rw [HJ5.out]) (by show i < (W.r.set j rz).length; rw [List.length_set]; exact HIF.out)).1; rw [upd_other _ _ HNE.out] at h; exact h)
      rw [HPI.out] at C8
      refine wpAnyH_ready (rs := [10]) (by kernel_rfl) (by simp) ?_
      refine AllReadyH.cons rfl (fun K hK => ?_) AllReadyH.nil
      clear hHeld
      go_simp
      refine hK.out _ _ ⟨RowW.c0 RW8.out, Row.cell RS8.out 2⟩ (fun hHeld => ?_)
      clear hK K
      (try simp only [Act.put, List.getElem_toArray, List.getElem_cons_zero, List.getElem_cons_succ, List.setIfInBounds_toArray, List.set_cons_zero, List.set_cons_succ])
      refine wpAnyH_take (i := 11) (v := ?va11x61) rfl (by kernel_rfl) (by kernel_rfl) (by kernel_rfl) (fun _ _ _ h => h) (Or.inl ⟨by rfl, ?hy11x61⟩) (by assumption) ?rest11x61
      case hy11x61 => (intro w hSw; (try dsimp only at hSw); go_simp; try with_reducible rfl)
      (try simp only [Act.put, List.getElem_toArray, List.getElem_cons_zero, List.getElem_cons_succ, List.setIfInBounds_toArray, List.set_cons_zero, List.set_cons_succ])
      clear C8
      have R8 : Hid (Own x5 lo (us i) (row W i)) := (by have h := FamH.row F8.out (i := i) (by show i < (W.r.set j rz).length; rw [List.length_set]; exact HIF.out); rw [upd_other _ _ HNE.out] at h; have e : (W.r.set j rz).getD i [] = row W i := (by rw [getD_setL HJF.out, if_neg HNE.out]; rfl); rw [show (⟨W.r.set j rz, [], W.d⟩ : H).f = W.r.set j rz from rfl, e] at h; exact h)
      have SR8 : Hid (SrcAt x5 (.slice (some ⟨gi, 0, none⟩) 0 0) (((row W i).drop 1).map (Value.int .i64))) := by have h := R8.out; rw [HPI.out] at h; exact IntsAt.src (And.left (cutFirst0 HMI.out rfl))
      refine wpAnyH_ready (rs := [12]) (by kernel_rfl) (by simp) ?_
      refine AllReadyH.cons rfl (fun K hK => ?_) AllReadyH.nil
      clear hHeld
      obtain ⟨u9, x6, hrun, ho9, hg9, hbl9⟩ := run_appOwn (P := Try.prog) x5 lo 26 26 3 i0 (.int .i64 0) 8 Try.underlying26 hinf hz0 hz1 hz2 rfl (.slice (some ⟨x4.heap.size, 0, none⟩) 0 0) 0 [] EM8.out _ _ SR8.out (by have := HM2.out; have := HMI.out; rw [List.length_map, List.length_drop, HMI.out]; unfold maxLen; omega) (by have := HM2.out; rw [List.length_map, List.length_drop, HMI.out]; omega) (by have := HGA.out; have := HH.out; have := Z8.out; omega)
      have O9 : Hid (Own x6 lo u9 ((row W i).drop 1)) := by have h := ho9; rw [Nat.zero_add, List.nil_append, List.length_map] at h; exact h
      have NB : ∀ g, (Value.slice (some ⟨x4.heap.size, 0, none⟩) 0 0).ownBlock = some g → g = x4.heap.size := fun g h => by cases h; rfl
      have RW9 : Hid (RowW x6 _ _ _ _) := Row.grownBy RW8.out hg9 (fun e => by have := NB _ e; have := GE8.out; omega)
      have RS9 := Lib.hid (Row.grownBy RS8.out hg9 (fun e => by have := NB _ e; have := GE8.out; omega))
      have RR9 : Hid (RowW x6 _ _ _ _) := Row.grownBy RR8.out hg9 (fun e => by have := NB _ e; have := GE8.out; omega)
      have KP9 := Lib.hid (KP8.out.grown hg9 EM8.out (by decide))
      have CH9 := Lib.hid (CH8.out.grow hg9 (fun g h => .inr (by have := NB _ h; have := GE8.out; omega)))
      have Z9 : Hid (w.heap.size + 3 ≤ x6.heap.size) := Nat.le_trans Z8.out hg9.size
      have F9 : Hid (FamH x6 lo hx (.slice (some ⟨ga, 0, none⟩) 3 qa) nilV (.slice pc nd qc) (upd us j (.slice p5 m5 c5)) ⟨W.r.set j rz, [], W.d⟩) := FamH.keepBy F8.out fun q h1 h2 => hg9.block q h2 (fun e => by have := NB _ e.symm; have := GE8.out; omega)
      have BL9 : Hid (∀ g, u9.ownBlock = some g → hx ≤ g ∧ g < x6.heap.size) := fun g hg => ⟨by rcases hbl9 with h | h; (rw [hg] at h; have := NB _ h.symm; have := GE8.out; omega); (rw [hg] at h; cases h; have := GE8.out; omega), (owns_lt O9.out hg).2⟩
      have E9 : Hid (hx ≤ x6.heap.size) := by have := GE8.out; have := hg9.size; unfold Hid; omega
      obtain ⟨p9, c9, hu9⟩ := O9.out.ints.shape
      generalize ((row W i).drop 1).length = m9 at hu9
      subst hu9
      rw [if_pos (by rfl)]
      refine op_app _ _ _ rfl rfl rfl hrun ?_
      refine hK.out _ _ ⟨RowW.c0 RW9.out, Row.cell RS9.out 2⟩ (fun hHeld => ?_)
      clear hK K hrun ho9 hg9 hbl9 SR8 EM8 NB R8 F8 C7
      clear RW8 RS8 RR8 CH8 KP8 Z8 
      (try simp only [Act.put, List.getElem_toArray, List.getElem_cons_zero, List.getElem_cons_succ, List.setIfInBounds_toArray, List.set_cons_zero, List.set_cons_succ])
      refine wpAnyH_take (i := 13) (v := ?va13x62) rfl (by kernel_rfl) (by kernel_rfl) (by kernel_rfl) (fun _ _ _ h => h) (Or.inl ⟨by rfl, ?hy13x62⟩) (by assumption) ?rest13x62
      case hy13x62 => (intro w hSw; (try dsimp only at hSw); go_simp; try with_reducible rfl)
      (try simp only [Act.put, List.getElem_toArray, List.getElem_cons_zero, List.getElem_cons_succ, List.setIfInBounds_toArray, List.set_cons_zero, List.set_cons_succ])
      obtain ⟨cc, ff⟩ := FamH.cell F9.out (g := ga) (cap := qa) (i := i) (by show _ = Value.slice _ (W.r.set j rz).length _; rw [HJ5.out]) (by show i < (W.r.set j rz).length; rw [List.length_set]; exact HIF.out)
      refine wpAnyH_ready (rs := [14]) (by kernel_rfl) (by simp) ?_
      refine AllReadyH.cons rfl (fun K hK => ?_) AllReadyH.nil
      clear hHeld
      have RW10 : Hid (RowW (x6.setCell ⟨ga, i, none⟩ (.slice p9 m9 c9)) _ _ _ _) := Row.other RW9.out ⟨ga, i, none⟩ (by show _ ≠ ga; have := HGA.out; have := HH.out; omega) (.slice p9 m9 c9)
      have RS10 := Lib.hid (Row.other RS9.out ⟨ga, i, none⟩ (by show _ ≠ ga; have := HGA.out; have := HH.out; omega) (.slice p9 m9 c9))
      have RR10 : Hid (RowW (x6.setCell ⟨ga, i, none⟩ (.slice p9 m9 c9)) _ _ _ _) := Row.other RR9.out ⟨ga, i, none⟩ (by show _ ≠ ga; have := HGA.out; have := HH.out; omega) (.slice p9 m9 c9)
      have Z10 : Hid (w.heap.size + 3 ≤ (x6.setCell ⟨ga, i, none⟩ (.slice p9 m9 c9)).heap.size) := by unfold Hid; rw [World.size_setCell]; exact Z9.out
      go_simp
      refine hK.out _ _ ⟨RowW.c0 RW10.out, Row.cell RS10.out 2⟩ (fun hHeld => ?_)
      clear hK K
      (try simp only [Act.put, List.getElem_toArray, List.getElem_cons_zero, List.getElem_cons_succ, List.setIfInBounds_toArray, List.set_cons_zero, List.set_cons_succ])
      refine wpAnyH_done (by kernel_rfl) ?_ _
      clear hHeld cc ff
      obtain ⟨hF10, hG10⟩ := FamH.putRow F9.out (i := i) (by show i < (W.r.set j rz).length; rw [List.length_set]; exact HIF.out) O9.out (hi' := x6.heap.size) E9.out (fun g hg => .inl (BL9.out g hg)) (g := ga) (cap := qa) (by show _ = Value.slice _ (W.r.set j rz).length _; rw [HJ5.out])
      have F10 := Lib.hid hF10
      have CH10 := Lib.hid (CH9.out.own hG10 (fun g hg => by cases hg; exact HGA.out))
      have KP10 := Lib.hid (KP9.out.cell (FamH.outer F9.out) (g0 := ga) rfl (by decide) i (.slice p9 m9 c9))
      have E10 : Hid (x6.heap.size ≤ (x6.setCell ⟨ga, i, none⟩ (.slice p9 m9 c9)).heap.size) := by unfold Hid; rw [World.size_setCell]; exact Nat.le_refl _
      have HPE : Hid (steal W j i = ⟨(W.r.set j rz).set i ((row W i).drop 1), W.n, W.d⟩) := by unfold Hid steal; rw [HZ.out, HRZ.out, List.set_comm _ _ HNE.out]
      clear hF10 hG10 F9 O9 BL9 E9 GE8
      clear RW9 RS9 RR9 CH9 KP9 Z9 
      generalize x6.setCell ⟨ga, i, none⟩ (.slice p9 m9 c9) = x7 at *
      go_wp2_with (first
        | (refine wl_loadW rfl _ rfl w.heap.size (.slice (some ⟨ga, 0, none⟩) 3 qa) W.n (.slice pc nd qc) RW10.out rfl ?_)
        | (refine wl_storeW rfl _ _ rfl (w.heap.size + 1 + 1) (.slice (some ⟨ga, 0, none⟩) 3 qa) W.n (.slice pc nd qc) nilV 0 nilV RR10.out rfl rfl rfl rfl ?_))
      refine bodyPost_ret (res_row_slot Try.results55 (Row.put RR10.out (w3 (.slice (some ⟨ga, 0, none⟩) 3 qa) W.n (.slice pc nd qc))) rfl rfl Try.underlying28 rfl info_work) rfl ?_
      refine ⟨(.slice pc nd qc), by rw [HEN.out, stp_yes HEN.out, HACT.out]; rfl, ?_, CH10.out.newRow (w.heap.size + 1 + 1) (by omega) _, KP10.out.newRow (w.heap.size + 1 + 1) (by omega) _, fun h => by rw [HEN.out] at h; cases h⟩
      rw [stp_yes HEN.out, HACT.out]
      have OW : OwnW _ lo _ (.slice (some ⟨ga, 0, none⟩) 3 qa) (.slice pc nd qc) (steal W j i) := OwnW.wholeRow (W := steal W j i) ⟨upd (upd us j (.slice p5 m5 c5)) i (.slice p9 m9 c9), (by rw [HPE.out]; exact F10.out)⟩ RR10.out (w3 (.slice (some ⟨ga, 0, none⟩) 3 qa) W.n (.slice pc nd qc))
      exact OW.wide (Nat.le_refl _) (by rw [size_setRow]; exact E10.out)
    · clear hHeld
      go_simp
      refine hK.out _ _ ⟨RowW.c0 RW7.out, Row.cell RS7.out 2⟩ (fun hHeld => ?_)
      clear hK K
      (try simp only [Act.put, List.getElem_toArray, List.getElem_cons_zero, List.getElem_cons_succ, List.setIfInBounds_toArray, List.set_cons_zero, List.set_cons_succ])
      refine wpAnyH_take (i := 11) (v := ?va11x63) rfl (by kernel_rfl) (by kernel_rfl) (by kernel_rfl) (fun _ _ _ h => h) (Or.inl ⟨by rfl, ?hy11x63⟩) (by assumption) ?rest11x63
      case hy11x63 => (intro w hSw; (try dsimp only at hSw); go_simp; try with_reducible rfl)
      (try simp only [Act.put, List.getElem_toArray, List.getElem_cons_zero, List.getElem_cons_succ, List.setIfInBounds_toArray, List.set_cons_zero, List.set_cons_succ])
      refine wpAnyH_ready (rs := [4]) (by kernel_rfl) (by simp) ?_
      refine AllReadyH.cons rfl (fun K hK => ?_) AllReadyH.nil
      clear hHeld
      obtain ⟨x5, hx5⟩ : ∃ x, x = x4.alloc (.cells #[] 3) := ⟨_, rfl⟩
      have hb5 : Below x4.heap.size x4 x5 := by rw [hx5]; exact below1 x4 (.cells #[] 3)
      have RW8 := Lib.hid (RowW.below RW7.out hb5)
      have RS8 := Lib.hid (Row.below RS7.out hb5)
      have RR8 := Lib.hid (RowW.below RR7.out hb5)
      have CH8 := Lib.hid (CH7.out.then hb5)
      have KP8 := Lib.hid (KP7.out.below hb5)
      have Z8 : Hid (w.heap.size + 3 ≤ (x5).heap.size) := Nat.le_trans Z7.out hb5.size
      have F8 : Hid (FamH x5 lo hx (.slice (some ⟨ga, 0, none⟩) 3 qa) nilV (.slice pc nd qc) (upd us j (.slice p5 m5 c5)) ⟨W.r.set j rz, [], W.d⟩) := Fam.below F7.out hb5
      have EM8 : Hid (x5.ownsRow lo 3 1 (.slice (some ⟨x4.heap.size, 0, none⟩) 0 0) 0 []) := by unfold Hid; rw [hx5]; exact own_emptyLo x4 3 (by have := HGA.out; have := HH.out; have := Z7.out; omega)
      have GE8 : Hid (hx ≤ x4.heap.size ∧ w.heap.size + 3 ≤ x4.heap.size ∧ x4.heap.size ≤ x5.heap.size) := ⟨E8.out, Z7.out, hb5.size⟩
      go_simp
      rw [← hx5]
      refine hK.out _ _ ⟨RowW.c0 RW8.out, Row.cell RS8.out 2⟩ (fun hHeld => ?_)
      clear hK K hb5 hx5
      (try simp only [Act.put, List.getElem_toArray, List.getElem_cons_zero, List.getElem_cons_succ, List.setIfInBounds_toArray, List.set_cons_zero, List.set_cons_succ])
      clear RW7 RS7 RR7 CH7 KP7 Z7 F7
      have R8 : Hid (Own x5 lo (us i) (row W i)) := (by have h := FamH.row F8.out (i := i) (by show i < (W.r.set j rz).length; rw [List.length_set]; exact HIF.out); rw [upd_other _ _ HNE.out] at h; have e : (W.r.set j rz).getD i [] = row W i := (by rw [getD_setL HJF.out, if_neg HNE.out]; rfl); rw [show (⟨W.r.set j rz, [], W.d⟩ : H).f = W.r.set j rz from rfl, e] at h; exact h)
      have SR8 : Hid (SrcAt x5 (.slice (some ⟨gi, 0, none⟩) 0 0) (((row W i).drop 1).map (Value.int .i64))) := by have h := R8.out; rw [HPI.out] at h; exact IntsAt.src (And.left (cutFirst0 HMI.out rfl))
      refine wpAnyH_ready (rs := [12]) (by kernel_rfl) (by simp) ?_
      refine AllReadyH.cons rfl (fun K hK => ?_) AllReadyH.nil
      clear hHeld
      obtain ⟨u9, x6, hrun, ho9, hg9, hbl9⟩ := run_appOwn (P := Try.prog) x5 lo 26 26 3 i0 (.int .i64 0) 8 Try.underlying26 hinf hz0 hz1 hz2 rfl (.slice (some ⟨x4.heap.size, 0, none⟩) 0 0) 0 [] EM8.out _ _ SR8.out (by have := HM2.out; have := HMI.out; rw [List.length_map, List.length_drop, HMI.out]; unfold maxLen; omega) (by have := HM2.out; rw [List.length_map, List.length_drop, HMI.out]; omega) (by have := HGA.out; have := HH.out; have := Z8.out; omega)
      have O9 : Hid (Own x6 lo u9 ((row W i).drop 1)) := by have h := ho9; rw [Nat.zero_add, List.nil_append, List.length_map] at h; exact h
      have NB : ∀ g, (Value.slice (some ⟨x4.heap.size, 0, none⟩) 0 0).ownBlock = some g → g = x4.heap.size := fun g h => by cases h; rfl
      have RW9 : Hid (RowW x6 _ _ _ _) := Row.grownBy RW8.out hg9 (fun e => by have := NB _ e; have := GE8.out; omega)
      have RS9 := Lib.hid (Row.grownBy RS8.out hg9 (fun e => by have := NB _ e; have := GE8.out; omega))
      have RR9 : Hid (RowW x6 _ _ _ _) := Row.grownBy RR8.out hg9 (fun e => by have := NB _ e; have := GE8.out; omega)
      have KP9 := Lib.hid (KP8.out.grown hg9 EM8.out (by decide))
      have CH9 := Lib.hid (CH8.out.grow hg9 (fun g h => .inr (by have := NB _ h; have := GE8.out; omega)))
      have Z9 : Hid (w.heap.size + 3 ≤ x6.heap.size) := Nat.le_trans Z8.out hg9.size
      have F9 : Hid (FamH x6 lo hx (.slice (some ⟨ga, 0, none⟩) 3 qa) nilV (.slice pc nd qc) (upd us j (.slice p5 m5 c5)) ⟨W.r.set j rz, [], W.d⟩) := FamH.keepBy F8.out fun q h1 h2 => hg9.block q h2 (fun e => by have := NB _ e.symm; have := GE8.out; omega)
      have BL9 : Hid (∀ g, u9.ownBlock = some g → hx ≤ g ∧ g < x6.heap.size) := fun g hg => ⟨by rcases hbl9 with h | h; (rw [hg] at h; have := NB _ h.symm; have := GE8.out; omega); (rw [hg] at h; cases h; have := GE8.out; omega), (owns_lt O9.out hg).2⟩
      have E9 : Hid (hx ≤ x6.heap.size) := by have := GE8.out; have := hg9.size; unfold Hid; omega
      obtain ⟨p9, c9, hu9⟩ := O9.out.ints.shape
      generalize ((row W i).drop 1).length = m9 at hu9
      subst hu9
      rw [if_pos (by rfl)]
      refine op_app _ _ _ rfl rfl rfl hrun ?_
      refine hK.out _ _ ⟨RowW.c0 RW9.out, Row.cell RS9.out 2⟩ (fun hHeld => ?_)
      clear hK K hrun ho9 hg9 hbl9 SR8 EM8 NB R8 F8 C7
      clear RW8 RS8 RR8 CH8 KP8 Z8 
      (try simp only [Act.put, List.getElem_toArray, List.getElem_cons_zero, List.getElem_cons_succ, List.setIfInBounds_toArray, List.set_cons_zero, List.set_cons_succ])
      refine wpAnyH_take (i := 13) (v := ?va13x64) rfl (by kernel_rfl) (by kernel_rfl) (by kernel_rfl) (fun _ _ _ h => h) (Or.inl ⟨by rfl, ?hy13x64⟩) (by assumption) ?rest13x64
      case hy13x64 => (intro w hSw; (try dsimp only at hSw); go_simp; try with_reducible rfl)
      (try simp only [Act.put, List.getElem_toArray, List.getElem_cons_zero, List.getElem_cons_succ, List.setIfInBounds_toArray, List.set_cons_zero, List.set_cons_succ])
      obtain ⟨cc, ff⟩ := FamH.cell F9.out (g := ga) (cap := qa) (i := i) (by show _ = Value.slice _ (W.r.set j rz).length _; rw [HJ5.out]) (by show i < (W.r.set j rz).length; rw [List.length_set]; exact HIF.out)
      refine wpAnyH_ready (rs := [14]) (by kernel_rfl) (by simp) ?_
      refine AllReadyH.cons rfl (fun K hK => ?_) AllReadyH.nil
      clear hHeld
      have RW10 : Hid (RowW (x6.setCell ⟨ga, i, none⟩ (.slice p9 m9 c9)) _ _ _ _) := Row.other RW9.out ⟨ga, i, none⟩ (by show _ ≠ ga; have := HGA.out; have := HH.out; omega) (.slice p9 m9 c9)
      have RS10 := Lib.hid (Row.other RS9.out ⟨ga, i, none⟩ (by show _ ≠ ga; have := HGA.out; have := HH.out; omega) (.slice p9 m9 c9))
      have RR10 : Hid (RowW (x6.setCell ⟨ga, i, none⟩ (.slice p9 m9 c9)) _ _ _ _) := Row.other RR9.out ⟨ga, i, none⟩ (by show _ ≠ ga; have := HGA.out; have := HH.out; omega) (.slice p9 m9 c9)
      have Z10 : Hid (w.heap.size + 3 ≤ (x6.setCell ⟨ga, i, none⟩ (.slice p9 m9 c9)).heap.size) := by unfold Hid; rw [World.size_setCell]; exact Z9.out
      go_simp
      refine hK.out _ _ ⟨RowW.c0 RW10.out, Row.cell RS10.out 2⟩ (fun hHeld => ?_)
      clear hK K
      (try simp only [Act.put, List.getElem_toArray, List.getElem_cons_zero, List.getElem_cons_succ, List.setIfInBounds_toArray, List.set_cons_zero, List.set_cons_succ])
      refine wpAnyH_done (by kernel_rfl) ?_ _
      clear hHeld cc ff
      obtain ⟨hF10, hG10⟩ := FamH.putRow F9.out (i := i) (by show i < (W.r.set j rz).length; rw [List.length_set]; exact HIF.out) O9.out (hi' := x6.heap.size) E9.out (fun g hg => .inl (BL9.out g hg)) (g := ga) (cap := qa) (by show _ = Value.slice _ (W.r.set j rz).length _; rw [HJ5.out])
      have F10 := Lib.hid hF10
      have CH10 := Lib.hid (CH9.out.own hG10 (fun g hg => by cases hg; exact HGA.out))
      have KP10 := Lib.hid (KP9.out.cell (FamH.outer F9.out) (g0 := ga) rfl (by decide) i (.slice p9 m9 c9))
      have E10 : Hid (x6.heap.size ≤ (x6.setCell ⟨ga, i, none⟩ (.slice p9 m9 c9)).heap.size) := by unfold Hid; rw [World.size_setCell]; exact Nat.le_refl _
      have HPE : Hid (steal W j i = ⟨(W.r.set j rz).set i ((row W i).drop 1), W.n, W.d⟩) := by unfold Hid steal; rw [HZ.out, HRZ.out, List.set_comm _ _ HNE.out]
      clear hF10 hG10 F9 O9 BL9 E9 GE8
      clear RW9 RS9 RR9 CH9 KP9 Z9 
      generalize x6.setCell ⟨ga, i, none⟩ (.slice p9 m9 c9) = x7 at *
      go_wp2_with (first
        | (refine wl_loadW rfl _ rfl w.heap.size (.slice (some ⟨ga, 0, none⟩) 3 qa) W.n (.slice pc nd qc) RW10.out rfl ?_)
        | (refine wl_storeW rfl _ _ rfl (w.heap.size + 1 + 1) (.slice (some ⟨ga, 0, none⟩) 3 qa) W.n (.slice pc nd qc) nilV 0 nilV RR10.out rfl rfl rfl rfl ?_))
      refine bodyPost_ret (res_row_slot Try.results55 (Row.put RR10.out (w3 (.slice (some ⟨ga, 0, none⟩) 3 qa) W.n (.slice pc nd qc))) rfl rfl Try.underlying28 rfl info_work) rfl ?_
      refine ⟨(.slice pc nd qc), by rw [HEN.out, stp_yes HEN.out, HACT.out]; rfl, ?_, CH10.out.newRow (w.heap.size + 1 + 1) (by omega) _, KP10.out.newRow (w.heap.size + 1 + 1) (by omega) _, fun h => by rw [HEN.out] at h; cases h⟩
      rw [stp_yes HEN.out, HACT.out]
      have OW : OwnW _ lo _ (.slice (some ⟨ga, 0, none⟩) 3 qa) (.slice pc nd qc) (steal W j i) := OwnW.wholeRow (W := steal W j i) ⟨upd (upd us j (.slice p5 m5 c5)) i (.slice p9 m9 c9), (by rw [HPE.out]; exact F10.out)⟩ RR10.out (w3 (.slice (some ⟨ga, 0, none⟩) 3 qa) W.n (.slice pc nd qc))
      exact OW.wide (Nat.le_refl _) (by rw [size_setRow]; exact E10.out)
  · have h6 : ¬ ci = 1 := hc1
    have h7 : 1 ≤ ci := by have := HCAP.out; omega
    have h8 : (1 : Int) ≤ (ni : Int) + 1 := by omega
    clear hc1
    go_upto_region 13 with fail
    have hbd := below_drew (Below.refl x3.heap.size x3)
    have RW7 := Lib.hid (RowW.below RW6.out hbd)
    have RS7 := Lib.hid (Row.below RS6.out hbd)
    have RR7 := Lib.hid (RowW.below RR6.out hbd)
    have CH7 := Lib.hid (CH6.out.then hbd)
    have KP7 := Lib.hid (KP6.out.below hbd)
    have Z7 : Hid (w.heap.size + 3 ≤ (x3.drew).heap.size) := Nat.le_trans Z6.out hbd.size
    have F7 : Hid (FamH x3.drew lo hx (.slice (some ⟨ga, 0, none⟩) 3 qa) nilV (.slice pc nd qc) (upd us j (.slice p5 m5 c5)) ⟨W.r.set j rz, [], W.d⟩) := Fam.below F6.out hbd
    have E8 : Hid (hx ≤ x3.drew.heap.size) := E6
    clear RW6 RS6 RR6 CH6 KP6 Z6 F6 E6 hbd
    refine wp_region_held_drew (S := (fun w' => w'.cell? ⟨w.heap.size, 0, none⟩ = some (.slice (some ⟨ga, 0, none⟩) 3 qa) ∧ w'.cell? ⟨w.heap.size + 1, 2, none⟩ = some (.int .i64 (i : Int)))) (by kernel_rfl) (⟨RowW.c0 RW7.out, Row.cell RS7.out 2⟩) (fun hHeld => ?_)
    generalize x3.drew = x4 at *
    refine wpAnyH_take (i := 0) (v := ?va0x65) rfl (by kernel_rfl) (by kernel_rfl) (by kernel_rfl) (fun _ _ _ h => h) (Or.inl ⟨by rfl, ?hy0x65⟩) (by assumption) ?rest0x65
    case hy0x65 => (intro w hSw; (try dsimp only at hSw); go_simp; try with_reducible rfl)
    (try simp only [Act.put, List.getElem_toArray, List.getElem_cons_zero, List.setIfInBounds_toArray, List.set_cons_zero, List.set_cons_succ])
    refine wpAnyH_take (i := 1) (v := ?va1x66) rfl (by kernel_rfl) (by kernel_rfl) (by kernel_rfl) (fun _ _ _ h => h) (Or.inl ⟨by rfl, ?hy1x66⟩) (by assumption) ?rest1x66
    case hy1x66 => (intro w hSw; (try dsimp only at hSw); go_simp; try with_reducible rfl)
    (try simp only [Act.put, List.getElem_toArray, List.getElem_cons_zero, List.getElem_cons_succ, List.setIfInBounds_toArray, List.set_cons_zero, List.set_cons_succ])
    refine wpAnyH_take (i := 2) (v := ?va2x67) rfl (by kernel_rfl) (by kernel_rfl) (by kernel_rfl) (fun _ _ _ h => h) (Or.inl ⟨by rfl, ?hy2x67⟩) (by assumption) ?rest2x67
    case hy2x67 => (intro w hSw; (try dsimp only at hSw); go_simp; try with_reducible rfl)
    (try simp only [Act.put, List.getElem_toArray, List.getElem_cons_zero, List.getElem_cons_succ, List.setIfInBounds_toArray, List.set_cons_zero, List.set_cons_succ])
    refine wpAnyH_take (i := 3) (v := ?va3x68) rfl (by kernel_rfl) (by kernel_rfl) (by kernel_rfl) (fun _ _ _ h => h) (Or.inl ⟨by rfl, ?hy3x68⟩) (by assumption) ?rest3x68
    case hy3x68 => (intro w hSw; (try dsimp only at hSw); go_simp; try with_reducible rfl)
    (try simp only [Act.put, List.getElem_toArray, List.getElem_cons_zero, List.getElem_cons_succ, List.setIfInBounds_toArray, List.set_cons_zero, List.set_cons_succ])
    refine wpAnyH_take (i := 5) (v := ?va5x69) rfl (by kernel_rfl) (by kernel_rfl) (by kernel_rfl) (fun _ _ _ h => h) (Or.inl ⟨by rfl, ?hy5x69⟩) (by assumption) ?rest5x69
    case hy5x69 => (intro w hSw; (try dsimp only at hSw); go_simp; try with_reducible rfl)
    (try simp only [Act.put, List.getElem_toArray, List.getElem_cons_zero, List.getElem_cons_succ, List.setIfInBounds_toArray, List.set_cons_zero, List.set_cons_succ])
    refine wpAnyH_take (i := 6) (v := ?va6x70) rfl (by kernel_rfl) (by kernel_rfl) (by kernel_rfl) (fun _ _ _ h => h) (Or.inl ⟨by rfl, ?hy6x70⟩) (by assumption) ?rest6x70
    case hy6x70 => (intro w hSw; (try dsimp only at hSw); go_simp; try with_reducible rfl)
    (try simp only [Act.put, List.getElem_toArray, List.getElem_cons_zero, List.getElem_cons_succ, List.setIfInBounds_toArray, List.set_cons_zero, List.set_cons_succ])
    refine wpAnyH_take (i := 7) (v := ?va7x71) rfl (by kernel_rfl) (by kernel_rfl) (by kernel_rfl) (fun _ _ _ h => h) (Or.inl ⟨by rfl, ?hy7x71⟩) (by assumption) ?rest7x71
    case hy7x71 => (intro w hSw; (try dsimp only at hSw); go_simp; try with_reducible rfl)
    (try simp only [Act.put, List.getElem_toArray, List.getElem_cons_zero, List.getElem_cons_succ, List.setIfInBounds_toArray, List.set_cons_zero, List.set_cons_succ])
    refine wpAnyH_take (i := 8) (v := ?va8x72) rfl (by kernel_rfl) (by kernel_rfl) (by kernel_rfl) (fun _ _ _ h => h) (Or.inl ⟨by rfl, ?hy8x72⟩) (by assumption) ?rest8x72
    case hy8x72 => (intro w hSw; (try dsimp only at hSw); go_simp; try with_reducible rfl)
    (try simp only [Act.put, List.getElem_toArray, List.getElem_cons_zero, List.getElem_cons_succ, List.setIfInBounds_toArray, List.set_cons_zero, List.set_cons_succ])
    refine wpAnyH_take (i := 9) (v := ?va9x73) rfl (by kernel_rfl) (by kernel_rfl) (by kernel_rfl) (fun _ _ _ h => h) (Or.inl ⟨by rfl, ?hy9x73⟩) (by assumption) ?rest9x73
    case hy9x73 => (intro w hSw; (try dsimp only at hSw); go_simp; try with_reducible rfl)
    (try simp only [Act.put, List.getElem_toArray, List.getElem_cons_zero, List.getElem_cons_succ, List.setIfInBounds_toArray, List.set_cons_zero, List.set_cons_succ])
    have C7 : x4.cell? ⟨ga, i, none⟩ = some (us i) := (by have h := (FamH.cell F7.out (g := ga) (cap := qa) (i := i) (by show _ = Value.slice _ (W.r.set j rz).length _; rw [HJ5.out]) (by show i < (W.r.set j rz).length; rw [List.length_set]; exact HIF.out)).1; rw [upd_other _ _ HNE.out] at h; exact h)
    rw [HPI.out] at C7
    refine wpAnyH_ready (rs := [4, 10]) (by kernel_rfl) (by simp) ?_
    refine AllReadyH.cons rfl (fun K hK => ?_) (AllReadyH.cons rfl (fun K hK => ?_) AllReadyH.nil)
    · clear hHeld
      obtain ⟨x5, hx5⟩ : ∃ x, x = x4.alloc (.cells #[] 3) := ⟨_, rfl⟩
      have hb5 : Below x4.heap.size x4 x5 := by rw [hx5]; exact below1 x4 (.cells #[] 3)
      have RW8 := Lib.hid (RowW.below RW7.out hb5)
      have RS8 := Lib.hid (Row.below RS7.out hb5)
      have RR8 := Lib.hid (RowW.below RR7.out hb5)
      have CH8 := Lib.hid (CH7.out.then hb5)
      have KP8 := Lib.hid (KP7.out.below hb5)
      have Z8 : Hid (w.heap.size + 3 ≤ (x5).heap.size) := Nat.le_trans Z7.out hb5.size
      have F8 : Hid (FamH x5 lo hx (.slice (some ⟨ga, 0, none⟩) 3 qa) nilV (.slice pc nd qc) (upd us j (.slice p5 m5 c5)) ⟨W.r.set j rz, [], W.d⟩) := Fam.below F7.out hb5
      have EM8 : Hid (x5.ownsRow lo 3 1 (.slice (some ⟨x4.heap.size, 0, none⟩) 0 0) 0 []) := by unfold Hid; rw [hx5]; exact own_emptyLo x4 3 (by have := HGA.out; have := HH.out; have := Z7.out; omega)
      have GE8 : Hid (hx ≤ x4.heap.size ∧ w.heap.size + 3 ≤ x4.heap.size ∧ x4.heap.size ≤ x5.heap.size) := ⟨E8.out, Z7.out, hb5.size⟩
      go_simp
      rw [← hx5]
      refine hK.out _ _ ⟨RowW.c0 RW8.out, Row.cell RS8.out 2⟩ (fun hHeld => ?_)
      clear hK K hb5 hx5
      (try simp only [Act.put, List.getElem_toArray, List.getElem_cons_zero, List.getElem_cons_succ, List.setIfInBounds_toArray, List.set_cons_zero, List.set_cons_succ])
      clear RW7 RS7 RR7 CH7 KP7 Z7 F7
      have C8 : x5.cell? ⟨ga, i, none⟩ = some (us i) := (by have h := (FamH.cell F8.out (g := ga) (cap := qa) (i := i) (by show _ = Value.slice _ (W.r.set j rz).length _; rw [HJ5.out]) (by show i < (W.r.set j rz).length; rw [List.length_set]; exact HIF.out)).1; rw [upd_other _ _ HNE.out] at h; exact h)
      rw [HPI.out] at C8
      refine wpAnyH_ready (rs := [10]) (by kernel_rfl) (by simp) ?_
      refine AllReadyH.cons rfl (fun K hK => ?_) AllReadyH.nil
      clear hHeld
      go_simp
      refine hK.out _ _ ⟨RowW.c0 RW8.out, Row.cell RS8.out 2⟩ (fun hHeld => ?_)
      clear hK K
      (try simp only [Act.put, List.getElem_toArray, List.getElem_cons_zero, List.getElem_cons_succ, List.setIfInBounds_toArray, List.set_cons_zero, List.set_cons_succ])
      refine wpAnyH_take (i := 11) (v := ?va11x74) rfl (by kernel_rfl) (by kernel_rfl) (by kernel_rfl) (fun _ _ _ h => h) (Or.inl ⟨by rfl, ?hy11x74⟩) (by assumption) ?rest11x74
      case hy11x74 => (intro w hSw; (try dsimp only at hSw); go_simp; try with_reducible rfl)
      (try simp only [Act.put, List.getElem_toArray, List.getElem_cons_zero, List.getElem_cons_succ, List.setIfInBounds_toArray, List.set_cons_zero, List.set_cons_succ])
      clear C8
      have R8 : Hid (Own x5 lo (us i) (row W i)) := (by have h := FamH.row F8.out (i := i) (by show i < (W.r.set j rz).length; rw [List.length_set]; exact HIF.out); rw [upd_other _ _ HNE.out] at h; have e : (W.r.set j rz).getD i [] = row W i := (by rw [getD_setL HJF.out, if_neg HNE.out]; rfl); rw [show (⟨W.r.set j rz, [], W.d⟩ : H).f = W.r.set j rz from rfl, e] at h; exact h)
      have SR8 : Hid (SrcAt x5 (.slice (some ⟨gi, 1, none⟩) ni (ci - 1)) (((row W i).drop 1).map (Value.int .i64))) := by have h := R8.out; rw [HPI.out] at h; exact IntsAt.src (And.left (cutFirst h.intsC HMI.out (Nat.succ_pos ni)))
      refine wpAnyH_ready (rs := [12]) (by kernel_rfl) (by simp) ?_
      refine AllReadyH.cons rfl (fun K hK => ?_) AllReadyH.nil
      clear hHeld
      obtain ⟨u9, x6, hrun, ho9, hg9, hbl9⟩ := run_appOwn (P := Try.prog) x5 lo 26 26 3 i0 (.int .i64 0) 8 Try.underlying26 hinf hz0 hz1 hz2 rfl (.slice (some ⟨x4.heap.size, 0, none⟩) 0 0) 0 [] EM8.out _ _ SR8.out (by have := HM2.out; have := HMI.out; rw [List.length_map, List.length_drop, HMI.out]; unfold maxLen; omega) (by have := HM2.out; rw [List.length_map, List.length_drop, HMI.out]; omega) (by have := HGA.out; have := HH.out; have := Z8.out; omega)
      have O9 : Hid (Own x6 lo u9 ((row W i).drop 1)) := by have h := ho9; rw [Nat.zero_add, List.nil_append, List.length_map] at h; exact h
      have NB : ∀ g, (Value.slice (some ⟨x4.heap.size, 0, none⟩) 0 0).ownBlock = some g → g = x4.heap.size := fun g h => by cases h; rfl
      have RW9 : Hid (RowW x6 _ _ _ _) := Row.grownBy RW8.out hg9 (fun e => by have := NB _ e; have := GE8.out; omega)
      have RS9 := Lib.hid (Row.grownBy RS8.out hg9 (fun e => by have := NB _ e; have := GE8.out; omega))
      have RR9 : Hid (RowW x6 _ _ _ _) := Row.grownBy RR8.out hg9 (fun e => by have := NB _ e; have := GE8.out; omega)
      have KP9 := Lib.hid (KP8.out.grown hg9 EM8.out (by decide))
      have CH9 := Lib.hid (CH8.out.grow hg9 (fun g h => .inr (by have := NB _ h; have := GE8.out; omega)))
      have Z9 : Hid (w.heap.size + 3 ≤ x6.heap.size) := Nat.le_trans Z8.out hg9.size
      have F9 : Hid (FamH x6 lo hx (.slice (some ⟨ga, 0, none⟩) 3 qa) nilV (.slice pc nd qc) (upd us j (.slice p5 m5 c5)) ⟨W.r.set j rz, [], W.d⟩) := FamH.keepBy F8.out fun q h1 h2 => hg9.block q h2 (fun e => by have := NB _ e.symm; have := GE8.out; omega)
      have BL9 : Hid (∀ g, u9.ownBlock = some g → hx ≤ g ∧ g < x6.heap.size) := fun g hg => ⟨by rcases hbl9 with h | h; (rw [hg] at h; have := NB _ h.symm; have := GE8.out; omega); (rw [hg] at h; cases h; have := GE8.out; omega), (owns_lt O9.out hg).2⟩
      have E9 : Hid (hx ≤ x6.heap.size) := by have := GE8.out; have := hg9.size; unfold Hid; omega
      obtain ⟨p9, c9, hu9⟩ := O9.out.ints.shape
      generalize ((row W i).drop 1).length = m9 at hu9
      subst hu9
      rw [if_pos (by rfl)]
      refine op_app _ _ _ rfl rfl rfl hrun ?_
      refine hK.out _ _ ⟨RowW.c0 RW9.out, Row.cell RS9.out 2⟩ (fun hHeld => ?_)
      clear hK K hrun ho9 hg9 hbl9 SR8 EM8 NB R8 F8 C7
      clear RW8 RS8 RR8 CH8 KP8 Z8 
      (try simp only [Act.put, List.getElem_toArray, List.getElem_cons_zero, List.getElem_cons_succ, List.setIfInBounds_toArray, List.set_cons_zero, List.set_cons_succ])
      refine wpAnyH_take (i := 13) (v := ?va13x75) rfl (by kernel_rfl) (by kernel_rfl) (by kernel_rfl) (fun _ _ _ h => h) (Or.inl ⟨by rfl, ?hy13x75⟩) (by assumption) ?rest13x75
      case hy13x75 => (intro w hSw; (try dsimp only at hSw); go_simp; try with_reducible rfl)
      (try simp only [Act.put, List.getElem_toArray, List.getElem_cons_zero, List.getElem_cons_succ, List.setIfInBounds_toArray, List.set_cons_zero, List.set_cons_succ])
      obtain ⟨cc, ff⟩ := FamH.cell F9.out (g := ga) (cap := qa) (i := i) (by show _ = Value.slice _ (W.r.set j rz).length _; rw [HJ5.out]) (by show i < (W.r.set j rz).length; rw [List.length_set]; exact HIF.out)
      refine wpAnyH_ready (rs := [14]) (by kernel_rfl) (by simp) ?_
      refine AllReadyH.cons rfl (fun K hK => ?_) AllReadyH.nil
      clear hHeld
      have RW10 : Hid (RowW (x6.setCell ⟨ga, i, none⟩ (.slice p9 m9 c9)) _ _ _ _) := Row.other RW9.out ⟨ga, i, none⟩ (by show _ ≠ ga; have := HGA.out; have := HH.out; omega) (.slice p9 m9 c9)
      have RS10 := Lib.hid (Row.other RS9.out ⟨ga, i, none⟩ (by show _ ≠ ga; have := HGA.out; have := HH.out; omega) (.slice p9 m9 c9))
      have RR10 : Hid (RowW (x6.setCell ⟨ga, i, none⟩ (.slice p9 m9 c9)) _ _ _ _) := Row.other RR9.out ⟨ga, i, none⟩ (by show _ ≠ ga; have := HGA.out; have := HH.out; omega) (.slice p9 m9 c9)
      have Z10 : Hid (w.heap.size + 3 ≤ (x6.setCell ⟨ga, i, none⟩ (.slice p9 m9 c9)).heap.size) := by unfold Hid; rw [World.size_setCell]; exact Z9.out
      go_simp
      refine hK.out _ _ ⟨RowW.c0 RW10.out, Row.cell RS10.out 2⟩ (fun hHeld => ?_)
      clear hK K
      (try simp only [Act.put, List.getElem_toArray, List.getElem_cons_zero, List.getElem_cons_succ, List.setIfInBounds_toArray, List.set_cons_zero, List.set_cons_succ])
      refine wpAnyH_done (by kernel_rfl) ?_ _
      clear hHeld cc ff
      obtain ⟨hF10, hG10⟩ := FamH.putRow F9.out (i := i) (by show i < (W.r.set j rz).length; rw [List.length_set]; exact HIF.out) O9.out (hi' := x6.heap.size) E9.out (fun g hg => .inl (BL9.out g hg)) (g := ga) (cap := qa) (by show _ = Value.slice _ (W.r.set j rz).length _; rw [HJ5.out])
      have F10 := Lib.hid hF10
      have CH10 := Lib.hid (CH9.out.own hG10 (fun g hg => by cases hg; exact HGA.out))
      have KP10 := Lib.hid (KP9.out.cell (FamH.outer F9.out) (g0 := ga) rfl (by decide) i (.slice p9 m9 c9))
      have E10 : Hid (x6.heap.size ≤ (x6.setCell ⟨ga, i, none⟩ (.slice p9 m9 c9)).heap.size) := by unfold Hid; rw [World.size_setCell]; exact Nat.le_refl _
      have HPE : Hid (steal W j i = ⟨(W.r.set j rz).set i ((row W i).drop 1), W.n, W.d⟩) := by unfold Hid steal; rw [HZ.out, HRZ.out, List.set_comm _ _ HNE.out]
      clear hF10 hG10 F9 O9 BL9 E9 GE8
      clear RW9 RS9 RR9 CH9 KP9 Z9 
      generalize x6.setCell ⟨ga, i, none⟩ (.slice p9 m9 c9) = x7 at *
      go_wp2_with (first
        | (refine wl_loadW rfl _ rfl w.heap.size (.slice (some ⟨ga, 0, none⟩) 3 qa) W.n (.slice pc nd qc) RW10.out rfl ?_)
        | (refine wl_storeW rfl _ _ rfl (w.heap.size + 1 + 1) (.slice (some ⟨ga, 0, none⟩) 3 qa) W.n (.slice pc nd qc) nilV 0 nilV RR10.out rfl rfl rfl rfl ?_))
      refine bodyPost_ret (res_row_slot Try.results55 (Row.put RR10.out (w3 (.slice (some ⟨ga, 0, none⟩) 3 qa) W.n (.slice pc nd qc))) rfl rfl Try.underlying28 rfl info_work) rfl ?_
      refine ⟨(.slice pc nd qc), by rw [HEN.out, stp_yes HEN.out, HACT.out]; rfl, ?_, CH10.out.newRow (w.heap.size + 1 + 1) (by omega) _, KP10.out.newRow (w.heap.size + 1 + 1) (by omega) _, fun h => by rw [HEN.out] at h; cases h⟩
      rw [stp_yes HEN.out, HACT.out]
      have OW : OwnW _ lo _ (.slice (some ⟨ga, 0, none⟩) 3 qa) (.slice pc nd qc) (steal W j i) := OwnW.wholeRow (W := steal W j i) ⟨upd (upd us j (.slice p5 m5 c5)) i (.slice p9 m9 c9), (by rw [HPE.out]; exact F10.out)⟩ RR10.out (w3 (.slice (some ⟨ga, 0, none⟩) 3 qa) W.n (.slice pc nd qc))
      exact OW.wide (Nat.le_refl _) (by rw [size_setRow]; exact E10.out)
    · clear hHeld
      go_simp
      refine hK.out _ _ ⟨RowW.c0 RW7.out, Row.cell RS7.out 2⟩ (fun hHeld => ?_)
      clear hK K
      (try simp only [Act.put, List.getElem_toArray, List.getElem_cons_zero, List.getElem_cons_succ, List.setIfInBounds_toArray, List.set_cons_zero, List.set_cons_succ])
      refine wpAnyH_take (i := 11) (v := ?va11x76) rfl (by kernel_rfl) (by kernel_rfl) (by kernel_rfl) (fun _ _ _ h => h) (Or.inl ⟨by rfl, ?hy11x76⟩) (by assumption) ?rest11x76
      case hy11x76 => (intro w hSw; (try dsimp only at hSw); go_simp; try with_reducible rfl)
      (try simp only [Act.put, List.getElem_toArray, List.getElem_cons_zero, List.getElem_cons_succ, List.setIfInBounds_toArray, List.set_cons_zero, List.set_cons_succ])
      refine wpAnyH_ready (rs := [4]) (by kernel_rfl) (by simp) ?_
      refine AllReadyH.cons rfl (fun K hK => ?_) AllReadyH.nil
      clear hHeld
      obtain ⟨x5, hx5⟩ : ∃ x, x = x4.alloc (.cells #[] 3) := ⟨_, rfl⟩
      have hb5 : Below x4.heap.size x4 x5 := by rw [hx5]; exact below1 x4 (.cells #[] 3)
      have RW8 := Lib.hid (RowW.below RW7.out hb5)
      have RS8 := Lib.hid (Row.below RS7.out hb5)
      have RR8 := Lib.hid (RowW.below RR7.out hb5)
      have CH8 := Lib.hid (CH7.out.then hb5)
      have KP8 := Lib.hid (KP7.out.below hb5)
      have Z8 : Hid (w.heap.size + 3 ≤ (x5).heap.size) := Nat.le_trans Z7.out hb5.size
      have F8 : Hid (FamH x5 lo hx (.slice (some ⟨ga, 0, none⟩) 3 qa) nilV (.slice pc nd qc) (upd us j (.slice p5 m5 c5)) ⟨W.r.set j rz, [], W.d⟩) := Fam.below F7.out hb5
      have EM8 : Hid (x5.ownsRow lo 3 1 (.slice (some ⟨x4.heap.size, 0, none⟩) 0 0) 0 []) := by unfold Hid; rw [hx5]; exact own_emptyLo x4 3 (by have := HGA.out; have := HH.out; have := Z7.out; omega)
      have GE8 : Hid (hx ≤ x4.heap.size ∧ w.heap.size + 3 ≤ x4.heap.size ∧ x4.heap.size ≤ x5.heap.size) := ⟨E8.out, Z7.out, hb5.size⟩
      go_simp
      rw [← hx5]
      refine hK.out _ _ ⟨RowW.c0 RW8.out, Row.cell RS8.out 2⟩ (fun hHeld => ?_)
      clear hK K hb5 hx5
      (try simp only [Act.put, List.getElem_toArray, List.getElem_cons_zero, List.getElem_cons_succ, List.setIfInBounds_toArray, List.set_cons_zero, List.set_cons_succ])
      clear RW7 RS7 RR7 CH7 KP7 Z7 F7
      have R8 : Hid (Own x5 lo (us i) (row W i)) := (by have h := FamH.row F8.out (i := i) (by show i < (W.r.set j rz).length; rw [List.length_set]; exact HIF.out); rw [upd_other _ _ HNE.out] at h; have e : (W.r.set j rz).getD i [] = row W i := (by rw [getD_setL HJF.out, if_neg HNE.out]; rfl); rw [show (⟨W.r.set j rz, [], W.d⟩ : H).f = W.r.set j rz from rfl, e] at h; exact h)
      have SR8 : Hid (SrcAt x5 (.slice (some ⟨gi, 1, none⟩) ni (ci - 1)) (((row W i).drop 1).map (Value.int .i64))) := by have h := R8.out; rw [HPI.out] at h; exact IntsAt.src (And.left (cutFirst h.intsC HMI.out (Nat.succ_pos ni)))
      refine wpAnyH_ready (rs := [12]) (by kernel_rfl) (by simp) ?_
      refine AllReadyH.cons rfl (fun K hK => ?_) AllReadyH.nil
      clear hHeld
      obtain ⟨u9, x6, hrun, ho9, hg9, hbl9⟩ := run_appOwn (P := Try.prog) x5 lo 26 26 3 i0 (.int .i64 0) 8 Try.underlying26 hinf hz0 hz1 hz2 rfl (.slice (some ⟨x4.heap.size, 0, none⟩) 0 0) 0 [] EM8.out _ _ SR8.out (by have := HM2.out; have := HMI.out; rw [List.length_map, List.length_drop, HMI.out]; unfold maxLen; omega) (by have := HM2.out; rw [List.length_map, List.length_drop, HMI.out]; omega) (by have := HGA.out; have := HH.out; have := Z8.out; omega)
      have O9 : Hid (Own x6 lo u9 ((row W i).drop 1)) := by have h := ho9; rw [Nat.zero_add, List.nil_append, List.length_map] at h; exact h
      have NB : ∀ g, (Value.slice (some ⟨x4.heap.size, 0, none⟩) 0 0).ownBlock = some g → g = x4.heap.size := fun g h => by cases h; rfl
      have RW9 : Hid (RowW x6 _ _ _ _) := Row.grownBy RW8.out hg9 (fun e => by have := NB _ e; have := GE8.out; omega)
      have RS9 := Lib.hid (Row.grownBy RS8.out hg9 (fun e => by have := NB _ e; have := GE8.out; omega))
      have RR9 : Hid (RowW x6 _ _ _ _) := Row.grownBy RR8.out hg9 (fun e => by have := NB _ e; have := GE8.out; omega)
      have KP9 := Lib.hid (KP8.out.grown hg9 EM8.out (by decide))
      have CH9 := Lib.hid (CH8.out.grow hg9 (fun g h => .inr (by have := NB _ h; have := GE8.out; omega)))
      have Z9 : Hid (w.heap.size + 3 ≤ x6.heap.size) := Nat.le_trans Z8.out hg9.size
      have F9 : Hid (FamH x6 lo hx (.slice (some ⟨ga, 0, none⟩) 3 qa) nilV (.slice pc nd qc) (upd us j (.slice p5 m5 c5)) ⟨W.r.set j rz, [], W.d⟩) := FamH.keepBy F8.out fun q h1 h2 => hg9.block q h2 (fun e => by have := NB _ e.symm; have := GE8.out; omega)
      have BL9 : Hid (∀ g, u9.ownBlock = some g → hx ≤ g ∧ g < x6.heap.size) := fun g hg => ⟨by rcases hbl9 with h | h; (rw [hg] at h; have := NB _ h.symm; have := GE8.out; omega); (rw [hg] at h; cases h; have := GE8.out; omega), (owns_lt O9.out hg).2⟩
      have E9 : Hid (hx ≤ x6.heap.size) := by have := GE8.out; have := hg9.size; unfold Hid; omega
      obtain ⟨p9, c9, hu9⟩ := O9.out.ints.shape
      generalize ((row W i).drop 1).length = m9 at hu9
      subst hu9
      rw [if_pos (by rfl)]
      refine op_app _ _ _ rfl rfl rfl hrun ?_
      refine hK.out _ _ ⟨RowW.c0 RW9.out, Row.cell RS9.out 2⟩ (fun hHeld => ?_)
      clear hK K hrun ho9 hg9 hbl9 SR8 EM8 NB R8 F8 C7
      clear RW8 RS8 RR8 CH8 KP8 Z8 
      (try simp only [Act.put, List.getElem_toArray, List.getElem_cons_zero, List.getElem_cons_succ, List.setIfInBounds_toArray, List.set_cons_zero, List.set_cons_succ])
      refine wpAnyH_take (i := 13) (v := ?va13x77) rfl (by kernel_rfl) (by kernel_rfl) (by kernel_rfl) (fun _ _ _ h => h) (Or.inl ⟨by rfl, ?hy13x77⟩) (by assumption) ?rest13x77
      case hy13x77 => (intro w hSw; (try dsimp only at hSw); go_simp; try with_reducible rfl)
      (try simp only [Act.put, List.getElem_toArray, List.getElem_cons_zero, List.getElem_cons_succ, List.setIfInBounds_toArray, List.set_cons_zero, List.set_cons_succ])
      obtain ⟨cc, ff⟩ := FamH.cell F9.out (g := ga) (cap := qa) (i := i) (by show _ = Value.slice _ (W.r.set j rz).length _; rw [HJ5.out]) (by show i < (W.r.set j rz).length; rw [List.length_set]; exact HIF.out)
      refine wpAnyH_ready (rs := [14]) (by kernel_rfl) (by simp) ?_
      refine AllReadyH.cons rfl (fun K hK => ?_) AllReadyH.nil
      clear hHeld
      have RW10 : Hid (RowW (x6.setCell ⟨ga, i, none⟩ (.slice p9 m9 c9)) _ _ _ _) := Row.other RW9.out ⟨ga, i, none⟩ (by show _ ≠ ga; have := HGA.out; have := HH.out; omega) (.slice p9 m9 c9)
      have RS10 := Lib.hid (Row.other RS9.out ⟨ga, i, none⟩ (by show _ ≠ ga; have := HGA.out; have := HH.out; omega) (.slice p9 m9 c9))
      have RR10 : Hid (RowW (x6.setCell ⟨ga, i, none⟩ (.slice p9 m9 c9)) _ _ _ _) := Row.other RR9.out ⟨ga, i, none⟩ (by show _ ≠ ga; have := HGA.out; have := HH.out; omega) (.slice p9 m9 c9)
      have Z10 : Hid (w.heap.size + 3 ≤ (x6.setCell ⟨ga, i, none⟩ (.slice p9 m9 c9)).heap.size) := by unfold Hid; rw [World.size_setCell]; exact Z9.out
      go_simp
      refine hK.out _ _ ⟨RowW.c0 RW10.out, Row.cell RS10.out 2⟩ (fun hHeld => ?_)
      clear hK K
      (try simp only [Act.put, List.getElem_toArray, List.getElem_cons_zero, List.getElem_cons_succ, List.setIfInBounds_toArray, List.set_cons_zero, List.set_cons_succ])
      refine wpAnyH_done (by kernel_rfl) ?_ _
      clear hHeld cc ff
      obtain ⟨hF10, hG10⟩ := FamH.putRow F9.out (i := i) (by show i < (W.r.set j rz).length; rw [List.length_set]; exact HIF.out) O9.out (hi' := x6.heap.size) E9.out (fun g hg => .inl (BL9.out g hg)) (g := ga) (cap := qa) (by show _ = Value.slice _ (W.r.set j rz).length _; rw [HJ5.out])
      have F10 := Lib.hid hF10
      have CH10 := Lib.hid (CH9.out.own hG10 (fun g hg => by cases hg; exact HGA.out))
      have KP10 := Lib.hid (KP9.out.cell (FamH.outer F9.out) (g0 := ga) rfl (by decide) i (.slice p9 m9 c9))
      have E10 : Hid (x6.heap.size ≤ (x6.setCell ⟨ga, i, none⟩ (.slice p9 m9 c9)).heap.size) := by unfold Hid; rw [World.size_setCell]; exact Nat.le_refl _
      have HPE : Hid (steal W j i = ⟨(W.r.set j rz).set i ((row W i).drop 1), W.n, W.d⟩) := by unfold Hid steal; rw [HZ.out, HRZ.out, List.set_comm _ _ HNE.out]
      clear hF10 hG10 F9 O9 BL9 E9 GE8
      clear RW9 RS9 RR9 CH9 KP9 Z9 
      generalize x6.setCell ⟨ga, i, none⟩ (.slice p9 m9 c9) = x7 at *
      go_wp2_with (first
        | (refine wl_loadW rfl _ rfl w.heap.size (.slice (some ⟨ga, 0, none⟩) 3 qa) W.n (.slice pc nd qc) RW10.out rfl ?_)
        | (refine wl_storeW rfl _ _ rfl (w.heap.size + 1 + 1) (.slice (some ⟨ga, 0, none⟩) 3 qa) W.n (.slice pc nd qc) nilV 0 nilV RR10.out rfl rfl rfl rfl ?_))
      refine bodyPost_ret (res_row_slot Try.results55 (Row.put RR10.out (w3 (.slice (some ⟨ga, 0, none⟩) 3 qa) W.n (.slice pc nd qc))) rfl rfl Try.underlying28 rfl info_work) rfl ?_
      refine ⟨(.slice pc nd qc), by rw [HEN.out, stp_yes HEN.out, HACT.out]; rfl, ?_, CH10.out.newRow (w.heap.size + 1 + 1) (by omega) _, KP10.out.newRow (w.heap.size + 1 + 1) (by omega) _, fun h => by rw [HEN.out] at h; cases h⟩
      rw [stp_yes HEN.out, HACT.out]
      have OW : OwnW _ lo _ (.slice (some ⟨ga, 0, none⟩) 3 qa) (.slice pc nd qc) (steal W j i) := OwnW.wholeRow (W := steal W j i) ⟨upd (upd us j (.slice p5 m5 c5)) i (.slice p9 m9 c9), (by rw [HPE.out]; exact F10.out)⟩ RR10.out (w3 (.slice (some ⟨ga, 0, none⟩) 3 qa) W.n (.slice pc nd qc))
      exact OW.wide (Nat.le_refl _) (by rw [size_setRow]; exact E10.out)
end Go.Proofs.Ytkbphmnacdpdgaa
namespace Go.Proofs.Ytkbphmnacdpdgaa
open Go.RowKit Ph Kw

theorem s_l10Step (a c : Value) (W : Wk) (k x y : Int) (w : World) (lo hi : Nat) (hO : OwnW w lo hi a c W) (hs : Sm W) (hh : hi ≤ w.heap.size) : Calls Try.prog 55 #[wkv a W.n c, stv k x y] w (EndS a W (k, x, y) lo hi w) := by
  by_cases he : en W (k, x, y) = true
  · have he0 := he
    have hx : isW x = true := by unfold en at he; rw [Bool.and_eq_true] at he; exact he.1
    obtain ⟨hx0, hx2⟩ := isW_iff.1 hx
    obtain ⟨j, rfl⟩ : ∃ j : Nat, x = j := ⟨x.toNat, by omega⟩
    have ej : (j : Int).toNat = j := by omega
    by_cases h1 : k = 1 ∧ y = 0
    · obtain ⟨rfl, rfl⟩ := h1
      rw [en_push (W := W) (s := (1, (j : Int), 0)) hx rfl rfl] at he
      simp only [ej, Bool.and_eq_true, decide_eq_true_eq] at he
      exact s_step_push a c W j w lo hi hO hs hh (by omega) he.1 he.2
    · by_cases h2 : k = 2 ∧ y = 0
      · obtain ⟨rfl, rfl⟩ := h2
        rw [en_pop (W := W) (s := (2, (j : Int), 0)) hx rfl rfl] at he
        simp only [ej, decide_eq_true_eq] at he
        exact s_step_pop a c W j w lo hi hO hs hh (by omega) he
      · by_cases h3 : k = 3
        · subst h3
          rw [en_steal (W := W) (s := (3, (j : Int), y)) hx rfl] at he
          simp only [ej, Bool.and_eq_true, decide_eq_true_eq] at he
          obtain ⟨hy, hne, hm, hr⟩ := he
          obtain ⟨hy0, hy2⟩ := isW_iff.1 hy
          obtain ⟨i, rfl⟩ : ∃ i : Nat, y = i := ⟨y.toNat, by omega⟩
          have ei : (i : Int).toNat = i := by omega
          rw [ei] at hm
          exact s_step_steal a c W j i w lo hi hO hs hh (by omega) (by omega) (fun e => hne (by rw [e])) hm hr
        · rw [en_none h1 h2 h3] at he0; cases he0
  · exact s_step_no a c W k x y w lo hi hO hs hh (by simpa using he)
theorem ownOneW {w : World} {lo hi : Nat} {a c : Value} {W : Wk} (h : OwnW w lo hi a c W) : a.oneCell' = true ∧ c.oneCell' = true := by
  obtain ⟨⟨p, q, rfl⟩, ⟨p', q', rfl⟩⟩ := h.shapes
  exact ⟨rfl, rfl⟩
end Go.Proofs.Ytkbphmnacdpdgaa
namespace Go.Proofs.Ytkbphmnacdpdgaa
open Go.RowKit Ph Kw

theorem c_isShorter (p p2 : Option Addr) (m m2 q q2 : Nat) (w : World) : Calls Try.prog 66 #[.slice p m q, .slice p2 m2 q2] w fun e w' => e = .returned (.bool (decide (m < m2))) ∧ w' = w := by
  by_cases h : m < m2
  · have h1 : (m : Int) < (m2 : Int) := by omega
    have HD : Hid (decide (m < m2) = true) := decide_eq_true h
    rw [HD.out]
    clear h HD
    go_enter Try.func66, Try.ntmps66
    go_wp2
    go_ret
    exact ⟨rfl, rfl⟩
  · have h1 : ¬ (m : Int) < (m2 : Int) := by omega
    have HD : Hid (decide (m < m2) = false) := decide_eq_false h
    rw [HD.out]
    clear h HD
    go_enter Try.func66, Try.ntmps66
    go_wp2
    go_ret
    exact ⟨rfl, rfl⟩
set_option maxRecDepth 100000 in
set_option maxHeartbeats 6400000 in
theorem c_firstBest_isShorter (g : Nat) (f : Nat → Value) (n : Int) (d : Value) (W : Wk) (w : World) (hr : RowC w g f n d) (hA : CrewAt w f d W) : Calls Try.prog 65 #[.slice (some ⟨g, 0, none⟩) 3 3, .func (.func 66) #[] #[]] w fun e w' => e = .returned (.int .i64 (fewTo W 3 : Nat)) ∧ Below w.heap.size w w' := by
  have HR := Lib.hid hr; have HA := Lib.hid hA
  have HB0 := Lib.hid (Below.refl w.heap.size w)
  clear hr hA
  go_enter Try.func65, Try.ntmps65
  go_wp2_with fail
  go_loopw [5, 9] (fun t i wr => ∃ k : Nat, k ≤ 3 ∧ i = .int .i64 k ∧ t = .int .i64 (fewTo W k : Nat) ∧ Hid (Below w.heap.size w wr)) (fun _ i _ => 3 - (intOf i).toNat)
  case atStart => exact ⟨0, by omega, rfl, rfl, HB0⟩
  case round =>
    clear HB0
    obtain ⟨k, hk, rfl, rfl, HB⟩ := hrel
    by_cases hlt : k < 3
    · have HBT := Lib.hid (fewTo_lt W hk)
      have HST : Hid (fewTo W (k + 1) = if (row W k).length < (row W (fewTo W k)).length then k else fewTo W k) := rfl
      generalize hbb : fewTo W k = b at *
      have HBB := Lib.hid hbb; clear hbb
      obtain ⟨pk, ck, hfk, _⟩ := (HA.out.r k hlt).shape
      obtain ⟨pb, cb, hfb, _⟩ := (HA.out.r b HBT.out).shape
      have qk := cellBelow HB.out (Nat.le_refl _) (RowC.row HR.out hlt)
      have qb := cellBelow HB.out (Nat.le_refl _) (RowC.row HR.out HBT.out)
      rw [hfk] at qk
      rw [hfb] at qb
      generalize (row W k).length = mk at *
      generalize (row W b).length = mb at *
      have i0 : (k : Int) < 3 := by omega
      have i1 : (0 : Int) ≤ (k : Int) := by omega
      have i2 : (b : Int) < 3 := by have := HBT.out; omega
      have i3 : (0 : Int) ≤ (b : Int) := by omega
      have HLT := Lib.hid hlt
      clear hfk hfb hlt
      have e2 : IntKind.i64.wrap ((k : Int) + 1) = (k : Int) + 1 := IntWalk.i64_in _ (by omega)
      go_upto_region 5 with fail
      replace qk : wr.drew.cell? ⟨g, k, none⟩ = some (.slice pk mk ck) := qk
      replace qb : wr.drew.cell? ⟨g, b, none⟩ = some (.slice pb mb cb) := qb
      refine wp_region_held_drew (S := (fun w' => w'.cell? ⟨g, k, none⟩ = some (.slice pk mk ck) ∧ w'.cell? ⟨g, b, none⟩ = some (.slice pb mb cb))) (by kernel_rfl) (⟨qk, qb⟩) (fun hHeld => ?_)
      refine wpAnyH_take (i := 0) (v := ?va0x1) rfl (by kernel_rfl) (by kernel_rfl) (by kernel_rfl) (fun _ _ _ h => h) (Or.inl ⟨by rfl, ?hy0x1⟩) (by assumption) ?rest0x1
      case hy0x1 => (intro w hSw; (try dsimp only at hSw); go_simp; try with_reducible rfl)
      (try simp only [Act.put, List.getElem_toArray, List.getElem_cons_zero, List.setIfInBounds_toArray, List.set_cons_zero, List.set_cons_succ])
      refine wpAnyH_take (i := 1) (v := ?va1x2) rfl (by kernel_rfl) (by kernel_rfl) (by kernel_rfl) (fun _ _ _ h => h) (Or.inl ⟨by rfl, ?hy1x2⟩) (by assumption) ?rest1x2
      case hy1x2 => (intro w hSw; (try dsimp only at hSw); go_simp; try with_reducible rfl)
      (try simp only [Act.put, List.getElem_toArray, List.getElem_cons_zero, List.getElem_cons_succ, List.setIfInBounds_toArray, List.set_cons_zero, List.set_cons_succ])
      refine wpAnyH_take (i := 2) (v := ?va2x3) rfl (by kernel_rfl) (by kernel_rfl) (by kernel_rfl) (fun _ _ _ h => h) (Or.inl ⟨by rfl, ?hy2x3⟩) (by assumption) ?rest2x3
      case hy2x3 => (intro w hSw; (try dsimp only at hSw); go_simp; try with_reducible rfl)
      (try simp only [Act.put, List.getElem_toArray, List.getElem_cons_zero, List.getElem_cons_succ, List.setIfInBounds_toArray, List.set_cons_zero, List.set_cons_succ])
      refine wpAnyH_take (i := 3) (v := ?va3x4) rfl (by kernel_rfl) (by kernel_rfl) (by kernel_rfl) (fun _ _ _ h => h) (Or.inl ⟨by rfl, ?hy3x4⟩) (by assumption) ?rest3x4
      case hy3x4 => (intro w hSw; (try dsimp only at hSw); go_simp; try with_reducible rfl)
      (try simp only [Act.put, List.getElem_toArray, List.getElem_cons_zero, List.getElem_cons_succ, List.setIfInBounds_toArray, List.set_cons_zero, List.set_cons_succ])
      refine wpAnyH_take (i := 4) (v := ?va4x5) rfl (by kernel_rfl) (by kernel_rfl) (by kernel_rfl) (fun _ _ _ h => h) (Or.inl ⟨by rfl, ?hy4x5⟩) (by assumption) ?rest4x5
      case hy4x5 => (intro w hSw; (try dsimp only at hSw); go_simp; try with_reducible rfl)
      (try simp only [Act.put, List.getElem_toArray, List.getElem_cons_zero, List.getElem_cons_succ, List.setIfInBounds_toArray, List.set_cons_zero, List.set_cons_succ])
      refine wpAnyH_take (i := 5) (v := ?va5x6) rfl (by kernel_rfl) (by kernel_rfl) (by kernel_rfl) (fun _ _ _ h => h) (Or.inl ⟨by rfl, ?hy5x6⟩) (by assumption) ?rest5x6
      case hy5x6 => (intro w hSw; (try dsimp only at hSw); go_simp; try with_reducible rfl)
      (try simp only [Act.put, List.getElem_toArray, List.getElem_cons_zero, List.getElem_cons_succ, List.setIfInBounds_toArray, List.set_cons_zero, List.set_cons_succ])
      refine wpAnyH_take (i := 6) (v := ?va6x7) rfl (by kernel_rfl) (by kernel_rfl) (by kernel_rfl) (fun _ _ _ h => h) (Or.inl ⟨by rfl, ?hy6x7⟩) (by assumption) ?rest6x7
      case hy6x7 => (intro w hSw; (try dsimp only at hSw); go_simp; try with_reducible rfl)
      (try simp only [Act.put, List.getElem_toArray, List.getElem_cons_zero, List.getElem_cons_succ, List.setIfInBounds_toArray, List.set_cons_zero, List.set_cons_succ])
      refine wpAnyH_take (i := 7) (v := ?va7x8) rfl (by kernel_rfl) (by kernel_rfl) (by kernel_rfl) (fun _ _ _ h => h) (Or.inl ⟨by rfl, ?hy7x8⟩) (by assumption) ?rest7x8
      case hy7x8 => (intro w hSw; (try dsimp only at hSw); go_simp; try with_reducible rfl)
      (try simp only [Act.put, List.getElem_toArray, List.getElem_cons_zero, List.getElem_cons_succ, List.setIfInBounds_toArray, List.set_cons_zero, List.set_cons_succ])
      refine wpAnyH_take (i := 8) (v := ?va8x9) rfl (by kernel_rfl) (by kernel_rfl) (by kernel_rfl) (fun _ _ _ h => h) (Or.inl ⟨by rfl, ?hy8x9⟩) (by assumption) ?rest8x9
      case hy8x9 => (intro w hSw; (try dsimp only at hSw); go_simp; try with_reducible rfl)
      (try simp only [Act.put, List.getElem_toArray, List.getElem_cons_zero, List.getElem_cons_succ, List.setIfInBounds_toArray, List.set_cons_zero, List.set_cons_succ])
      refine wpAnyH_ready (rs := [9]) (by kernel_rfl) (by simp) ?_
      refine AllReadyH.cons rfl (fun K hK => ?_) AllReadyH.nil
      go_simp
      refine (c_isShorter pk pb mk mb ck cb _).mono ?_
      rintro e w4 ⟨rfl, rfl⟩
      refine hK.out _ _ (⟨qk, qb⟩) (fun hHeld => ?_)
      clear hK K
      (try simp only [Act.put, List.getElem_toArray, List.getElem_cons_zero, List.getElem_cons_succ, List.setIfInBounds_toArray, List.set_cons_zero, List.set_cons_succ])
      refine wpAnyH_done (by kernel_rfl) ?_ _
      replace HB := Lib.hid (below_drew HB.out)
      generalize wr.drew = w5 at *
      clear hHeld qk qb
      by_cases hc : mk < mb
      · rw [decide_eq_true hc]
        rw [if_pos hc] at HST
        go_wp2_with fail
        go_roundw
        case rel => exact ⟨k + 1, by have := HLT.out; omega, by go_num, by rw [HST.out], HB⟩
        case measure => have := HLT.out; simp [intOf]; omega
      · rw [decide_eq_false hc]
        rw [if_neg hc] at HST
        go_wp2_with fail
        go_roundw
        case rel => exact ⟨k + 1, by have := HLT.out; omega, by go_num, by rw [HST.out], HB⟩
        case measure => have := HLT.out; simp [intOf]; omega
    · obtain rfl : k = 3 := by omega
      go_wp2_with fail
      go_ret
      exact ⟨rfl, HB.out⟩
theorem c_isLonger (p p2 : Option Addr) (m m2 q q2 : Nat) (w : World) : Calls Try.prog 67 #[.slice p m q, .slice p2 m2 q2] w fun e w' => e = .returned (.bool (decide (m2 < m))) ∧ w' = w := by
  by_cases h : m2 < m
  · have h1 : (m : Int) > (m2 : Int) := by omega
    have HD : Hid (decide (m2 < m) = true) := decide_eq_true h
    rw [HD.out]
    clear h HD
    go_enter Try.func67, Try.ntmps67
    go_wp2
    go_ret
    exact ⟨rfl, rfl⟩
  · have h1 : ¬ (m : Int) > (m2 : Int) := by omega
    have HD : Hid (decide (m2 < m) = false) := decide_eq_false h
    rw [HD.out]
    clear h HD
    go_enter Try.func67, Try.ntmps67
    go_wp2
    go_ret
    exact ⟨rfl, rfl⟩
set_option maxRecDepth 100000 in
set_option maxHeartbeats 6400000 in
theorem c_firstBest_isLonger (g : Nat) (f : Nat → Value) (n : Int) (d : Value) (W : Wk) (w : World) (hr : RowC w g f n d) (hA : CrewAt w f d W) : Calls Try.prog 65 #[.slice (some ⟨g, 0, none⟩) 3 3, .func (.func 67) #[] #[]] w fun e w' => e = .returned (.int .i64 (mostTo W 3 : Nat)) ∧ Below w.heap.size w w' := by
  have HR := Lib.hid hr; have HA := Lib.hid hA
  have HB0 := Lib.hid (Below.refl w.heap.size w)
  clear hr hA
  go_enter Try.func65, Try.ntmps65
  go_wp2_with fail
  go_loopw [5, 9] (fun t i wr => ∃ k : Nat, k ≤ 3 ∧ i = .int .i64 k ∧ t = .int .i64 (mostTo W k : Nat) ∧ Hid (Below w.heap.size w wr)) (fun _ i _ => 3 - (intOf i).toNat)
  case atStart => exact ⟨0, by omega, rfl, rfl, HB0⟩
  case round =>
    clear HB0
    obtain ⟨k, hk, rfl, rfl, HB⟩ := hrel
    by_cases hlt : k < 3
    · have HBT := Lib.hid (mostTo_lt W hk)
      have HST : Hid (mostTo W (k + 1) = if (row W (mostTo W k)).length < (row W k).length then k else mostTo W k) := rfl
      generalize hbb : mostTo W k = b at *
      have HBB := Lib.hid hbb; clear hbb
      obtain ⟨pk, ck, hfk, _⟩ := (HA.out.r k hlt).shape
      obtain ⟨pb, cb, hfb, _⟩ := (HA.out.r b HBT.out).shape
      have qk := cellBelow HB.out (Nat.le_refl _) (RowC.row HR.out hlt)
      have qb := cellBelow HB.out (Nat.le_refl _) (RowC.row HR.out HBT.out)
      rw [hfk] at qk
      rw [hfb] at qb
      generalize (row W k).length = mk at *
      generalize (row W b).length = mb at *
      have i0 : (k : Int) < 3 := by omega
      have i1 : (0 : Int) ≤ (k : Int) := by omega
      have i2 : (b : Int) < 3 := by have := HBT.out; omega
      have i3 : (0 : Int) ≤ (b : Int) := by omega
      have HLT := Lib.hid hlt
      clear hfk hfb hlt
      have e2 : IntKind.i64.wrap ((k : Int) + 1) = (k : Int) + 1 := IntWalk.i64_in _ (by omega)
      go_upto_region 5 with fail
      replace qk : wr.drew.cell? ⟨g, k, none⟩ = some (.slice pk mk ck) := qk
      replace qb : wr.drew.cell? ⟨g, b, none⟩ = some (.slice pb mb cb) := qb
      refine wp_region_held_drew (S := (fun w' => w'.cell? ⟨g, k, none⟩ = some (.slice pk mk ck) ∧ w'.cell? ⟨g, b, none⟩ = some (.slice pb mb cb))) (by kernel_rfl) (⟨qk, qb⟩) (fun hHeld => ?_)
      refine wpAnyH_take (i := 0) (v := ?va0x10) rfl (by kernel_rfl) (by kernel_rfl) (by kernel_rfl) (fun _ _ _ h => h) (Or.inl ⟨by rfl, ?hy0x10⟩) (by assumption) ?rest0x10
      case hy0x10 => (intro w hSw; (try dsimp only at hSw); go_simp; try with_reducible rfl)
      (try simp only [Act.put, List.getElem_toArray, List.getElem_cons_zero, List.setIfInBounds_toArray, List.set_cons_zero, List.set_cons_succ])
      refine wpAnyH_take (i := 1) (v := ?va1x11) rfl (by kernel_rfl) (by kernel_rfl) (by kernel_rfl) (fun _ _ _ h => h) (Or.inl ⟨by rfl, ?hy1x11⟩) (by assumption) ?rest1x11
      case hy1x11 => (intro w hSw; (try dsimp only at hSw); go_simp; try with_reducible rfl)
      (try simp only [Act.put, List.getElem_toArray, List.getElem_cons_zero, List.getElem_cons_succ, List.setIfInBounds_toArray, List.set_cons_zero, List.set_cons_succ])
      refine wpAnyH_take (i := 2) (v := ?va2x12) rfl (by kernel_rfl) (by kernel_rfl) (by kernel_rfl) (fun _ _ _ h => h) (Or.inl ⟨by rfl, ?hy2x12⟩) (by assumption) ?rest2x12
      case hy2x12 => (intro w hSw; (try dsimp only at hSw); go_simp; try with_reducible rfl)
      (try simp only [Act.put, List.getElem_toArray, List.getElem_cons_zero, List.getElem_cons_succ, List.setIfInBounds_toArray, List.set_cons_zero, List.set_cons_succ])
      refine wpAnyH_take (i := 3) (v := ?va3x13) rfl (by kernel_rfl) (by kernel_rfl) (by kernel_rfl) (fun _ _ _ h => h) (Or.inl ⟨by rfl, ?hy3x13⟩) (by assumption) ?rest3x13
      case hy3x13 => (intro w hSw; (try dsimp only at hSw); go_simp; try with_reducible rfl)
      (try simp only [Act.put, List.getElem_toArray, List.getElem_cons_zero, List.getElem_cons_succ, List.setIfInBounds_toArray, List.set_cons_zero, List.set_cons_succ])
      refine wpAnyH_take (i := 4) (v := ?va4x14) rfl (by kernel_rfl) (by kernel_rfl) (by kernel_rfl) (fun _ _ _ h => h) (Or.inl ⟨by rfl, ?hy4x14⟩) (by assumption) ?rest4x14
      case hy4x14 => (intro w hSw; (try dsimp only at hSw); go_simp; try with_reducible rfl)
      (try simp only [Act.put, List.getElem_toArray, List.getElem_cons_zero, List.getElem_cons_succ, List.setIfInBounds_toArray, List.set_cons_zero, List.set_cons_succ])
      refine wpAnyH_take (i := 5) (v := ?va5x15) rfl (by kernel_rfl) (by kernel_rfl) (by kernel_rfl) (fun _ _ _ h => h) (Or.inl ⟨by rfl, ?hy5x15⟩) (by assumption) ?rest5x15
      case hy5x15 => (intro w hSw; (try dsimp only at hSw); go_simp; try with_reducible rfl)
      (try simp only [Act.put, List.getElem_toArray, List.getElem_cons_zero, List.getElem_cons_succ, List.setIfInBounds_toArray, List.set_cons_zero, List.set_cons_succ])
      refine wpAnyH_take (i := 6) (v := ?va6x16) rfl (by kernel_rfl) (by kernel_rfl) (by kernel_rfl) (fun _ _ _ h => h) (Or.inl ⟨by rfl, ?hy6x16⟩) (by assumption) ?rest6x16
      case hy6x16 => (intro w hSw; (try dsimp only at hSw); go_simp; try with_reducible rfl)
      (try simp only [Act.put, List.getElem_toArray, List.getElem_cons_zero, List.getElem_cons_succ, List.setIfInBounds_toArray, List.set_cons_zero, List.set_cons_succ])
      refine wpAnyH_take (i := 7) (v := ?va7x17) rfl (by kernel_rfl) (by kernel_rfl) (by kernel_rfl) (fun _ _ _ h => h) (Or.inl ⟨by rfl, ?hy7x17⟩) (by assumption) ?rest7x17
      case hy7x17 => (intro w hSw; (try dsimp only at hSw); go_simp; try with_reducible rfl)
      (try simp only [Act.put, List.getElem_toArray, List.getElem_cons_zero, List.getElem_cons_succ, List.setIfInBounds_toArray, List.set_cons_zero, List.set_cons_succ])
      refine wpAnyH_take (i := 8) (v := ?va8x18) rfl (by kernel_rfl) (by kernel_rfl) (by kernel_rfl) (fun _ _ _ h => h) (Or.inl ⟨by rfl, ?hy8x18⟩) (by assumption) ?rest8x18
      case hy8x18 => (intro w hSw; (try dsimp only at hSw); go_simp; try with_reducible rfl)
      (try simp only [Act.put, List.getElem_toArray, List.getElem_cons_zero, List.getElem_cons_succ, List.setIfInBounds_toArray, List.set_cons_zero, List.set_cons_succ])
      refine wpAnyH_ready (rs := [9]) (by kernel_rfl) (by simp) ?_
      refine AllReadyH.cons rfl (fun K hK => ?_) AllReadyH.nil
      go_simp
      refine (c_isLonger pk pb mk mb ck cb _).mono ?_
      rintro e w4 ⟨rfl, rfl⟩
      refine hK.out _ _ (⟨qk, qb⟩) (fun hHeld => ?_)
      clear hK K
      (try simp only [Act.put, List.getElem_toArray, List.getElem_cons_zero, List.getElem_cons_succ, List.setIfInBounds_toArray, List.set_cons_zero, List.set_cons_succ])
      refine wpAnyH_done (by kernel_rfl) ?_ _
      replace HB := Lib.hid (below_drew HB.out)
      generalize wr.drew = w5 at *
      clear hHeld qk qb
      by_cases hc : mb < mk
      · rw [decide_eq_true hc]
        rw [if_pos hc] at HST
        go_wp2_with fail
        go_roundw
        case rel => exact ⟨k + 1, by have := HLT.out; omega, by go_num, by rw [HST.out], HB⟩
        case measure => have := HLT.out; simp [intOf]; omega
      · rw [decide_eq_false hc]
        rw [if_neg hc] at HST
        go_wp2_with fail
        go_roundw
        case rel => exact ⟨k + 1, by have := HLT.out; omega, by go_num, by rw [HST.out], HB⟩
        case measure => have := HLT.out; simp [intOf]; omega
    · obtain rfl : k = 3 := by omega
      go_wp2_with fail
      go_ret
      exact ⟨rfl, HB.out⟩
end Go.Proofs.Ytkbphmnacdpdgaa
namespace Go.Proofs.Ytkbphmnacdpdgaa
open Go.RowKit Ph Kw
noncomputable def shareW (W : Wk) : Wk := if goodB W then shareR W else nilW
theorem wt_share (W : Wk) : wtW (shareW W) ≤ 2000 := by
  unfold shareW
  cases hg : goodB W
  · exact (by decide : wtW nilW ≤ 2000)
  · exact wt_sm (share_sm (goodB_iff.1 hg).sm)
/-- A crew on its way: what it shares to is what the first shares to. -/
def ShC (w wr : World) (g : Nat) (W W1 : Wk) : Prop := ∃ f d, RowC wr g f W1.n d ∧ Sep w (fun i => w.heap.size + 2 ≤ i ∧ i ≠ g) wr f d W1 ∧ Sm W1 ∧ shareR W1 = shareR W
set_option maxRecDepth 100000 in
set_option maxHeartbeats 12800000 in
theorem c_ShareWork (a c : Value) (W : Wk) (w : World) (hA : WorkC w a c W) (hd : W.d.length ≤ 1048576) : Calls Try.prog 31 #[wkv a W.n c] w (EndW (shareW W) (goodB W) w) := by
  have HA := Lib.hid hA; have HDL := Lib.hid hd
  have hb0 := (below1 w (.cells (w3 a W.n c) 28)).alloc (by simp) (.cells (w3 nilV 0 nilV) 28)
  have HB := Lib.hid hb0
  have RA := Lib.hid (show RowW ((w.alloc (.cells (w3 a W.n c) 28)).alloc (.cells (w3 nilV 0 nilV) 28)) w.heap.size a W.n c from Row.alloc (Row.new w 28 (w3 a W.n c)) _)
  have RR := Lib.hid (show RowW ((w.alloc (.cells (w3 a W.n c) 28)).alloc (.cells (w3 nilV 0 nilV) 28)) (w.heap.size + 1) nilV 0 nilV from Row.new1 w _ 28 (w3 nilV 0 nilV))
  have HZ : Hid (w.heap.size + 2 ≤ ((w.alloc (.cells (w3 a W.n c) 28)).alloc (.cells (w3 nilV 0 nilV) 28)).heap.size) := by unfold Hid; simp
  clear hA hd hb0
  cases hg : goodB W
  · have HG := Lib.hid hg
    have HL : Hid (shareW W = nilW) := by unfold Hid shareW; rw [hg]; rfl
    rw [HL.out]
    clear hg
    go_enter Try.func31, Try.ntmps31
    go_wp2_with (first
      | (refine wl_loadW rfl _ rfl w.heap.size a W.n c RA.out rfl ?_)
      | (go_at_call 57; refine (c_crewOf_no a c W w _ HA.out HB.out HDL.out HG.out).mono ?_; rintro e w1 ⟨f1, n1, d1, rfl, hone, hb1⟩; have ONE := Lib.hid hone; have HB1 := Lib.hid hb1; clear hone hb1)
      | (refine wl_storeC rfl _ _ rfl w1.heap.size f1 n1 d1 nF 0 nilV (Row.new w1 76 (cr5 nF 0 nilV)) rfl rfl ONE.out.1 ONE.out.2.1 ONE.out.2.2.1 ONE.out.2.2.2 ?_)
      | (refine wl_storeW rfl _ _ rfl (w.heap.size + 1) nilV 0 nilV nilV 0 nilV (RowW.below RR.out (bst HB1.out (below_var w1 _ _) HB1.out.size)) rfl rfl rfl rfl ?_))
    have RF := Lib.hid (RowW.below RR.out (bst HB1.out (below_var w1 (.cells (cr5 nF 0 nilV) 76) (cr5 f1 n1 d1)) HB1.out.size))
    have BF := Lib.hid (bst HB.out (bst HB1.out (below_var w1 (.cells (cr5 nF 0 nilV) 76) (cr5 f1 n1 d1)) HB1.out.size) HB.out.size)
    refine bodyPost_ret (res_row_slot Try.results31 (Row.put RF.out (w3 nilV 0 nilV)) rfl rfl Try.underlying28 rfl info_work) rfl (endW_no (below_setRow BF.out (by omega) _))
  · have HG := Lib.hid hg
    have HS := Lib.hid (goodB_iff.1 hg).sm
    have HL : Hid (shareW W = shareR W) := by unfold Hid shareW; rw [hg]; rfl
    rw [HL.out]
    clear hg
    go_enter Try.func31, Try.ntmps31
    go_upto_region 4 with (first
      | (refine wl_loadW rfl _ rfl w.heap.size a W.n c RA.out rfl ?_)
      | (go_at_call 57; refine (c_crewOf_yes a c W w _ HA.out HB.out HDL.out (fun i => w.heap.size + 2 ≤ i) HG.out).mono ?_; rintro e w1 ⟨f1, d1, rfl, hone, hsp, hb1⟩; have ONE := Lib.hid hone; have HSP := Lib.hid hsp; have HB1 := Lib.hid hb1; clear hone hsp hb1)
      | (refine wl_storeC rfl _ _ rfl w1.heap.size f1 W.n d1 nF 0 nilV (Row.new w1 76 (cr5 nF 0 nilV)) rfl rfl ONE.out.1 ONE.out.2.1 ONE.out.2.2.1 ONE.out.2.2.2 ?_))
    have BVw2 := Lib.hid (below_var w1 (.cells (cr5 nF 0 nilV) 76) (cr5 f1 W.n d1))
    have RVw2 : Hid (RowC ((w1.alloc (.cells (cr5 nF 0 nilV) 76)).setRow w1.heap.size (cr5 f1 W.n d1)) w1.heap.size f1 W.n d1) := Row.put (Row.new w1 76 (cr5 nF 0 nilV)) _
    generalize (w1.alloc (.cells (cr5 nF 0 nilV) 76)).setRow w1.heap.size (cr5 f1 W.n d1) = w2 at *
    have HBX := Lib.hid (bst HB1.out BVw2.out HB1.out.size)
    have B2 := Lib.hid (bst HB.out HBX.out HB.out.size)
    have S2 : Hid (Sep w (fun i => w.heap.size + 2 ≤ i ∧ i ≠ w1.heap.size) w2 f1 d1 W) := Sep.turn HSP.out BVw2.out (fun i hi hp => ⟨hp, by omega⟩)
    have R2 := Lib.hid (RowW.below RR.out HBX.out)
    have ZG := Lib.hid (Nat.le_trans HZ.out HB1.out.size)
    clear HSP HB HB1 RA RR HZ BVw2 HBX
    generalize w1.heap.size = gC at *
    have F2 : Hid (ShC w w2 gC W W) := ⟨f1, d1, RVw2.out, S2.out, HS.out, rfl⟩
    clear RVw2 S2 ONE
    go_wp2_with fail
    go_loopg [] (msq W) (fun g wr => ∃ W1 : Wk, Hid (msq W1 ≤ g) ∧ Hid (ShC w wr gC W W1) ∧ Hid (RowW wr (w.heap.size + 1) nilV 0 nilV) ∧ Hid (Below w.heap.size w wr))
    case atStart => exact ⟨W, Nat.le_refl _, F2, R2, B2⟩
    case round =>
      clear F2 R2 B2
      obtain ⟨W1, HMS, hF, HR, HB⟩ := hrel
      obtain ⟨f, d, hrc, hsp, hs1, hsh⟩ := hF.out
      clear hF
      have HRC := Lib.hid hrc; have HSP := Lib.hid hsp; have HS1 := Lib.hid hs1; have HSH := Lib.hid hsh
      have HGL := Lib.hid (Row.lt hrc)
      clear hrc hsp hs1 hsh
      go_upto_region 4 with fail
      go_cut [6, 7] from 16 (fun s6 s7 wz => s6 = .int .i64 (few W1 : Nat) ∧ s7 = .int .i64 (most W1 : Nat) ∧ Hid (Below wr.heap.size wr wz))
      case first =>
        have kb0 := below_drew (Below.refl wr.heap.size wr)
        refine wp_region_held_drew (S := (fun w' => Below wr.heap.size wr w')) (by kernel_rfl) (kb0) (fun hHeld => ?_)
        generalize wr.drew = x0 at *
        refine wpAnyH_take (i := 0) (v := ?va0x1) rfl (by kernel_rfl) (by kernel_rfl) (by kernel_rfl) (fun _ _ _ h => h) (Or.inl ⟨by rfl, ?hy0x1⟩) (by assumption) ?rest0x1
        case hy0x1 => (intro w hSw; (try dsimp only at hSw); go_simp; try with_reducible rfl)
        (try simp only [Act.put, List.getElem_toArray, List.getElem_cons_zero, List.setIfInBounds_toArray, List.set_cons_zero, List.set_cons_succ])
        refine wpAnyH_take (i := 1) (v := ?va1x2) rfl (by kernel_rfl) (by kernel_rfl) (by kernel_rfl) (fun _ _ _ h => h) (Or.inl ⟨by rfl, ?hy1x2⟩) (by assumption) ?rest1x2
        case hy1x2 => (intro w hSw; (try dsimp only at hSw); go_simp; try with_reducible rfl)
        (try simp only [Act.put, List.getElem_toArray, List.getElem_cons_zero, List.getElem_cons_succ, List.setIfInBounds_toArray, List.set_cons_zero, List.set_cons_succ])
        refine wpAnyH_take (i := 3) (v := ?va3x3) rfl (by kernel_rfl) (by kernel_rfl) (by kernel_rfl) (fun _ _ _ h => h) (Or.inl ⟨by rfl, ?hy3x3⟩) (by assumption) ?rest3x3
        case hy3x3 => (intro w hSw; (try dsimp only at hSw); go_simp; try with_reducible rfl)
        (try simp only [Act.put, List.getElem_toArray, List.getElem_cons_zero, List.getElem_cons_succ, List.setIfInBounds_toArray, List.set_cons_zero, List.set_cons_succ])
        refine wpAnyH_take (i := 4) (v := ?va4x4) rfl (by kernel_rfl) (by kernel_rfl) (by kernel_rfl) (fun _ _ _ h => h) (Or.inl ⟨by rfl, ?hy4x4⟩) (by assumption) ?rest4x4
        case hy4x4 => (intro w hSw; (try dsimp only at hSw); go_simp; try with_reducible rfl)
        (try simp only [Act.put, List.getElem_toArray, List.getElem_cons_zero, List.getElem_cons_succ, List.setIfInBounds_toArray, List.set_cons_zero, List.set_cons_succ])
        refine wpAnyH_ready (rs := [2]) (by kernel_rfl) (by simp) ?_
        refine AllReadyH.cons rfl (fun K hK => ?_) AllReadyH.nil
        go_simp
        refine (c_firstBest_isShorter gC f W1.n d W1 _ (RowC.below HRC.out kb0) (Sep.now (Sep.below HSP.out kb0) (bst HB.out kb0 HB.out.size))).mono ?_
        rintro e x1 ⟨rfl, hb⟩
        have kb1 := bst kb0 hb kb0.size
        refine hK.out _ _ kb1 (fun hHeld => ?_)
        clear hK K hb
        (try simp only [Act.put, List.getElem_toArray, List.getElem_cons_zero, List.getElem_cons_succ, List.setIfInBounds_toArray, List.set_cons_zero, List.set_cons_succ])
        refine wpAnyH_ready (rs := [5]) (by kernel_rfl) (by simp) ?_
        refine AllReadyH.cons rfl (fun K hK => ?_) AllReadyH.nil
        go_simp
        refine (c_firstBest_isLonger gC f W1.n d W1 _ (RowC.below HRC.out kb1) (Sep.now (Sep.below HSP.out kb1) (bst HB.out kb1 HB.out.size))).mono ?_
        rintro e x2 ⟨rfl, hb⟩
        have kb2 := bst kb1 hb kb1.size
        refine hK.out _ _ kb2 (fun hHeld => ?_)
        clear hK K hb
        (try simp only [Act.put, List.getElem_toArray, List.getElem_cons_zero, List.getElem_cons_succ, List.setIfInBounds_toArray, List.set_cons_zero, List.set_cons_succ])
        refine wpAnyH_take (i := 6) (v := ?va6x5) rfl (by kernel_rfl) (by kernel_rfl) (by kernel_rfl) (fun _ _ _ h => h) (Or.inl ⟨by rfl, ?hy6x5⟩) (by assumption) ?rest6x5
        case hy6x5 => (intro w hSw; (try dsimp only at hSw); go_simp; try with_reducible rfl)
        (try simp only [Act.put, List.getElem_toArray, List.getElem_cons_zero, List.getElem_cons_succ, List.setIfInBounds_toArray, List.set_cons_zero, List.set_cons_succ])
        refine wpAnyH_take (i := 7) (v := ?va7x6) rfl (by kernel_rfl) (by kernel_rfl) (by kernel_rfl) (fun _ _ _ h => h) (Or.inl ⟨by rfl, ?hy7x6⟩) (by assumption) ?rest7x6
        case hy7x6 => (intro w hSw; (try dsimp only at hSw); go_simp; try with_reducible rfl)
        (try simp only [Act.put, List.getElem_toArray, List.getElem_cons_zero, List.getElem_cons_succ, List.setIfInBounds_toArray, List.set_cons_zero, List.set_cons_succ])
        refine wpAnyH_done (by kernel_rfl) ?_ _
        clear hHeld
        go_wp2_with fail
        go_meet
        case rel => exact ⟨rfl, rfl, kb2⟩
      case rest =>
        obtain ⟨rfl, rfl, HK⟩ := hcut
        have B2 := Lib.hid (bst HB.out HK.out HB.out.size)
        have R2 := Lib.hid (RowW.below HR.out HK.out)
        have C2 := Lib.hid (RowC.below HRC.out HK.out)
        have S2 := Lib.hid (Sep.below HSP.out HK.out)
        have HA2 := Lib.hid (S2.out.now B2.out)
        have GL2 := Lib.hid (Row.lt C2.out)
        clear HK HB HR HRC HSP HGL
        have HFL := Lib.hid (few_lt W1); have HML := Lib.hid (most_lt W1)
        have HST : Hid (stopB W1 = decide (ml W1 < fl W1 + 2)) := rfl
        have HNL := Lib.hid (fun h => nxt_less HS1.out (W := W1) h)
        have HSG := Lib.hid (fun h => share_go HS1.out (W := W1) h)
        have HGB := Lib.hid (fun h => go_bounds HS1.out (W := W1) h)
        have HFN := Lib.hid (fun h => few_ne (W := W1) h)
        have HSS := Lib.hid (fun h => share_stop (W := W1) h)
        have HNX : Hid (nxt W1 = steal W1 (few W1) (most W1)) := rfl
        unfold ml fl at HST
        generalize few W1 = fw at *
        generalize most W1 = mo at *
        obtain ⟨pf, cf, hff, _⟩ := (HA2.out.r fw HFL.out).shape
        obtain ⟨pm, cm, hfm, _⟩ := (HA2.out.r mo HML.out).shape
        have LF := Lib.hid (HS1.out.rows fw HFL.out); have LM := Lib.hid (HS1.out.rows mo HML.out)
        have qf := RowC.row C2.out HFL.out
        have qm := RowC.row C2.out HML.out
        rw [hff] at qf
        rw [hfm] at qm
        clear hff hfm
        generalize hlf : (row W1 fw).length = lf at *
        generalize hlm : (row W1 mo).length = lm at *
        have HLF := Lib.hid hlf; have HLM := Lib.hid hlm
        clear hlf hlm
        have i0 : (fw : Int) < 3 := by have := HFL.out; omega
        have i1 : (0 : Int) ≤ (fw : Int) := by omega
        have i2 : (mo : Int) < 3 := by have := HML.out; omega
        have i3 : (0 : Int) ≤ (mo : Int) := by omega
        have e1 : IntKind.i64.wrap ((lm : Int) - (lf : Int)) = (lm : Int) - (lf : Int) := IntWalk.i64_in _ (by have := LF.out; have := LM.out; omega)
        by_cases hc : lm < lf + 2
        · have i4 : (lm : Int) - (lf : Int) < 2 := by omega
          have HSB : Hid (stopB W1 = true) := by unfold Hid; rw [HST.out]; exact decide_eq_true hc
          have HE : Hid (shareR W = W1) := by unfold Hid; rw [← HSH.out]; exact HSS.out HSB.out
          clear hc
          go_upto_region 5 with fail
          go_quiet (fail)
          have hbq := below_drewN (Below.refl wc.heap.size wc) nq
          replace C2 := Lib.hid (RowC.below C2.out hbq)
          replace R2 := Lib.hid (RowW.below R2.out hbq)
          replace B2 := Lib.hid (bst B2.out hbq B2.out.size)
          replace S2 := Lib.hid (Sep.below S2.out hbq)
          replace HA2 := Lib.hid (S2.out.now B2.out)
          replace GL2 := Lib.hid (Row.lt C2.out)
          clear hbq qf qm
          generalize wc.drewN nq = wq at *
          go_wp2_with (first
            | (refine wl_loadC rfl _ rfl gC f W1.n d C2.out rfl ?_)
            | (go_at_call 54; refine (c_work f d W1 _ HA2.out HS1.out.len (sm_len HS1.out).1 (by have := (sm_len HS1.out).2; omega)).mono ?_; rintro e w5 ⟨a5, c5, rfl, ho5, hb5⟩; have R5 := Lib.hid (RowW.below R2.out hb5); have B5 := Lib.hid (bst B2.out hb5 B2.out.size); have O5 := Lib.hid (ho5.wide B2.out.size (Nat.le_refl _)); have ON5 := Lib.hid (ownOneW O5.out); clear ho5 hb5)
            | (refine wl_storeW rfl _ _ rfl (w.heap.size + 1) a5 W1.n c5 nilV 0 nilV R5.out rfl rfl ON5.out.1 ON5.out.2 ?_))
          refine bodyPost_ret (res_row_slot Try.results31 (Row.put R5.out (w3 a5 W1.n c5)) rfl rfl Try.underlying28 rfl info_work) rfl ?_
          rw [HE.out]
          exact ⟨a5, c5, rfl, (OwnW.wholeRow O5.out R5.out (w3 a5 W1.n c5)).wide (Nat.le_refl _) (Nat.le_of_eq (size_setRow w5 (w.heap.size + 1) (w3 a5 W1.n c5)).symm), below_setRow B5.out (by omega) _⟩
        · have i4 : ¬ (lm : Int) - (lf : Int) < 2 := by omega
          have HSB : Hid (stopB W1 = false) := by unfold Hid; rw [HST.out]; exact decide_eq_false hc
          obtain ⟨hn1, hn2⟩ := HNL.out HSB.out
          have HN1 := Lib.hid hn1; have HN2 := Lib.hid hn2
          obtain ⟨hg1, hg2⟩ := HGB.out HSB.out
          have HG1 := Lib.hid hg1; have HG2 := Lib.hid hg2
          clear hc hn1 hn2 hg1 hg2
          go_upto_region 5 with fail
          go_quiet (fail)
          have hbq := below_drewN (Below.refl wc.heap.size wc) nq
          replace C2 := Lib.hid (RowC.below C2.out hbq)
          replace R2 := Lib.hid (RowW.below R2.out hbq)
          replace B2 := Lib.hid (bst B2.out hbq B2.out.size)
          replace S2 := Lib.hid (Sep.below S2.out hbq)
          replace HA2 := Lib.hid (S2.out.now B2.out)
          replace GL2 := Lib.hid (Row.lt C2.out)
          clear hbq qf qm
          generalize wc.drewN nq = wq at *
          have HQ := Lib.hid (c_steal_yes f d W1 fw mo _ HA2.out w _ S2.out (fun i hi => ⟨by have := ZG.out; have := GL2.out; omega, by have := GL2.out; omega⟩) HS1.out HFL.out HML.out (HFN.out HSB.out) (by rw [HLM.out]; exact HG1.out) (by rw [HLF.out]; exact HG2.out))
          rw [← HNX.out] at HQ
          go_wp2_with (first
            | (refine wl_loadC rfl _ rfl gC f W1.n d C2.out rfl ?_)
            | (go_at_call 68; refine HQ.out.mono ?_; rintro e y3 ⟨f3, n3, d3, rfl, hone, hcr, hb3⟩; obtain ⟨rfl, hsp⟩ := hcr rfl; have ONE3 := Lib.hid hone; have HB3 := Lib.hid hb3; have S3 := Lib.hid hsp; have RC3 := Lib.hid (RowC.below C2.out hb3); have R3 := Lib.hid (RowW.below R2.out hb3); clear hone hb3 hcr hsp)
            | (refine wl_storeC rfl _ _ rfl gC f3 (nxt W1).n d3 f W1.n d RC3.out rfl rfl ONE3.out.1 ONE3.out.2.1 ONE3.out.2.2.1 ONE3.out.2.2.2 ?_))
          have S4 := Lib.hid (Sep.whole S3.out gC (fun h => h.2 rfl) (cr5 f3 (nxt W1).n d3))
          have C4 : Hid (RowC (y3.setRow gC (cr5 f3 (nxt W1).n d3)) gC f3 (nxt W1).n d3) := Row.put RC3.out _
          have R4 : Hid (RowW (y3.setRow gC (cr5 f3 (nxt W1).n d3)) (w.heap.size + 1) nilV 0 nilV) := Row.putOther R3.out _ (by have := ZG.out; omega)
          have B4 := Lib.hid (below_setRow (bst B2.out HB3.out B2.out.size) (show w.heap.size ≤ gC by have := ZG.out; omega) (cr5 f3 (nxt W1).n d3))
          go_roundg (msq (nxt W1))
          case measure => have := HN2.out; have := HMS.out; omega
          case rel => exact ⟨nxt W1, Nat.le_refl _, ⟨f3, d3, C4.out, S4.out, HN1.out, by rw [HSG.out HSB.out]; exact HSH.out⟩, R4, B4⟩
end Go.Proofs.Ytkbphmnacdpdgaa
