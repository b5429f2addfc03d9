/- What the laws rest on, part 3. -/
import Derived.Test.YtbmfkgfmibpkjaaPC2
import Derived.Laws.IdiomCopy
namespace Go.Proofs.Ytbmfkgfmibpkjaa
open Go.RowKit Ph

set_option maxRecDepth 100000 in
set_option maxHeartbeats 1600000 in
theorem c_mul (m : Int) (hm : m = 0 ∨ m = 1 ∨ m = 2 ∨ m = 3) (w : World) : Calls Try.prog 218 #[.int .u64 1, .int .u64 m] w fun e w' => e = .returned (.tuple #[.int .u64 0, .int .u64 m]) ∧ w = w' := by
  rcases hm with rfl | rfl | rfl | rfl <;>
  · go_enter Try.func218, Try.ntmps218
    go_wp2
    go_ret2
    exact ⟨rfl, rfl⟩
theorem op_copy {P : Program} {o : Oper} {q : Act} {w w' : World} {K : Act → World → Prop} {Q : Exit → Act → World → Prop} {vs vx v' : Value} (s x : Operand) (t : TypeId) (hop : o.op = Op.call { callee := Callee.builtin Builtin.copy, args := #[s, x], argTypes := #[t, t] }) (hs : q.eval s = vs) (hx : q.eval x = vx)
    (hrun : (Builtin.copy_ #[t, t] o.type #[vs, vx]).run P w = .ok v' w') (h : K (q.put o.dst v') w') : Oper.wp P o q w K Q := by
  unfold Oper.wp
  simp [execOp, hop, resolve, invoke, builtin, hs, hx, hrun, Result.andThen]
  exact h
theorem size_int : (Try.prog.info? 3).map (·.size) = some 1 := by kernel_rfl
theorem one_src {w : World} {g : Nat} {x : Value} (h : w.cell? ⟨g, 0, none⟩ = some x) : ∀ j v, [x][j]? = some v → w.cell? ((⟨g, 0, none⟩ : Addr).add j) = some v := fun j v hv => by
  have hj : j = 0 := by
    obtain ⟨h1, _⟩ := List.getElem?_eq_some_iff.1 hv
    simp at h1; exact h1
  subst hj
  simp at hv
  subst hv
  rw [Addr.add_lit]; exact h
set_option maxRecDepth 100000 in
set_option maxHeartbeats 1600000 in
theorem c_rep0 (g : Nat) (w : World) (hR : Row w g 3 #[.int .i64 (-1)]) : Calls Try.prog 214 #[.slice (some ⟨g, 0, none⟩) 1 1, .int .i64 0] w fun e w' => ∃ v', e = .returned v' ∧ Own w' w.heap.size v' (List.replicate 0 (-1)) ∧ Below w.heap.size w w' := by
  obtain ⟨i0, hi, hz0, hz1, hz2⟩ := info_parts info_int
  have HC := Lib.hid (c_mul 0 (by simp) w)
  have HR := Lib.hid hR
  have HLT := Lib.hid hR.lt
  clear hR
  go_enter Try.func214, Try.ntmps214
  go_wp2_with (first
    | (go_at_call 218; refine HC.out.mono ?_; rintro e w9 ⟨rfl, rfl⟩)
    | (at_make; refine wpList_make_full _ rfl _ _ 24 rfl w.heap.size 3 i0 (.int .i64 0) 1 Try.underlying24 hi hz0 hz1 .i64 .i64 _ _ 0 rfl rfl rfl rfl (by rw [hz2]; omega) (by unfold maxLen; omega) (Nat.le_refl _) ?_; intro w1 hown hgr; rw [Nat.mul_one, show (Value.int .i64 0).cells = #[.int .i64 0] from rfl, toList_madeCells_one] at hown
       have r0 := (Row.grown HR.out hgr).cell 0
       have hcp := run_copy_none (P := Try.prog) w1 24 24 3 3 (some ⟨w.heap.size, 0, none⟩) (some ⟨g, 0, none⟩) 0 0 1 1 Try.underlying24 size_int rfl
       have HO := Lib.hid hown; have HG := Lib.hid hgr; clear hown hgr r0))
  clear hcp
  have O1 : Hid (Own w1 w.heap.size (.slice (some ⟨w.heap.size, 0, none⟩) 0 0) ([])) := HO.out
  have L1 : Hid (Below w.heap.size w w1) := (Below.refl w.heap.size w).grown HG.out (Nat.le_refl _) (fun k hk => by cases hk)
  refine wp_loop_rounds 1 ?_
  rw [rounds_succ]
  go_wp2_with fail
  go_ret
  exact ⟨_, rfl, O1.out, L1.out⟩
set_option maxRecDepth 100000 in
set_option maxHeartbeats 1600000 in
theorem c_rep1 (g : Nat) (w : World) (hR : Row w g 3 #[.int .i64 (-1)]) : Calls Try.prog 214 #[.slice (some ⟨g, 0, none⟩) 1 1, .int .i64 1] w fun e w' => ∃ v', e = .returned v' ∧ Own w' w.heap.size v' (List.replicate 1 (-1)) ∧ Below w.heap.size w w' := by
  obtain ⟨i0, hi, hz0, hz1, hz2⟩ := info_parts info_int
  have HC := Lib.hid (c_mul 1 (by simp) w)
  have HR := Lib.hid hR
  have HLT := Lib.hid hR.lt
  clear hR
  go_enter Try.func214, Try.ntmps214
  go_wp2_with (first
    | (go_at_call 218; refine HC.out.mono ?_; rintro e w9 ⟨rfl, rfl⟩)
    | (at_make; refine wpList_make_full _ rfl _ _ 24 rfl w.heap.size 3 i0 (.int .i64 0) 1 Try.underlying24 hi hz0 hz1 .i64 .i64 _ _ 1 rfl rfl rfl rfl (by rw [hz2]; omega) (by unfold maxLen; omega) (Nat.le_refl _) ?_; intro w1 hown hgr; rw [Nat.mul_one, show (Value.int .i64 0).cells = #[.int .i64 0] from rfl, toList_madeCells_one] at hown
       have q0 := hown.cellAt 0 (by omega)
       have f0 := hown.frozenAt 0
       have r0 := (Row.grown HR.out hgr).cell 0
       have hcp : (Builtin.copy_ #[24, 24] 3 #[.slice (some ⟨w.heap.size, 0, none⟩) 1 1, .slice (some ⟨g, 0, none⟩) 1 1]).run Try.prog w1 = .ok (.int .i64 1) (w1.setCell ⟨w.heap.size, 0, none⟩ (.int .i64 (-1))) := run_copy_cells (P := Try.prog) w1 24 24 3 3 w.heap.size 0 1 1 ⟨g, 0, none⟩ 1 1 [.int .i64 (-1)] Try.underlying24 size_int rfl (one_src r0) (fun j hj => by simp at hj; subst hj; rw [q0]; rfl) (fun j hj => by simp at hj; subst hj; exact f0) (fun v hv => by simp at hv; subst hv; rfl)
       have HO := Lib.hid hown; have HG := Lib.hid hgr; clear hown hgr q0 f0 r0))
  clear hcp
  have O1 : Hid (Own (w1.setCell ⟨w.heap.size, 0, none⟩ (.int .i64 (-1))) w.heap.size (.slice (some ⟨w.heap.size, 0, none⟩) 1 1) ([-1])) := (HO.out.stored 0 (.int .i64 (-1))).1
  have L1 : Hid (Below w.heap.size w (w1.setCell ⟨w.heap.size, 0, none⟩ (.int .i64 (-1)))) := ((Below.refl w.heap.size w).grown HG.out (Nat.le_refl _) (fun k hk => by cases hk)).setCell (p := ⟨w.heap.size, 0, none⟩) (Nat.le_refl _) (.int .i64 (-1))
  generalize (w1.setCell ⟨w.heap.size, 0, none⟩ (.int .i64 (-1))) = x1 at *
  refine wp_loop_rounds 1 ?_
  rw [rounds_succ]
  go_wp2_with fail
  go_ret
  exact ⟨_, rfl, O1.out, L1.out⟩
set_option maxRecDepth 100000 in
set_option maxHeartbeats 1600000 in
theorem c_rep2 (g : Nat) (w : World) (hR : Row w g 3 #[.int .i64 (-1)]) : Calls Try.prog 214 #[.slice (some ⟨g, 0, none⟩) 1 1, .int .i64 2] w fun e w' => ∃ v', e = .returned v' ∧ Own w' w.heap.size v' (List.replicate 2 (-1)) ∧ Below w.heap.size w w' := by
  obtain ⟨i0, hi, hz0, hz1, hz2⟩ := info_parts info_int
  have HC := Lib.hid (c_mul 2 (by simp) w)
  have HR := Lib.hid hR
  have HLT := Lib.hid hR.lt
  clear hR
  go_enter Try.func214, Try.ntmps214
  go_wp2_with (first
    | (go_at_call 218; refine HC.out.mono ?_; rintro e w9 ⟨rfl, rfl⟩)
    | (at_make; refine wpList_make_full _ rfl _ _ 24 rfl w.heap.size 3 i0 (.int .i64 0) 1 Try.underlying24 hi hz0 hz1 .i64 .i64 _ _ 2 rfl rfl rfl rfl (by rw [hz2]; omega) (by unfold maxLen; omega) (Nat.le_refl _) ?_; intro w1 hown hgr; rw [Nat.mul_one, show (Value.int .i64 0).cells = #[.int .i64 0] from rfl, toList_madeCells_one] at hown
       have q0 := hown.cellAt 0 (by omega)
       have f0 := hown.frozenAt 0
       have r0 := (Row.grown HR.out hgr).cell 0
       have hcp : (Builtin.copy_ #[24, 24] 3 #[.slice (some ⟨w.heap.size, 0, none⟩) 2 2, .slice (some ⟨g, 0, none⟩) 1 1]).run Try.prog w1 = .ok (.int .i64 1) (w1.setCell ⟨w.heap.size, 0, none⟩ (.int .i64 (-1))) := run_copy_cells (P := Try.prog) w1 24 24 3 3 w.heap.size 0 2 2 ⟨g, 0, none⟩ 1 1 [.int .i64 (-1)] Try.underlying24 size_int rfl (one_src r0) (fun j hj => by simp at hj; subst hj; rw [q0]; rfl) (fun j hj => by simp at hj; subst hj; exact f0) (fun v hv => by simp at hv; subst hv; rfl)
       have HO := Lib.hid hown; have HG := Lib.hid hgr; clear hown hgr q0 f0 r0))
  clear hcp
  have O1 : Hid (Own (w1.setCell ⟨w.heap.size, 0, none⟩ (.int .i64 (-1))) w.heap.size (.slice (some ⟨w.heap.size, 0, none⟩) 2 2) ([-1, 0])) := (HO.out.stored 0 (.int .i64 (-1))).1
  have L1 : Hid (Below w.heap.size w (w1.setCell ⟨w.heap.size, 0, none⟩ (.int .i64 (-1)))) := ((Below.refl w.heap.size w).grown HG.out (Nat.le_refl _) (fun k hk => by cases hk)).setCell (p := ⟨w.heap.size, 0, none⟩) (Nat.le_refl _) (.int .i64 (-1))
  generalize (w1.setCell ⟨w.heap.size, 0, none⟩ (.int .i64 (-1))) = x1 at *
  refine wp_loop_rounds 2 ?_
  rw [rounds_succ]
  go_wp2_with fail
  have O1d : Hid (Own x1.drew w.heap.size (.slice (some ⟨w.heap.size, 0, none⟩) 2 2) [-1, 0]) := O1.out
  have L1d : Hid (Below w.heap.size w x1.drew) := below_drew L1.out
  have q0 := World.ownsRow.cellAt O1d.out 0 (by simp)
  have q1 := World.ownsRow.cellAt O1d.out 1 (by simp)
  have f1 := World.ownsRow.frozenAt O1d.out 1
  have hcp : (Builtin.copy_ #[24, 24] 3 #[.slice (some ⟨w.heap.size, 1, none⟩) 1 1, .slice (some ⟨w.heap.size, 0, none⟩) 1 2]).run Try.prog x1.drew = .ok (.int .i64 1) (x1.drew.setCell ⟨w.heap.size, 1, none⟩ (.int .i64 (-1))) := run_copy_cells (P := Try.prog) x1.drew 24 24 3 3 w.heap.size 1 1 1 ⟨w.heap.size, 0, none⟩ 1 2 [.int .i64 (-1)] Try.underlying24 size_int rfl (one_src q0) (fun j hj => by simp at hj; subst hj; rw [Nat.add_zero, q1]; rfl) (fun j hj => by simp at hj; subst hj; exact f1) (fun v hv => by simp at hv; subst hv; rfl)
  clear q0 q1 f1
  refine wp_region_held_drew (S := (fun _ => True)) (by kernel_rfl) (trivial) (fun hHeld => ?_)
  refine wpAnyH_take (i := 0) (v := ?va0x1) rfl (by kernel_rfl) (by kernel_rfl) (by kernel_rfl) (fun _ _ _ h => h) (Or.inl ⟨by rfl, ?hy0x1⟩) (by assumption) ?rest0x1
  case hy0x1 => (intro w hSw; (try dsimp only at hSw); go_simp; try with_reducible rfl)
  (try simp only [Act.put, List.getElem_toArray, List.getElem_cons_zero, List.setIfInBounds_toArray, List.set_cons_zero, List.set_cons_succ])
  refine wpAnyH_take (i := 1) (v := ?va1x2) rfl (by kernel_rfl) (by kernel_rfl) (by kernel_rfl) (fun _ _ _ h => h) (Or.inl ⟨by rfl, ?hy1x2⟩) (by assumption) ?rest1x2
  case hy1x2 => (intro w hSw; (try dsimp only at hSw); go_simp; try with_reducible rfl)
  (try simp only [Act.put, List.getElem_toArray, List.getElem_cons_zero, List.getElem_cons_succ, List.setIfInBounds_toArray, List.set_cons_zero, List.set_cons_succ])
  refine wpAnyH_take (i := 2) (v := ?va2x3) rfl (by kernel_rfl) (by kernel_rfl) (by kernel_rfl) (fun _ _ _ h => h) (Or.inl ⟨by rfl, ?hy2x3⟩) (by assumption) ?rest2x3
  case hy2x3 => (intro w hSw; (try dsimp only at hSw); go_simp; try with_reducible rfl)
  (try simp only [Act.put, List.getElem_toArray, List.getElem_cons_zero, List.getElem_cons_succ, List.setIfInBounds_toArray, List.set_cons_zero, List.set_cons_succ])
  refine wpAnyH_take (i := 3) (v := ?va3x4) rfl (by kernel_rfl) (by kernel_rfl) (by kernel_rfl) (fun _ _ _ h => h) (Or.inl ⟨by rfl, ?hy3x4⟩) (by assumption) ?rest3x4
  case hy3x4 => (intro w hSw; (try dsimp only at hSw); go_simp; try with_reducible rfl)
  (try simp only [Act.put, List.getElem_toArray, List.getElem_cons_zero, List.getElem_cons_succ, List.setIfInBounds_toArray, List.set_cons_zero, List.set_cons_succ])
  refine wpAnyH_take (i := 4) (v := ?va4x5) rfl (by kernel_rfl) (by kernel_rfl) (by kernel_rfl) (fun _ _ _ h => h) (Or.inl ⟨by rfl, ?hy4x5⟩) (by assumption) ?rest4x5
  case hy4x5 => (intro w hSw; (try dsimp only at hSw); go_simp; try with_reducible rfl)
  (try simp only [Act.put, List.getElem_toArray, List.getElem_cons_zero, List.getElem_cons_succ, List.setIfInBounds_toArray, List.set_cons_zero, List.set_cons_succ])
  refine wpAnyH_take (i := 5) (v := ?va5x6) rfl (by kernel_rfl) (by kernel_rfl) (by kernel_rfl) (fun _ _ _ h => h) (Or.inl ⟨by rfl, ?hy5x6⟩) (by assumption) ?rest5x6
  case hy5x6 => (intro w hSw; (try dsimp only at hSw); go_simp; try with_reducible rfl)
  (try simp only [Act.put, List.getElem_toArray, List.getElem_cons_zero, List.getElem_cons_succ, List.setIfInBounds_toArray, List.set_cons_zero, List.set_cons_succ])
  refine wpAnyH_take (i := 6) (v := ?va6x7) rfl (by kernel_rfl) (by kernel_rfl) (by kernel_rfl) (fun _ _ _ h => h) (Or.inl ⟨by rfl, ?hy6x7⟩) (by assumption) ?rest6x7
  case hy6x7 => (intro w hSw; (try dsimp only at hSw); go_simp; try with_reducible rfl)
  (try simp only [Act.put, List.getElem_toArray, List.getElem_cons_zero, List.getElem_cons_succ, List.setIfInBounds_toArray, List.set_cons_zero, List.set_cons_succ])
  refine wpAnyH_ready (rs := [7]) (by kernel_rfl) (by simp) ?_
  refine AllReadyH.cons rfl (fun K hK => ?_) AllReadyH.nil
  rw [if_pos (by rfl)]
  refine op_copy _ _ _ rfl rfl rfl hcp ?_
  refine hK.out _ _ trivial (fun hHeld => ?_)
  clear hK K hcp
  (try simp only [Act.put, List.getElem_toArray, List.getElem_cons_zero, List.getElem_cons_succ, List.setIfInBounds_toArray, List.set_cons_zero, List.set_cons_succ])
  refine wpAnyH_take (i := 8) (v := ?va8x8) rfl (by kernel_rfl) (by kernel_rfl) (by kernel_rfl) (fun _ _ _ h => h) (Or.inl ⟨by rfl, ?hy8x8⟩) (by assumption) ?rest8x8
  case hy8x8 => (intro w hSw; (try dsimp only at hSw); go_simp; try with_reducible rfl)
  (try simp only [Act.put, List.getElem_toArray, List.getElem_cons_zero, List.getElem_cons_succ, List.setIfInBounds_toArray, List.set_cons_zero, List.set_cons_succ])
  refine wpAnyH_take (i := 9) (v := ?va9x9) rfl (by kernel_rfl) (by kernel_rfl) (by kernel_rfl) (fun _ _ _ h => h) (Or.inl ⟨by rfl, ?hy9x9⟩) (by assumption) ?rest9x9
  case hy9x9 => (intro w hSw; (try dsimp only at hSw); go_simp; try with_reducible rfl)
  (try simp only [Act.put, List.getElem_toArray, List.getElem_cons_zero, List.getElem_cons_succ, List.setIfInBounds_toArray, List.set_cons_zero, List.set_cons_succ])
  refine wpAnyH_done (by kernel_rfl) ?_ _
  have O2 : Hid (Own (x1.drew.setCell ⟨w.heap.size, 1, none⟩ (.int .i64 (-1))) w.heap.size (.slice (some ⟨w.heap.size, 0, none⟩) 2 2) [-1, -1]) := (World.ownsRow.stored O1d.out 1 (.int .i64 (-1))).1
  have L2 : Hid (Below w.heap.size w (x1.drew.setCell ⟨w.heap.size, 1, none⟩ (.int .i64 (-1)))) := L1d.out.setCell (p := ⟨w.heap.size, 1, none⟩) (Nat.le_refl _) (.int .i64 (-1))
  generalize x1.drew.setCell ⟨w.heap.size, 1, none⟩ (.int .i64 (-1)) = x2 at *
  go_wp2_with fail
  rw [rounds_succ]
  go_wp2_with fail
  go_ret
  exact ⟨_, rfl, O2.out, L2.out⟩
set_option maxRecDepth 100000 in
set_option maxHeartbeats 1600000 in
theorem c_rep3 (g : Nat) (w : World) (hR : Row w g 3 #[.int .i64 (-1)]) : Calls Try.prog 214 #[.slice (some ⟨g, 0, none⟩) 1 1, .int .i64 3] w fun e w' => ∃ v', e = .returned v' ∧ Own w' w.heap.size v' (List.replicate 3 (-1)) ∧ Below w.heap.size w w' := by
  obtain ⟨i0, hi, hz0, hz1, hz2⟩ := info_parts info_int
  have HC := Lib.hid (c_mul 3 (by simp) w)
  have HR := Lib.hid hR
  have HLT := Lib.hid hR.lt
  clear hR
  go_enter Try.func214, Try.ntmps214
  go_wp2_with (first
    | (go_at_call 218; refine HC.out.mono ?_; rintro e w9 ⟨rfl, rfl⟩)
    | (at_make; refine wpList_make_full _ rfl _ _ 24 rfl w.heap.size 3 i0 (.int .i64 0) 1 Try.underlying24 hi hz0 hz1 .i64 .i64 _ _ 3 rfl rfl rfl rfl (by rw [hz2]; omega) (by unfold maxLen; omega) (Nat.le_refl _) ?_; intro w1 hown hgr; rw [Nat.mul_one, show (Value.int .i64 0).cells = #[.int .i64 0] from rfl, toList_madeCells_one] at hown
       have q0 := hown.cellAt 0 (by omega)
       have f0 := hown.frozenAt 0
       have r0 := (Row.grown HR.out hgr).cell 0
       have hcp : (Builtin.copy_ #[24, 24] 3 #[.slice (some ⟨w.heap.size, 0, none⟩) 3 3, .slice (some ⟨g, 0, none⟩) 1 1]).run Try.prog w1 = .ok (.int .i64 1) (w1.setCell ⟨w.heap.size, 0, none⟩ (.int .i64 (-1))) := run_copy_cells (P := Try.prog) w1 24 24 3 3 w.heap.size 0 3 3 ⟨g, 0, none⟩ 1 1 [.int .i64 (-1)] Try.underlying24 size_int rfl (one_src r0) (fun j hj => by simp at hj; subst hj; rw [q0]; rfl) (fun j hj => by simp at hj; subst hj; exact f0) (fun v hv => by simp at hv; subst hv; rfl)
       have HO := Lib.hid hown; have HG := Lib.hid hgr; clear hown hgr q0 f0 r0))
  clear hcp
  have O1 : Hid (Own (w1.setCell ⟨w.heap.size, 0, none⟩ (.int .i64 (-1))) w.heap.size (.slice (some ⟨w.heap.size, 0, none⟩) 3 3) ([-1, 0, 0])) := (HO.out.stored 0 (.int .i64 (-1))).1
  have L1 : Hid (Below w.heap.size w (w1.setCell ⟨w.heap.size, 0, none⟩ (.int .i64 (-1)))) := ((Below.refl w.heap.size w).grown HG.out (Nat.le_refl _) (fun k hk => by cases hk)).setCell (p := ⟨w.heap.size, 0, none⟩) (Nat.le_refl _) (.int .i64 (-1))
  generalize (w1.setCell ⟨w.heap.size, 0, none⟩ (.int .i64 (-1))) = x1 at *
  refine wp_loop_rounds 3 ?_
  rw [rounds_succ]
  have hwr2 : IntKind.i64.wrap 2 = 2 := by decide
  go_wp2_with fail
  have O1d : Hid (Own x1.drew w.heap.size (.slice (some ⟨w.heap.size, 0, none⟩) 3 3) [-1, 0, 0]) := O1.out
  have L1d : Hid (Below w.heap.size w x1.drew) := below_drew L1.out
  have q0 := World.ownsRow.cellAt O1d.out 0 (by simp)
  have q1 := World.ownsRow.cellAt O1d.out 1 (by simp)
  have f1 := World.ownsRow.frozenAt O1d.out 1
  have hcp : (Builtin.copy_ #[24, 24] 3 #[.slice (some ⟨w.heap.size, 1, none⟩) 2 2, .slice (some ⟨w.heap.size, 0, none⟩) 1 3]).run Try.prog x1.drew = .ok (.int .i64 1) (x1.drew.setCell ⟨w.heap.size, 1, none⟩ (.int .i64 (-1))) := run_copy_cells (P := Try.prog) x1.drew 24 24 3 3 w.heap.size 1 2 2 ⟨w.heap.size, 0, none⟩ 1 3 [.int .i64 (-1)] Try.underlying24 size_int rfl (one_src q0) (fun j hj => by simp at hj; subst hj; rw [Nat.add_zero, q1]; rfl) (fun j hj => by simp at hj; subst hj; exact f1) (fun v hv => by simp at hv; subst hv; rfl)
  clear q0 q1 f1
  refine wp_region_held_drew (S := (fun _ => True)) (by kernel_rfl) (trivial) (fun hHeld => ?_)
  refine wpAnyH_take (i := 0) (v := ?va0x10) rfl (by kernel_rfl) (by kernel_rfl) (by kernel_rfl) (fun _ _ _ h => h) (Or.inl ⟨by rfl, ?hy0x10⟩) (by assumption) ?rest0x10
  case hy0x10 => (intro w hSw; (try dsimp only at hSw); go_simp; try with_reducible rfl)
  (try simp only [Act.put, List.getElem_toArray, List.getElem_cons_zero, List.setIfInBounds_toArray, List.set_cons_zero, List.set_cons_succ])
  refine wpAnyH_take (i := 1) (v := ?va1x11) rfl (by kernel_rfl) (by kernel_rfl) (by kernel_rfl) (fun _ _ _ h => h) (Or.inl ⟨by rfl, ?hy1x11⟩) (by assumption) ?rest1x11
  case hy1x11 => (intro w hSw; (try dsimp only at hSw); go_simp; try with_reducible rfl)
  (try simp only [Act.put, List.getElem_toArray, List.getElem_cons_zero, List.getElem_cons_succ, List.setIfInBounds_toArray, List.set_cons_zero, List.set_cons_succ])
  refine wpAnyH_take (i := 2) (v := ?va2x12) rfl (by kernel_rfl) (by kernel_rfl) (by kernel_rfl) (fun _ _ _ h => h) (Or.inl ⟨by rfl, ?hy2x12⟩) (by assumption) ?rest2x12
  case hy2x12 => (intro w hSw; (try dsimp only at hSw); go_simp; try with_reducible rfl)
  (try simp only [Act.put, List.getElem_toArray, List.getElem_cons_zero, List.getElem_cons_succ, List.setIfInBounds_toArray, List.set_cons_zero, List.set_cons_succ])
  refine wpAnyH_take (i := 3) (v := ?va3x13) rfl (by kernel_rfl) (by kernel_rfl) (by kernel_rfl) (fun _ _ _ h => h) (Or.inl ⟨by rfl, ?hy3x13⟩) (by assumption) ?rest3x13
  case hy3x13 => (intro w hSw; (try dsimp only at hSw); go_simp; try with_reducible rfl)
  (try simp only [Act.put, List.getElem_toArray, List.getElem_cons_zero, List.getElem_cons_succ, List.setIfInBounds_toArray, List.set_cons_zero, List.set_cons_succ])
  refine wpAnyH_take (i := 4) (v := ?va4x14) rfl (by kernel_rfl) (by kernel_rfl) (by kernel_rfl) (fun _ _ _ h => h) (Or.inl ⟨by rfl, ?hy4x14⟩) (by assumption) ?rest4x14
  case hy4x14 => (intro w hSw; (try dsimp only at hSw); go_simp; try with_reducible rfl)
  (try simp only [Act.put, List.getElem_toArray, List.getElem_cons_zero, List.getElem_cons_succ, List.setIfInBounds_toArray, List.set_cons_zero, List.set_cons_succ])
  refine wpAnyH_take (i := 5) (v := ?va5x15) rfl (by kernel_rfl) (by kernel_rfl) (by kernel_rfl) (fun _ _ _ h => h) (Or.inl ⟨by rfl, ?hy5x15⟩) (by assumption) ?rest5x15
  case hy5x15 => (intro w hSw; (try dsimp only at hSw); go_simp; try with_reducible rfl)
  (try simp only [Act.put, List.getElem_toArray, List.getElem_cons_zero, List.getElem_cons_succ, List.setIfInBounds_toArray, List.set_cons_zero, List.set_cons_succ])
  refine wpAnyH_take (i := 6) (v := ?va6x16) rfl (by kernel_rfl) (by kernel_rfl) (by kernel_rfl) (fun _ _ _ h => h) (Or.inl ⟨by rfl, ?hy6x16⟩) (by assumption) ?rest6x16
  case hy6x16 => (intro w hSw; (try dsimp only at hSw); go_simp; try with_reducible rfl)
  (try simp only [Act.put, List.getElem_toArray, List.getElem_cons_zero, List.getElem_cons_succ, List.setIfInBounds_toArray, List.set_cons_zero, List.set_cons_succ])
  refine wpAnyH_ready (rs := [7]) (by kernel_rfl) (by simp) ?_
  refine AllReadyH.cons rfl (fun K hK => ?_) AllReadyH.nil
  rw [if_pos (by rfl)]
  refine op_copy _ _ _ rfl rfl rfl hcp ?_
  refine hK.out _ _ trivial (fun hHeld => ?_)
  clear hK K hcp
  (try simp only [Act.put, List.getElem_toArray, List.getElem_cons_zero, List.getElem_cons_succ, List.setIfInBounds_toArray, List.set_cons_zero, List.set_cons_succ])
  refine wpAnyH_take (i := 8) (v := ?va8x17) rfl (by kernel_rfl) (by kernel_rfl) (by kernel_rfl) (fun _ _ _ h => h) (Or.inl ⟨by rfl, ?hy8x17⟩) (by assumption) ?rest8x17
  case hy8x17 => (intro w hSw; (try dsimp only at hSw); go_simp; try with_reducible rfl)
  (try simp only [Act.put, List.getElem_toArray, List.getElem_cons_zero, List.getElem_cons_succ, List.setIfInBounds_toArray, List.set_cons_zero, List.set_cons_succ])
  refine wpAnyH_take (i := 9) (v := ?va9x18) rfl (by kernel_rfl) (by kernel_rfl) (by kernel_rfl) (fun _ _ _ h => h) (Or.inl ⟨by rfl, ?hy9x18⟩) (by assumption) ?rest9x18
  case hy9x18 => (intro w hSw; (try dsimp only at hSw); go_simp; try with_reducible rfl)
  (try simp only [Act.put, List.getElem_toArray, List.getElem_cons_zero, List.getElem_cons_succ, List.setIfInBounds_toArray, List.set_cons_zero, List.set_cons_succ])
  refine wpAnyH_done (by kernel_rfl) ?_ _
  have O2 : Hid (Own (x1.drew.setCell ⟨w.heap.size, 1, none⟩ (.int .i64 (-1))) w.heap.size (.slice (some ⟨w.heap.size, 0, none⟩) 3 3) [-1, -1, 0]) := (World.ownsRow.stored O1d.out 1 (.int .i64 (-1))).1
  have L2 : Hid (Below w.heap.size w (x1.drew.setCell ⟨w.heap.size, 1, none⟩ (.int .i64 (-1)))) := L1d.out.setCell (p := ⟨w.heap.size, 1, none⟩) (Nat.le_refl _) (.int .i64 (-1))
  generalize x1.drew.setCell ⟨w.heap.size, 1, none⟩ (.int .i64 (-1)) = x2 at *
  go_wp2_with fail
  rw [rounds_succ]
  go_wp2_with fail
  have O2d : Hid (Own x2.drew w.heap.size (.slice (some ⟨w.heap.size, 0, none⟩) 3 3) [-1, -1, 0]) := O2.out
  have L2d : Hid (Below w.heap.size w x2.drew) := below_drew L2.out
  have q0 := World.ownsRow.cellAt O2d.out 0 (by simp)
  have q1 := World.ownsRow.cellAt O2d.out 2 (by simp)
  have f1 := World.ownsRow.frozenAt O2d.out 2
  have hcp : (Builtin.copy_ #[24, 24] 3 #[.slice (some ⟨w.heap.size, 2, none⟩) 1 1, .slice (some ⟨w.heap.size, 0, none⟩) 2 3]).run Try.prog x2.drew = .ok (.int .i64 1) (x2.drew.setCell ⟨w.heap.size, 2, none⟩ (.int .i64 (-1))) := run_copy_cells (P := Try.prog) x2.drew 24 24 3 3 w.heap.size 2 1 1 ⟨w.heap.size, 0, none⟩ 2 3 [.int .i64 (-1)] Try.underlying24 size_int rfl (one_src q0) (fun j hj => by simp at hj; subst hj; rw [Nat.add_zero, q1]; rfl) (fun j hj => by simp at hj; subst hj; exact f1) (fun v hv => by simp at hv; subst hv; rfl)
  clear q0 q1 f1
  refine wp_region_held_drew (S := (fun _ => True)) (by kernel_rfl) (trivial) (fun hHeld => ?_)
  refine wpAnyH_take (i := 0) (v := ?va0x19) rfl (by kernel_rfl) (by kernel_rfl) (by kernel_rfl) (fun _ _ _ h => h) (Or.inl ⟨by rfl, ?hy0x19⟩) (by assumption) ?rest0x19
  case hy0x19 => (intro w hSw; (try dsimp only at hSw); go_simp; try with_reducible rfl)
  (try simp only [Act.put, List.getElem_toArray, List.getElem_cons_zero, List.setIfInBounds_toArray, List.set_cons_zero, List.set_cons_succ])
  refine wpAnyH_take (i := 1) (v := ?va1x20) rfl (by kernel_rfl) (by kernel_rfl) (by kernel_rfl) (fun _ _ _ h => h) (Or.inl ⟨by rfl, ?hy1x20⟩) (by assumption) ?rest1x20
  case hy1x20 => (intro w hSw; (try dsimp only at hSw); go_simp; try with_reducible rfl)
  (try simp only [Act.put, List.getElem_toArray, List.getElem_cons_zero, List.getElem_cons_succ, List.setIfInBounds_toArray, List.set_cons_zero, List.set_cons_succ])
  refine wpAnyH_take (i := 2) (v := ?va2x21) rfl (by kernel_rfl) (by kernel_rfl) (by kernel_rfl) (fun _ _ _ h => h) (Or.inl ⟨by rfl, ?hy2x21⟩) (by assumption) ?rest2x21
  case hy2x21 => (intro w hSw; (try dsimp only at hSw); go_simp; try with_reducible rfl)
  (try simp only [Act.put, List.getElem_toArray, List.getElem_cons_zero, List.getElem_cons_succ, List.setIfInBounds_toArray, List.set_cons_zero, List.set_cons_succ])
  refine wpAnyH_take (i := 3) (v := ?va3x22) rfl (by kernel_rfl) (by kernel_rfl) (by kernel_rfl) (fun _ _ _ h => h) (Or.inl ⟨by rfl, ?hy3x22⟩) (by assumption) ?rest3x22
  case hy3x22 => (intro w hSw; (try dsimp only at hSw); go_simp; try with_reducible rfl)
  (try simp only [Act.put, List.getElem_toArray, List.getElem_cons_zero, List.getElem_cons_succ, List.setIfInBounds_toArray, List.set_cons_zero, List.set_cons_succ])
  refine wpAnyH_take (i := 4) (v := ?va4x23) rfl (by kernel_rfl) (by kernel_rfl) (by kernel_rfl) (fun _ _ _ h => h) (Or.inl ⟨by rfl, ?hy4x23⟩) (by assumption) ?rest4x23
  case hy4x23 => (intro w hSw; (try dsimp only at hSw); go_simp; try with_reducible rfl)
  (try simp only [Act.put, List.getElem_toArray, List.getElem_cons_zero, List.getElem_cons_succ, List.setIfInBounds_toArray, List.set_cons_zero, List.set_cons_succ])
  refine wpAnyH_take (i := 5) (v := ?va5x24) rfl (by kernel_rfl) (by kernel_rfl) (by kernel_rfl) (fun _ _ _ h => h) (Or.inl ⟨by rfl, ?hy5x24⟩) (by assumption) ?rest5x24
  case hy5x24 => (intro w hSw; (try dsimp only at hSw); go_simp; try with_reducible rfl)
  (try simp only [Act.put, List.getElem_toArray, List.getElem_cons_zero, List.getElem_cons_succ, List.setIfInBounds_toArray, List.set_cons_zero, List.set_cons_succ])
  refine wpAnyH_take (i := 6) (v := ?va6x25) rfl (by kernel_rfl) (by kernel_rfl) (by kernel_rfl) (fun _ _ _ h => h) (Or.inl ⟨by rfl, ?hy6x25⟩) (by assumption) ?rest6x25
  case hy6x25 => (intro w hSw; (try dsimp only at hSw); go_simp; try with_reducible rfl)
  (try simp only [Act.put, List.getElem_toArray, List.getElem_cons_zero, List.getElem_cons_succ, List.setIfInBounds_toArray, List.set_cons_zero, List.set_cons_succ])
  refine wpAnyH_ready (rs := [7]) (by kernel_rfl) (by simp) ?_
  refine AllReadyH.cons rfl (fun K hK => ?_) AllReadyH.nil
  rw [if_pos (by rfl)]
  refine op_copy _ _ _ rfl rfl rfl hcp ?_
  refine hK.out _ _ trivial (fun hHeld => ?_)
  clear hK K hcp
  (try simp only [Act.put, List.getElem_toArray, List.getElem_cons_zero, List.getElem_cons_succ, List.setIfInBounds_toArray, List.set_cons_zero, List.set_cons_succ])
  refine wpAnyH_take (i := 8) (v := ?va8x26) rfl (by kernel_rfl) (by kernel_rfl) (by kernel_rfl) (fun _ _ _ h => h) (Or.inl ⟨by rfl, ?hy8x26⟩) (by assumption) ?rest8x26
  case hy8x26 => (intro w hSw; (try dsimp only at hSw); go_simp; try with_reducible rfl)
  (try simp only [Act.put, List.getElem_toArray, List.getElem_cons_zero, List.getElem_cons_succ, List.setIfInBounds_toArray, List.set_cons_zero, List.set_cons_succ])
  refine wpAnyH_take (i := 9) (v := ?va9x27) rfl (by kernel_rfl) (by kernel_rfl) (by kernel_rfl) (fun _ _ _ h => h) (Or.inl ⟨by rfl, ?hy9x27⟩) (by assumption) ?rest9x27
  case hy9x27 => (intro w hSw; (try dsimp only at hSw); go_simp; try with_reducible rfl)
  (try simp only [Act.put, List.getElem_toArray, List.getElem_cons_zero, List.getElem_cons_succ, List.setIfInBounds_toArray, List.set_cons_zero, List.set_cons_succ])
  refine wpAnyH_done (by kernel_rfl) ?_ _
  have O3 : Hid (Own (x2.drew.setCell ⟨w.heap.size, 2, none⟩ (.int .i64 (-1))) w.heap.size (.slice (some ⟨w.heap.size, 0, none⟩) 3 3) [-1, -1, -1]) := (World.ownsRow.stored O2d.out 2 (.int .i64 (-1))).1
  have L3 : Hid (Below w.heap.size w (x2.drew.setCell ⟨w.heap.size, 2, none⟩ (.int .i64 (-1)))) := L2d.out.setCell (p := ⟨w.heap.size, 2, none⟩) (Nat.le_refl _) (.int .i64 (-1))
  generalize x2.drew.setCell ⟨w.heap.size, 2, none⟩ (.int .i64 (-1)) = x3 at *
  go_wp2_with fail
  rw [rounds_succ]
  go_wp2_with fail
  go_ret
  exact ⟨_, rfl, O3.out, L3.out⟩
end Go.Proofs.Ytbmfkgfmibpkjaa
namespace Go.Proofs.Ytbmfkgfmibpkjaa
open Go.RowKit Ph

theorem op_app {P : Program} {o : Oper} {q : Act} {w w' : World} {K : Act → World → Prop} {Q : Exit → Act → World → Prop} {vs vx v' : Value} (s x : Operand) (t : TypeId) (hop : o.op = Op.call { callee := Callee.builtin Builtin.append, args := #[s, x], argTypes := #[t, t] }) (hs : q.eval s = vs) (hx : q.eval x = vx)
    (hrun : (Builtin.append_ #[t, t] o.type #[vs, vx]).run P w = .ok v' w') (h : K (q.put o.dst v') w') : Oper.wp P o q w K Q := by
  unfold Oper.wp
  simp [execOp, hop, resolve, invoke, builtin, hs, hx, hrun, Result.andThen]
  exact h
/-- A copy under way: what is live, and the roots. -/
structure OwnSt (w W : World) (fa la ra vA vB : Value) (lA : List Bool) (rB : List Int) : Prop where
  ow : OwnH W w.heap.size W.heap.size (.slice none 0 0) vA vB ⟨[], lA, rB⟩
  rp : RowH W w.heap.size fa la ra
  r2 : RowH W (w.heap.size + 1) (.slice none 0 0) (.slice none 0 0) (.slice none 0 0)
  l : Below w.heap.size w W
  sz : w.heap.size + 2 ≤ W.heap.size
section
variable {w W : World} {fa la ra vA vB : Value} {lA : List Bool} {rB : List Int}
theorem own_empty (W : World) (T : TypeId) : (W.alloc (.cells #[] T)).ownsRow W.heap.size T 1 (.slice (some ⟨W.heap.size, 0, none⟩) 0 0) 0 [] := ⟨rfl, .inr ⟨W.heap.size, 0, #[], rfl, Nat.le_refl _, heap_alloc_new _ _, Nat.le_refl _, by unfold maxLen; omega, rfl, rfl⟩⟩
theorem OwnSt.allocB (k : OwnSt w W fa la ra (.slice none 0 0) vB [] rB) : OwnSt w (W.alloc (.cells #[] 4)) fa la ra (.slice (some ⟨W.heap.size, 0, none⟩) 0 0) vB [] rB :=
  ⟨(k.ow.below (below1 W _)).addLive (own_empty W 4) (by have := k.sz; omega) (by simp), Row.alloc k.rp _, Row.alloc k.r2 _, k.l.alloc k.l.size _, by have := k.sz; simp; omega⟩
theorem OwnSt.allocI (k : OwnSt w W fa la ra vA (.slice none 0 0) lA []) : OwnSt w (W.alloc (.cells #[] 3)) fa la ra vA (.slice (some ⟨W.heap.size, 0, none⟩) 0 0) lA [] :=
  ⟨(k.ow.below (below1 W _)).addRoots (own_empty W 3) (by have := k.sz; omega) (by simp), Row.alloc k.rp _, Row.alloc k.r2 _, k.l.alloc k.l.size _, by have := k.sz; simp; omega⟩
theorem OwnSt.allocC (k : OwnSt w W fa la ra vA vB lA rB) : OwnSt w (W.alloc (.cells (c3 (.slice none 0 0) (.slice none 0 0) (.slice none 0 0)) 32)) fa la ra vA vB lA rB :=
  ⟨(k.ow.below (below1 W _)).wide (Nat.le_refl _) (by simp), Row.alloc k.rp _, Row.alloc k.r2 _, k.l.alloc k.l.size _, by have := k.sz; simp; omega⟩
theorem own_store {g : Nat} {a0 b0 c0 : Value} (k : OwnSt w W fa la ra vA vB lA rB) (hr : RowH W g a0 b0 c0) (hg : w.heap.size + 2 ≤ g) (x y z : Value) : OwnSt w (((W.setCell ⟨g, 0, none⟩ x).setCell ⟨g, 1, none⟩ y).setCell ⟨g, 2, none⟩ z) fa la ra vA vB lA rB :=
  ⟨by simp only [World.size_setCell]; exact k.ow.set3 hr x y z, Row.other (Row.other (Row.other k.rp ⟨g, 0, none⟩ (by simp; omega) x) ⟨g, 1, none⟩ (by simp; omega) y) ⟨g, 2, none⟩ (by simp; omega) z, Row.other (Row.other (Row.other k.r2 ⟨g, 0, none⟩ (by simp; omega) x) ⟨g, 1, none⟩ (by simp; omega) y) ⟨g, 2, none⟩ (by simp; omega) z, below_set3 k.l (by omega) x y z, by simp only [World.size_setCell]; exact k.sz⟩
theorem row_grown {W' : World} {B g : Nat} {T : TypeId} {v : Value} {n : Nat} {xs : List Value} {cs : Array Value} (ho : W.ownsRow B T 1 v n xs) (hT : T ≠ 32) (hg : W.grownBy W' v.ownBlock) (hr : Row W g 32 cs) : Row W' g 32 cs :=
  (hg.block g hr.lt (fun e => owns_ne_row ho hr hT e.symm rfl)).trans hr
theorem grown_below {W' : World} {B : Nat} {T : TypeId} {v : Value} {n : Nat} {xs : List Value} (hb : Below B w W) (hB : B ≤ W.heap.size) (ho : W.ownsRow B T 1 v n xs) (hg : W.grownBy W' v.ownBlock) : Below B w W' := hb.grown hg hB (fun _ hk => (owns_lt ho hk).1)
theorem OwnSt.appB {bs : List Bool} (k : OwnSt w W fa la ra vA vB [] rB) (hs : BoolsAt w la bs) (hm : bs.length ≤ 1048576) (ty : TypeId) : ∃ v' W', (Builtin.append_ #[23, 23] ty #[vA, la]).run Try.prog W = .ok v' W' ∧ OwnSt w W' fa la ra v' vB bs rB ∧ ∀ g a b c, RowH W g a b c → RowH W' g a b c := by
  obtain ⟨i0, hi, hz0, hz1, hz2⟩ := info_parts info_boolz
  obtain ⟨us, hf⟩ := k.ow
  have ho : W.ownsRow w.heap.size 4 1 vA 0 [] := hf.live
  obtain ⟨v', W', hr, h1, h2, h3⟩ := run_appOwn (P := Try.prog) W w.heap.size 23 ty 4 i0 (.bool false) 1 Try.underlying23 hi hz0 hz1 hz2 rfl vA 0 [] ho la _ (hs.below k.l).src (by rw [List.length_map]; unfold maxLen; omega) (by rw [List.length_map]; omega) (by have := k.sz; omega)
  rw [List.nil_append, Nat.zero_add, List.length_map] at h1
  refine ⟨v', W', hr, ⟨⟨us, hf.turnLive h2 h1 h2.size (fun g hg => ?_)⟩, row_grown ho (by decide) h2 k.rp, row_grown ho (by decide) h2 k.r2, grown_below k.l (by have := k.sz; omega) ho h2, Nat.le_trans k.sz h2.size⟩, fun g a b c hr => row_grown ho (by decide) h2 hr⟩
  rcases h3 with h3 | h3
  · exact .inr (by rw [← h3]; exact hg)
  · rw [hg] at h3; cases h3; exact .inl ⟨Nat.le_refl _, (owns_lt h1 hg).2⟩
theorem OwnSt.appI {zs : List Int} (k : OwnSt w W fa la ra vA vB lA []) (hs : IntsAt w ra zs) (hm : zs.length ≤ 1048576) (ty : TypeId) : ∃ v' W', (Builtin.append_ #[24, 24] ty #[vB, ra]).run Try.prog W = .ok v' W' ∧ OwnSt w W' fa la ra vA v' lA zs ∧ ∀ g a b c, RowH W g a b c → RowH W' g a b c := by
  obtain ⟨i0, hi, hz0, hz1, hz2⟩ := info_parts info_int
  obtain ⟨us, hf⟩ := k.ow
  have ho : W.ownsRow w.heap.size 3 1 vB 0 [] := hf.roots
  obtain ⟨v', W', hr, h1, h2, h3⟩ := run_appOwn (P := Try.prog) W w.heap.size 24 ty 3 i0 (.int .i64 0) 8 Try.underlying24 hi hz0 hz1 hz2 rfl vB 0 [] ho ra _ (hs.below k.l).src (by rw [List.length_map]; unfold maxLen; omega) (by rw [List.length_map]; omega) (by have := k.sz; omega)
  rw [List.nil_append, Nat.zero_add, List.length_map] at h1
  refine ⟨v', W', hr, ⟨⟨us, hf.turnRoots h2 h1 h2.size (fun g hg => ?_)⟩, row_grown ho (by decide) h2 k.rp, row_grown ho (by decide) h2 k.r2, grown_below k.l (by have := k.sz; omega) ho h2, Nat.le_trans k.sz h2.size⟩, fun g a b c hr => row_grown ho (by decide) h2 hr⟩
  rcases h3 with h3 | h3
  · exact .inr (by rw [← h3]; exact hg)
  · rw [hg] at h3; cases h3; exact .inl ⟨Nat.le_refl _, (owns_lt h1 hg).2⟩
end
end Go.Proofs.Ytbmfkgfmibpkjaa
namespace Go.Proofs.Ytbmfkgfmibpkjaa
open Go.RowKit Ph

theorem src_one (W : World) (y : Value) (hy : y.oneCell' = true) : SrcAt (W.alloc (.cells #[y] 24)) (.slice (some ⟨W.heap.size, 0, none⟩) 1 1) [y] :=
  ⟨_, 1, rfl, fun u hu => by simp at hu; rw [hu]; exact hy, fun _ => ⟨W.heap.size, 0, rfl, fun j hj => by simp at hj; subst hj; exact Row.cell (Row.new W 24 #[y]) 0⟩⟩
structure Lp (w W : World) (gC hi0 : Nat) (A B C : Value) (h : H) : Prop where
  rw' : RowH W gC A B C
  ow : OwnH W w.heap.size hi0 A B C h
  r2 : RowH W (w.heap.size + 1) (.slice none 0 0) (.slice none 0 0) (.slice none 0 0)
  l : Below w.heap.size w W
  hi : hi0 ≤ W.heap.size
  lo : w.heap.size + 2 ≤ hi0
section
variable {w W : World} {gC hi0 : Nat} {A B C : Value} {h : H}
theorem Lp.alloc (k : Lp w W gC hi0 A B C h) (o : Obj) : Lp w (W.alloc o) gC hi0 A B C h :=
  ⟨Row.alloc k.rw' o, k.ow.below (below1 W o), Row.alloc k.r2 o, k.l.alloc (by have := k.hi; have := k.lo; omega) o, by have := k.hi; simp; omega, k.lo⟩
theorem Lp.app {x y : Value} {zs : List Int} (k : Lp w W gC hi0 A B C h) (e : W.ownsRow hi0 3 1 y 0 []) (hs : IntsAt w x zs) (hm : zs.length ≤ 1048576) (ty : TypeId) :
    ∃ v' W', (Builtin.append_ #[24, 24] ty #[y, x]).run Try.prog W = .ok v' W' ∧ Lp w W' gC hi0 A B C h ∧ Own W' hi0 v' zs := by
  obtain ⟨i0, hi, hz0, hz1, hz2⟩ := info_parts info_int
  obtain ⟨v', W', hr, h1, h2, _⟩ := run_appOwn (P := Try.prog) W hi0 24 ty 3 i0 (.int .i64 0) 8 Try.underlying24 hi hz0 hz1 hz2 rfl y 0 [] e x _ (hs.below k.l).src (by rw [List.length_map]; unfold maxLen; omega) (by rw [List.length_map]; omega) k.hi
  rw [List.nil_append, Nat.zero_add, List.length_map] at h1
  have hlo := k.lo
  have hch : Chg hi0 W.heap.size W W' := Chg.of_grown h2 fun g hg => owns_lt e hg
  refine ⟨v', W', hr, ⟨row_grown e (by decide) h2 k.rw', k.ow.chg hch (.inl (Nat.le_refl _)), row_grown e (by decide) h2 k.r2, below_chg k.l hch (by omega) (by have := k.hi; omega), Nat.le_trans k.hi h2.size, k.lo⟩, h1⟩
theorem Lp.grow {y z : Value} {zs : List Int} (k : Lp w W gC hi0 A B C h) (e : Own W hi0 y zs) (hz : SrcAt W z [y]) (hn : h.f.length ≤ 1000) (ty : TypeId) :
    ∃ v' W', (Builtin.append_ #[22, 22] ty #[A, z]).run Try.prog W = .ok v' W' ∧ RowH W' gC A B C ∧ OwnH W' w.heap.size W'.heap.size v' B C ⟨h.f ++ [zs], h.l, h.r⟩ ∧ RowH W' (w.heap.size + 1) (.slice none 0 0) (.slice none 0 0) (.slice none 0 0) ∧ Below w.heap.size w W' ∧ w.heap.size + 2 ≤ W'.heap.size ∧ ∃ pa qa, v' = .slice pa (h.f.length + 1) qa := by
  obtain ⟨i0, hi, hz0, hz1, hz2⟩ := info_parts info_ints
  obtain ⟨us, hf⟩ := k.ow
  have ho := hf.outer
  obtain ⟨v', W', hr, h1, h2, h3⟩ := run_appOwn (P := Try.prog) W w.heap.size 22 ty 24 i0 (.slice none 0 0) 24 Try.underlying22 hi hz0 hz1 hz2 rfl A h.f.length _ ho z [y] hz (by simp; unfold maxLen; omega) (by simp; omega) (by have := k.hi; have := k.lo; omega)
  have hlo := k.lo
  have hhi := k.hi
  have h1' : W'.ownsRow w.heap.size 24 1 v' (h.f.length + 1) ((List.range h.f.length).map us ++ [y]) := h1
  refine ⟨v', W', hr, row_grown ho (by decide) h2 k.rw', ⟨_, hf.growRow (hi1 := W.heap.size) (e.mono (by omega)) (fun g hg => owns_lt e hg) hhi h2 h1' h2.size (fun g hg => ?_)⟩, row_grown ho (by decide) h2 k.r2, grown_below k.l (by omega) ho h2, by have := h2.size; omega, ?_⟩
  · rcases h3 with h3 | h3
    · exact .inr (by rw [← h3]; exact hg)
    · rw [hg] at h3; cases h3; exact .inl ⟨Nat.le_refl _, (owns_lt h1' hg).2⟩
  · rcases h1'.2 with ⟨_, h0⟩ | ⟨g, cap, cur, hv, _⟩
    · omega
    · exact ⟨_, _, hv⟩
end
end Go.Proofs.Ytbmfkgfmibpkjaa
namespace Go.Proofs.Ytbmfkgfmibpkjaa.Ph
def newOk (h : H) (m : Int) : Bool := good h && decide (0 ≤ m) && decide (m ≤ 3) && decide (placeOf h.l < 12)
/-- One object more, not live. -/
def grown1 (h : H) : H := if placeOf h.l < h.l.length then h else ⟨h.f ++ [[]], h.l ++ [false], h.r⟩
def put1 (h : H) (p : Nat) (m : Nat) : H := ⟨h.f.set p (List.replicate m (-1)), h.l.set p true, h.r⟩
def newP (h : H) (m : Int) : H × Nat := if newOk h m = true then (put1 (grown1 h) (placeOf h.l) m.toNat, placeOf h.l) else (⟨[], [], []⟩, 0)
theorem newP_no {h : H} {m : Int} (k : newOk h m = false) : newP h m = (⟨[], [], []⟩, 0) := by unfold newP; rw [k]; rfl
theorem newP_yes {h : H} {m : Int} (k : newOk h m = true) : newP h m = (put1 (grown1 h) (placeOf h.l) m.toNat, placeOf h.l) := by unfold newP; rw [k]; rfl
end Go.Proofs.Ytbmfkgfmibpkjaa.Ph
namespace Go.Proofs.Ytbmfkgfmibpkjaa
open Go.RowKit Ph

theorem c_slRepeat (m g : Nat) (hm : m ≤ 3) (w : World) (hR : Row w g 3 #[.int .i64 (-1)]) : Calls Try.prog 214 #[.slice (some ⟨g, 0, none⟩) 1 1, .int .i64 (m : Int)] w fun e w' => ∃ v', e = .returned v' ∧ Own w' w.heap.size v' (List.replicate m (-1)) ∧ Below w.heap.size w w' := by
  match m, hm with
  | 0, _ => exact c_rep0 g w hR
  | 1, _ => exact c_rep1 g w hR
  | 2, _ => exact c_rep2 g w hR
  | 3, _ => exact c_rep3 g w hR
theorem src_bool (W : World) (b : Bool) : SrcAt (W.alloc (.cells #[.bool b] 4)) (.slice (some ⟨W.heap.size, 0, none⟩) 1 1) ([b].map Value.bool) :=
  ⟨_, 1, rfl, fun u hu => by simp at hu; rw [hu]; rfl, fun _ => ⟨W.heap.size, 0, rfl, fun j hj => by simp at hj; subst hj; exact Row.cell (Row.new W 4 #[.bool b]) 0⟩⟩
theorem wl_appRun {P : Program} {w w' : World} {ops : Array Oper} {rest : List Oper} {o : Oper} {q : Act} {Q : Exit → Act → World → Prop} {vs vx v' : Value} (hgd : o.guard = none) (s x : Operand) (t : TypeId) (hop : o.op = Op.call { callee := Callee.builtin Builtin.append, args := #[s, x], argTypes := #[t, t] }) (hs : q.eval s = vs) (hx : q.eval x = vx)
    (hrun : (Builtin.append_ #[t, t] o.type #[vs, vx]).run P w = .ok v' w') (h : wpList P ops Q rest (q.put o.dst v') w') : wpList P ops Q (o :: rest) q w := wpList_plain hgd fun _ hK => op_app s x t hop hs hx hrun (hK _ _ h)
theorem ext_live {w : World} {lo hi : Nat} {a b c : Value} {h : H} (k : OwnH w lo hi a b c h) (hl : lo ≤ hi) (hs : hi ≤ w.heap.size) (hn : h.l.length ≤ 1000) (x : Bool) (ty : TypeId) :
    ∃ v1 w1, (Builtin.append_ #[23, 23] ty #[b, .slice (some ⟨w.heap.size, 0, none⟩) 1 1]).run Try.prog (w.alloc (.cells #[.bool x] 4)) = .ok v1 w1 ∧ OwnH w1 lo w1.heap.size a v1 c ⟨h.f, h.l ++ [x], h.r⟩ ∧ (∀ g a b c, RowH w g a b c → RowH w1 g a b c) ∧ (∀ B w0, B ≤ lo → Below B w0 w → Below B w0 w1) ∧ w.heap.size ≤ w1.heap.size ∧ ∃ p q, v1 = .slice p (h.l.length + 1) q := by
  obtain ⟨i0, hi0, hz0, hz1, hz2⟩ := info_parts info_boolz
  obtain ⟨us, hf0⟩ := k
  have hf : FamH (w.alloc (.cells #[.bool x] 4)) lo hi a b c us h := Fam.below hf0 (below1 w _)
  have ho := hf.live
  obtain ⟨v', W', hr, h1, h2, h3⟩ := run_appOwn (P := Try.prog) (w.alloc (.cells #[.bool x] 4)) lo 23 ty 4 i0 (.bool false) 1 Try.underlying23 hi0 hz0 hz1 hz2 rfl b h.l.length _ ho _ _ (src_bool w x) (by simp; unfold maxLen; omega) (by simp; omega) (by simp; omega)
  have h1' : OwnBs W' lo v' (h.l ++ [x]) := by unfold OwnBs; rw [List.map_append, List.length_append]; exact h1
  have hsz : (w.alloc (.cells #[.bool x] 4)).heap.size = w.heap.size + 1 := World.size_alloc _ _
  have h2s := h2.size
  refine ⟨v', W', hr, ⟨us, hf.turnLive h2 h1' (by omega) (fun g hg => ?_)⟩, fun g a b c hr => row_grown ho (by decide) h2 (Row.alloc hr _), fun B w0 hB hb => (hb.alloc (by omega) _).grown h2 (by omega) (fun g hg => by have := (owns_lt ho hg).1; omega), by omega, ?_⟩
  · rcases h3 with h3 | h3
    · exact .inr (by rw [← h3]; exact hg)
    · rw [hg] at h3; cases h3; exact .inl ⟨by omega, (owns_lt h1' hg).2⟩
  · rcases h1.2 with ⟨_, h0⟩ | ⟨g, cap, cur, hv, _⟩
    · simp at h0
    · exact ⟨_, _, hv⟩
theorem ext_rows {w : World} {lo hi : Nat} {a b c : Value} {h : H} (k : OwnH w lo hi a b c h) (hl : lo ≤ hi) (hs : hi ≤ w.heap.size) (hn : h.f.length ≤ 1000) (ty : TypeId) :
    ∃ v1 w1, (Builtin.append_ #[22, 22] ty #[a, .slice (some ⟨w.heap.size, 0, none⟩) 1 1]).run Try.prog (w.alloc (.cells #[.slice none 0 0] 24)) = .ok v1 w1 ∧ OwnH w1 lo w1.heap.size v1 b c ⟨h.f ++ [[]], h.l, h.r⟩ ∧ (∀ g a b c, RowH w g a b c → RowH w1 g a b c) ∧ (∀ B w0, B ≤ lo → Below B w0 w → Below B w0 w1) ∧ w.heap.size ≤ w1.heap.size ∧ ∃ p q, v1 = .slice p (h.f.length + 1) q := by
  obtain ⟨i0, hi0, hz0, hz1, hz2⟩ := info_parts info_ints
  obtain ⟨us, hf0⟩ := k
  have hf : FamH (w.alloc (.cells #[.slice none 0 0] 24)) lo hi a b c us h := Fam.below hf0 (below1 w _)
  have ho := hf.outer
  obtain ⟨v', W', hr, h1, h2, h3⟩ := run_appOwn (P := Try.prog) (w.alloc (.cells #[.slice none 0 0] 24)) lo 22 ty 24 i0 (.slice none 0 0) 24 Try.underlying22 hi0 hz0 hz1 hz2 rfl a h.f.length _ ho _ [.slice none 0 0] (src_one w _ rfl) (by simp; unfold maxLen; omega) (by simp; omega) (by simp; omega)
  have h1' : W'.ownsRow lo 24 1 v' (h.f.length + 1) ((List.range h.f.length).map us ++ [.slice none 0 0]) := h1
  have hsz : (w.alloc (.cells #[.slice none 0 0] 24)).heap.size = w.heap.size + 1 := World.size_alloc _ _
  have h2s := h2.size
  refine ⟨v', W', hr, ⟨_, hf.growRow (hi1 := w.heap.size + 1) (Own.nil _ lo) (fun g hg => by cases hg) (by omega) h2 h1' (by omega) (fun g hg => ?_)⟩, fun g a b c hr => row_grown ho (by decide) h2 (Row.alloc hr _), fun B w0 hB hb => (hb.alloc (by omega) _).grown h2 (by omega) (fun g hg => by have := (owns_lt ho hg).1; omega), by omega, ?_⟩
  · rcases h3 with h3 | h3
    · exact .inr (by rw [← h3]; exact hg)
    · rw [hg] at h3; cases h3; exact .inl ⟨by omega, (owns_lt h1' hg).2⟩
  · rcases h1'.2 with ⟨_, h0⟩ | ⟨g, cap, cur, hv, _⟩
    · simp at h0
    · exact ⟨_, _, hv⟩
/-- A new row stored in a heap that is the call's own. -/
theorem putRow1 {w : World} {lo hi : Nat} {a b c : Value} {h : H} (k : OwnH w lo hi a b c h) {j : Nat} (hj : j < h.f.length) {u : Value} {zs : List Int} (ho : Own w hi u zs) (hl : lo ≤ hi) (hs : hi ≤ w.heap.size) : ∃ ga ca x, a = .slice (some ⟨ga, 0, none⟩) h.f.length ca ∧ w.cell? ⟨ga, j, none⟩ = some x ∧ w.frozen? ⟨ga, j, none⟩ = false ∧ lo ≤ ga ∧ (∀ g cs, Row w g 32 cs → ga ≠ g) ∧ OwnH (w.setCell ⟨ga, j, none⟩ u) lo w.heap.size a b c ⟨h.f.set j zs, h.l, h.r⟩ := by
  obtain ⟨us, hf⟩ := k
  rcases hf.shape with ⟨_, h0⟩ | ⟨ga, ca, ha⟩
  · rw [h0] at hj; simp at hj
  obtain ⟨c1, f1⟩ := hf.cell ha hj
  obtain ⟨s1, _⟩ := hf.putRow hj (ho.mono hl) hs (fun g hg => .inl (owns_lt ho hg)) ha
  have := Fam.blk hf (k := 0) (g := ga) (by omega) (by show a.ownBlock = _; rw [ha]; rfl)
  exact ⟨ga, ca, _, ha, c1, f1, this.1, fun g cs hr => owns_ne_row hf.outer hr (by decide) (by rw [ha]; rfl), ⟨_, s1⟩⟩
end Go.Proofs.Ytbmfkgfmibpkjaa
namespace Go.Proofs.Ytbmfkgfmibpkjaa
open Go.RowKit Ph

theorem OwnH.liveNe {w : World} {lo hi gb n cb g : Nat} {a c : Value} {h : H} {cs : Array Value} (k : OwnH w lo hi a (.slice (some ⟨gb, 0, none⟩) n cb) c h) (hr : Row w g 32 cs) : gb ≠ g := by
  obtain ⟨us, hf⟩ := k
  exact owns_ne_row hf.live hr (by decide) rfl
set_option maxRecDepth 100000 in
set_option maxHeartbeats 6400000 in
theorem c_NewThing (a b c : Value) (h : H) (m : Int) (w : World) (hA : HeapAt w a b c h) : Calls Try.prog 200 #[hv a b c, .int .i64 m] w (EndHI (newP h m).1 ((newP h m).2 : Int) (newOk h m) w) := by
  have hb0 := (below1 w (.cells (c3 a b c) 32)).alloc (by simp) (.cells (c3 (.slice none 0 0) (.slice none 0 0) (.slice none 0 0)) 32)
  have A0 := Lib.hid (hA.below hb0)
  have HB := Lib.hid hb0
  have P0 := Lib.hid (show RowH _ _ a b c from (Row.new w 32 (c3 a b c)).alloc (.cells (c3 (.slice none 0 0) (.slice none 0 0) (.slice none 0 0)) 32))
  have R0 := Lib.hid (show RowH _ (w.heap.size + 1) (.slice none 0 0) (.slice none 0 0) (.slice none 0 0) from Row.new1 w (.cells (c3 a b c) 32) 32 (c3 (.slice none 0 0) (.slice none 0 0) (.slice none 0 0)))
  clear hA hb0
  have HC := Lib.hid (c_GoodHeap a b c h _ A0.out)
  have G1 := Lib.hid (good_iff (h := h)).1
  have E1 := Lib.hid (newP_no (h := h) (m := m))
  have E2 := Lib.hid (newP_yes (h := h) (m := m))
  have hok : newOk h m = (good h && decide (0 ≤ m) && decide (m ≤ 3) && decide (placeOf h.l < 12)) := rfl
  generalize good h = x at *
  generalize newOk h m = ok at *
  have p0 := P0.out.c0
  have p1 := P0.out.c1
  have p2 := P0.out.c2
  cases x
  · have HE : Hid (ok = false) := by unfold Hid; rw [hok]; rfl
    clear hok
    go_enter Try.func200, Try.ntmps200
    go_wp2_with (first
      | (go_at_call 106; refine HC.out.mono ?_; rintro e w1 ⟨rfl, hb1⟩; have B1 := Lib.hid (bst HB.out hb1 HB.out.size); have A1 := Lib.hid (A0.out.below hb1); have P1 := Lib.hid (P0.out.below hb1); have R1 := Lib.hid (R0.out.below hb1); have d10 := P1.out.c0; have d11 := P1.out.c1; have d12 := P1.out.c2; clear hb1)
      | (refine wl_storeH rfl _ _ rfl (w.heap.size + 1) (.slice none 0 0) (.slice none 0 0) (.slice none 0 0) _ _ _ R1.out rfl rfl rfl rfl rfl ?_))
    refine bodyPost_ret (res_row_slot2 Try.results200 (Row.put R1.out (c3 (.slice none 0 0) (.slice none 0 0) (.slice none 0 0))) rfl rfl rfl Try.underlying32 rfl info_heap) rfl (endHI_no (below_setRow B1.out (by omega) _) (by rw [E1.out HE.out]) (by rw [E1.out HE.out]; rfl) HE.out)
  · have G := Lib.hid (G1.out rfl)
    by_cases m0 : m < 0
    · have HE : Hid (ok = false) := by unfold Hid; rw [hok, decide_eq_false (show ¬ 0 ≤ m by omega)]; rfl
      clear hok
      go_enter Try.func200, Try.ntmps200
      go_wp2_with (first
        | (go_at_call 106; refine HC.out.mono ?_; rintro e w1 ⟨rfl, hb1⟩; have B1 := Lib.hid (bst HB.out hb1 HB.out.size); have A1 := Lib.hid (A0.out.below hb1); have P1 := Lib.hid (P0.out.below hb1); have R1 := Lib.hid (R0.out.below hb1); have d10 := P1.out.c0; have d11 := P1.out.c1; have d12 := P1.out.c2; clear hb1)
        | (refine wl_storeH rfl _ _ rfl (w.heap.size + 1) (.slice none 0 0) (.slice none 0 0) (.slice none 0 0) _ _ _ R1.out rfl rfl rfl rfl rfl ?_))
      refine bodyPost_ret (res_row_slot2 Try.results200 (Row.put R1.out (c3 (.slice none 0 0) (.slice none 0 0) (.slice none 0 0))) rfl rfl rfl Try.underlying32 rfl info_heap) rfl (endHI_no (below_setRow B1.out (by omega) _) (by rw [E1.out HE.out]) (by rw [E1.out HE.out]; rfl) HE.out)
    · by_cases m3 : 3 < m
      · have HE : Hid (ok = false) := by unfold Hid; rw [hok, decide_eq_false (show ¬ m ≤ 3 by omega)]; simp
        clear hok
        go_enter Try.func200, Try.ntmps200
        go_wp2_with (first
          | (go_at_call 106; refine HC.out.mono ?_; rintro e w1 ⟨rfl, hb1⟩; have B1 := Lib.hid (bst HB.out hb1 HB.out.size); have A1 := Lib.hid (A0.out.below hb1); have P1 := Lib.hid (P0.out.below hb1); have R1 := Lib.hid (R0.out.below hb1); have d10 := P1.out.c0; have d11 := P1.out.c1; have d12 := P1.out.c2; clear hb1)
          | (refine wl_storeH rfl _ _ rfl (w.heap.size + 1) (.slice none 0 0) (.slice none 0 0) (.slice none 0 0) _ _ _ R1.out rfl rfl rfl rfl rfl ?_))
        refine bodyPost_ret (res_row_slot2 Try.results200 (Row.put R1.out (c3 (.slice none 0 0) (.slice none 0 0) (.slice none 0 0))) rfl rfl rfl Try.underlying32 rfl info_heap) rfl (endHI_no (below_setRow B1.out (by omega) _) (by rw [E1.out HE.out]) (by rw [E1.out HE.out]; rfl) HE.out)
      · obtain ⟨mm, rfl⟩ : ∃ k : Nat, m = k := ⟨m.toNat, by omega⟩
        have hmm : mm ≤ 3 := by omega
        rw [decide_eq_true (show (0 : Int) ≤ (mm : Int) by omega), decide_eq_true (show (mm : Int) ≤ 3 by omega)] at hok
        have hple := place_le h.l
        have hln : h.l.length ≤ 12 := by have := G.out.ll; have := G.out.n; omega
        have HLF : Hid (h.l.length = h.f.length) := G.out.ll
        have n1 : ¬ (mm : Int) < 0 := by omega
        have n2 : ¬ (3 : Int) < (mm : Int) := by omega
        have HFP : Hid (∀ w', HeapAt w' a b c h → Calls Try.prog 213 #[hv a b c] w' fun e w'' => e = .returned (.tuple #[.int .i64 (placeOf h.l : Int), .bool (decide (placeOf h.l < 12))]) ∧ Below w'.heap.size w' w'') := fun w' hh => c_freePlace a b c h w' hh G.out
        by_cases h12 : placeOf h.l < 12
        · have HPL : Hid (decide (placeOf h.l < 12) = true) := decide_eq_true h12
          have HE : Hid (ok = true) := by unfold Hid; rw [hok, HPL.out]; rfl
          have hE2 := E2.out HE.out
          rw [Int.toNat_natCast] at hE2
          have HE1 : Hid ((newP h (mm : Int)).1 = put1 (grown1 h) (placeOf h.l) mm) := by unfold Hid; rw [hE2]
          have HE2 : Hid (((newP h (mm : Int)).2 : Int) = (placeOf h.l : Int)) := by unfold Hid; rw [hE2]
          have HG1 : Hid (placeOf h.l < h.l.length → grown1 h = h) := fun k => by unfold grown1; rw [if_pos k]
          have HG2 : Hid (¬ placeOf h.l < h.l.length → grown1 h = ⟨h.f ++ [[]], h.l ++ [false], h.r⟩) := fun k => by unfold grown1; rw [if_neg k]
          clear hE2 hok
          generalize (newP h (mm : Int)).1 = c1 at *
          generalize (newP h (mm : Int)).2 = c2 at *
          generalize hp : placeOf h.l = p at *
          clear hp
          go_enter Try.func200, Try.ntmps200
          go_wp2_with (first
            | (go_at_call 106; refine HC.out.mono ?_; rintro e w1 ⟨rfl, hb1⟩; have B1 := Lib.hid (bst HB.out hb1 HB.out.size); have A1 := Lib.hid (A0.out.below hb1); have P1 := Lib.hid (P0.out.below hb1); have R1 := Lib.hid (R0.out.below hb1); have d10 := P1.out.c0; have d11 := P1.out.c1; have d12 := P1.out.c2; clear hb1)
            | (go_at_call 213; refine (HFP.out _ A1.out).mono ?_; rintro e w2 ⟨rfl, hb2⟩; rw [HPL.out]; have B2 := Lib.hid (bst B1.out hb2 B1.out.size); have A2 := Lib.hid (A1.out.below hb2); have P2 := Lib.hid (P1.out.below hb2); have R2 := Lib.hid (R1.out.below hb2); have d20 := P2.out.c0; have d21 := P2.out.c1; have d22 := P2.out.c2; clear hb2))
          refine (c_copyHeap a b c h _ A2.out G.out).mono ?_
          rintro e w9 ⟨a', b', c', rfl, ho, hb9⟩
          obtain ⟨⟨pa, qa, rfl⟩, ⟨pb, qb, rfl⟩, ⟨pc, qc, rfl⟩⟩ := ho.shapes
          have hbA := below1 w9 (.cells (c3 (.slice pa h.f.length qa) (.slice pb h.l.length qb) (.slice pc h.r.length qc)) 32)
          have BX := Lib.hid ((bst B2.out hb9 B2.out.size).alloc (bst B2.out hb9 B2.out.size).size (.cells (c3 (.slice pa h.f.length qa) (.slice pb h.l.length qb) (.slice pc h.r.length qc)) 32))
          have RX := Lib.hid (show RowH _ (w.heap.size + 1) (.slice none 0 0) (.slice none 0 0) (.slice none 0 0) from Row.alloc (R2.out.below hb9) (.cells (c3 (.slice pa h.f.length qa) (.slice pb h.l.length qb) (.slice pc h.r.length qc)) 32))
          have VX := Lib.hid (show RowH _ w9.heap.size (.slice pa h.f.length qa) (.slice pb h.l.length qb) (.slice pc h.r.length qc) from Row.new w9 32 (c3 (.slice pa h.f.length qa) (.slice pb h.l.length qb) (.slice pc h.r.length qc)))
          have OX := Lib.hid (ho.below hbA)
          have L2 : Hid (w.heap.size ≤ w2.heap.size) := B2.out.size
          have S9 : Hid (w2.heap.size ≤ w9.heap.size) := hb9.size
          have SX : Hid ((w9.alloc (.cells (c3 (.slice pa h.f.length qa) (.slice pb h.l.length qb) (.slice pc h.r.length qc)) 32)).heap.size = w9.heap.size + 1) := World.size_alloc _ _
          clear ho hb9 hbA d10 d11 d12 d20 d21 d22 p0 p1 p2
          by_cases hpn : p < h.l.length
          · have HGE := Lib.hid (HG1.out hpn)
            have hne : ((p : Int) == (h.l.length : Int)) = false := by simp; omega
            have i1 : (p : Int) < (h.l.length : Int) := by omega
            have i1f : (p : Int) < (h.f.length : Int) := by have := HLF.out; omega
            have i0 : (0 : Int) ≤ (p : Int) := by omega
            obtain ⟨gb, cb, hbv, qb1, fb1, oL, cL⟩ := putLiveB OX.out (j := p) hpn true
            cases hbv
            have V1 := Lib.hid (show RowH _ _ _ _ _ from Row.other VX.out ⟨gb, p, none⟩ (Ne.symm (OwnH.liveNe OX.out VX.out)) (.bool true))
            have R1x := Lib.hid (show RowH _ _ _ _ _ from Row.other RX.out ⟨gb, p, none⟩ (Ne.symm (OwnH.liveNe OX.out RX.out)) (.bool true))
            have SBx := Lib.hid ((by rw [World.size_setCell, World.size_alloc]; omega) : w9.heap.size ≤ ((w9.alloc (.cells (c3 (.slice pa h.f.length qa) (.slice (some ⟨gb, 0, none⟩) h.l.length qb) (.slice pc h.r.length qc)) 32)).setCell ⟨gb, p, none⟩ (.bool true)).heap.size)
            have BL1 := Lib.hid (below_chg BX.out cL L2.out BX.out.size)
            have OL1 := Lib.hid oL
            have VB := VX.out.c1
            clear oL cL
            go_wp2_with fail
            generalize ((w9.alloc (.cells (c3 (.slice pa h.f.length qa) (.slice (some ⟨gb, 0, none⟩) h.l.length qb) (.slice pc h.r.length qc)) 32)).setCell ⟨gb, p, none⟩ (.bool true)) = wb at *
            have cA : wb.drew.cell? ⟨w9.heap.size, 0, none⟩ = some (.slice pa h.f.length qa) := V1.out.c0
            have SB : Hid (w9.heap.size ≤ wb.heap.size) := SBx
            have VD : Hid (RowH wb.drew w9.heap.size (.slice pa h.f.length qa) (.slice (some ⟨gb, 0, none⟩) h.l.length qb) (.slice pc h.r.length qc)) := V1.out
            have RD : Hid (RowH wb.drew (w.heap.size + 1) (.slice none 0 0) (.slice none 0 0) (.slice none 0 0)) := R1x.out
            have BLD := Lib.hid (below_drew BL1.out)
            have OD := Lib.hid (OL1.out.below (below_drew (Below.refl wb.heap.size wb)))
            have SD : Hid (w9.heap.size ≤ wb.drew.heap.size) := SB.out
            clear V1 R1x BL1 OL1
            refine wp_region_held_drew (S := (fun w' => w'.cell? ⟨w9.heap.size, 0, none⟩ = some (.slice pa h.f.length qa))) (by kernel_rfl) (cA) (fun hHeld => ?_)
            refine wpAnyH_take (i := 0) (v := ?va0x1) rfl (by kernel_rfl) (by kernel_rfl) (by kernel_rfl) (fun _ _ _ h => h) (Or.inl ⟨by rfl, ?hy0x1⟩) (by assumption) ?rest0x1
            case hy0x1 => (intro w hSw; (try dsimp only at hSw); go_simp; try with_reducible rfl)
            (try simp only [Act.put, List.getElem_toArray, List.getElem_cons_zero, List.setIfInBounds_toArray, List.set_cons_zero, List.set_cons_succ])
            refine wpAnyH_take (i := 1) (v := ?va1x2) rfl (by kernel_rfl) (by kernel_rfl) (by kernel_rfl) (fun _ _ _ h => h) (Or.inl ⟨by rfl, ?hy1x2⟩) (by assumption) ?rest1x2
            case hy1x2 => (intro w hSw; (try dsimp only at hSw); go_simp; try with_reducible rfl)
            (try simp only [Act.put, List.getElem_toArray, List.getElem_cons_zero, List.getElem_cons_succ, List.setIfInBounds_toArray, List.set_cons_zero, List.set_cons_succ])
            refine wpAnyH_take (i := 2) (v := ?va2x3) rfl (by kernel_rfl) (by kernel_rfl) (by kernel_rfl) (fun _ _ _ h => h) (Or.inl ⟨by rfl, ?hy2x3⟩) (by assumption) ?rest2x3
            case hy2x3 => (intro w hSw; (try dsimp only at hSw); go_simp; try with_reducible rfl)
            (try simp only [Act.put, List.getElem_toArray, List.getElem_cons_zero, List.getElem_cons_succ, List.setIfInBounds_toArray, List.set_cons_zero, List.set_cons_succ])
            refine wpAnyH_take (i := 4) (v := ?va4x4) rfl (by kernel_rfl) (by kernel_rfl) (by kernel_rfl) (fun _ _ _ h => h) (Or.inl ⟨by rfl, ?hy4x4⟩) (by assumption) ?rest4x4
            case hy4x4 => (intro w hSw; (try dsimp only at hSw); go_simp; try with_reducible rfl)
            (try simp only [Act.put, List.getElem_toArray, List.getElem_cons_zero, List.getElem_cons_succ, List.setIfInBounds_toArray, List.set_cons_zero, List.set_cons_succ])
            generalize wb.drew = wc at *
            refine wpAnyH_ready (rs := [3]) (by kernel_rfl) (by simp) ?_
            refine AllReadyH.cons rfl (fun K hK => ?_) AllReadyH.nil
            have hba := below1 wc (.cells #[.int .i64 (-1)] 3)
            have VE := Lib.hid (VD.out.below hba); have RE := Lib.hid (RD.out.below hba); have BLE := Lib.hid (bst BLD.out hba BLD.out.size); have OE := Lib.hid (OD.out.below hba)
            have SE : Hid (w9.heap.size ≤ (wc.alloc (.cells #[.int .i64 (-1)] 3)).heap.size) := Nat.le_trans SD.out hba.size
            have RO := Lib.hid (Row.new wc 3 #[.int .i64 (-1)])
            go_simp
            refine hK.out _ _ VE.out.c0 (fun hHeld => ?_)
            clear hK K hba
            (try simp only [Act.put, List.getElem_toArray, List.getElem_cons_zero, List.getElem_cons_succ, List.setIfInBounds_toArray, List.set_cons_zero, List.set_cons_succ])
            generalize wc.heap.size = go at *
            generalize wc.alloc (.cells #[.int .i64 (-1)] 3) = wd at *
            refine wpAnyH_ready (rs := [5]) (by kernel_rfl) (by simp) ?_
            refine AllReadyH.cons rfl (fun K hK => ?_) AllReadyH.nil
            go_simp
            refine (c_slRepeat mm go hmm _ RO.out).mono ?_
            rintro e we ⟨vn, rfl, hov, hbe⟩
            have VF := Lib.hid (VE.out.below hbe); have RF := Lib.hid (RE.out.below hbe); have BLF := Lib.hid (bst BLE.out hbe BLE.out.size); have OF := Lib.hid (OE.out.below hbe)
            have OVN : Hid (Own we w9.heap.size vn (List.replicate mm (-1))) := hov.mono SE.out
            have SF : Hid (w9.heap.size ≤ we.heap.size) := Nat.le_trans SE.out hbe.size
            obtain ⟨pn, qn, hpnn⟩ := hov.ints.shape
            subst hpnn
            refine hK.out _ _ VF.out.c0 (fun hHeld => ?_)
            clear hK K hbe hov
            (try simp only [Act.put, List.getElem_toArray, List.getElem_cons_zero, List.getElem_cons_succ, List.setIfInBounds_toArray, List.set_cons_zero, List.set_cons_succ])
            obtain ⟨ga, ca, xx, hax, qf1, ff1, hlo, hap, oN⟩ := putRow1 OF.out (j := p) (by simp only; have := HLF.out; omega) OVN.out S9.out SF.out
            cases hax
            have hgA : ga ≠ w9.heap.size := hap _ _ VF.out
            have hgR : ga ≠ w.heap.size + 1 := hap _ _ RF.out
            have VG := Lib.hid (show RowH _ _ _ _ _ from Row.other VF.out ⟨ga, p, none⟩ (by simp; omega) (.slice pn (List.replicate mm (-1 : Int)).length qn))
            have RG := Lib.hid (show RowH _ _ _ _ _ from Row.other RF.out ⟨ga, p, none⟩ (by simp; omega) (.slice pn (List.replicate mm (-1 : Int)).length qn))
            have BG := Lib.hid (BLF.out.setCell (p := ⟨ga, p, none⟩) (by have := L2.out; simp only; omega) (.slice pn (List.replicate mm (-1 : Int)).length qn))
            have OG := Lib.hid oN
            have SG := Lib.hid (World.size_setCell we ⟨ga, p, none⟩ (.slice pn (List.replicate mm (-1 : Int)).length qn))
            clear oN hap
            generalize (List.replicate mm (-1 : Int)).length = lr at *
            refine wpAnyH_take (i := 6) (v := ?va6x5) rfl (by kernel_rfl) (by kernel_rfl) (by kernel_rfl) (fun _ _ _ h => h) (Or.inl ⟨by rfl, ?hy6x5⟩) (by assumption) ?rest6x5
            case hy6x5 => (intro w hSw; (try dsimp only at hSw); go_simp; try with_reducible rfl)
            (try simp only [Act.put, List.getElem_toArray, List.getElem_cons_zero, List.getElem_cons_succ, List.setIfInBounds_toArray, List.set_cons_zero, List.set_cons_succ])
            refine wpAnyH_ready (rs := [7]) (by kernel_rfl) (by simp) ?_
            refine AllReadyH.cons rfl (fun K hK => ?_) AllReadyH.nil
            go_simp
            refine hK.out _ _ VG.out.c0 (fun hHeld => ?_)
            clear hK K
            (try simp only [Act.put, List.getElem_toArray, List.getElem_cons_zero, List.getElem_cons_succ, List.setIfInBounds_toArray, List.set_cons_zero, List.set_cons_succ])
            refine wpAnyH_done (by kernel_rfl) ?_ _
            clear hHeld qf1 ff1
            generalize we.setCell ⟨ga, p, none⟩ (.slice pn lr qn) = wf at *
            have HF1 : Hid (c1 = put1 (h) p mm) := by unfold Hid; rw [HE1.out, HGE.out]
            have HF3 := Lib.hid (show OwnH _ _ _ _ _ _ (put1 (h) p mm) from OG.out)
            generalize put1 (h) p mm = hN at *
            generalize h.f.length = nf at *
            generalize h.l.length = nl at *
            generalize h.r.length = nr at *
            go_wp2_with (first
              | (refine wl_loadH rfl _ rfl w9.heap.size _ _ _ VG.out rfl ?_)
              | (refine wl_storeH rfl _ _ rfl (w.heap.size + 1) (.slice (some ⟨ga, 0, none⟩) nf qa) (.slice (some ⟨gb, 0, none⟩) nl qb) (.slice pc nr qc) _ _ _ RG.out rfl rfl rfl rfl rfl ?_))
            refine bodyPost_ret (res_row_slot2 Try.results200 (Row.put RG.out (c3 (.slice (some ⟨ga, 0, none⟩) nf qa) (.slice (some ⟨gb, 0, none⟩) nl qb) (.slice pc nr qc))) rfl rfl rfl Try.underlying32 rfl info_heap) rfl (endHI_yes (below_setRow BG.out (by omega) _) (HF3.out.wholeRow RG.out _) L2.out (by rw [size_setRow, SG.out]; exact Nat.le_refl _) HF1.out HE2.out HE.out)
          · have hpe : p = h.l.length := by omega
            have heq : ((p : Int) == (h.l.length : Int)) = true := by simp; omega
            have HGE0 := HG2.out hpn
            have s9 := S9.out
            have hlf := HLF.out
            obtain ⟨v1, w1e, hr1, o1, rows1, bel1, sz1, _⟩ := ext_live OX.out s9 (by rw [SX.out]; omega) (by omega) false 23
            rw [SX.out] at hr1 sz1
            have V1e := rows1 _ _ _ _ VX.out
            have R1e := rows1 _ _ _ _ RX.out
            have B1e := bel1 _ _ L2.out BX.out
            have s1c := V1e.c1
            have s1f := Row.frozen V1e 1
            have hvr : w9.heap.size ≠ w.heap.size + 1 := by have := R2.out.lt; omega
            have O2e := o1.cellRow V1e 1 v1
            have V2e := RowH.set1 V1e v1
            have R2e : RowH (w1e.setCell ⟨w9.heap.size, 1, none⟩ v1) (w.heap.size + 1) (.slice none 0 0) (.slice none 0 0) (.slice none 0 0) := Row.other R1e ⟨w9.heap.size, 1, none⟩ (Ne.symm hvr) v1
            have B2e := B1e.setCell (p := ⟨w9.heap.size, 1, none⟩) (by have := L2.out; simp only; omega) v1
            have hsz2 := World.size_setCell w1e ⟨w9.heap.size, 1, none⟩ v1
            obtain ⟨v2, w2e, hr2, o3, rows3, bel3, sz3, _⟩ := ext_rows O2e (by omega) (by rw [hsz2]; exact Nat.le_refl _) (by simp only; omega) 22
            rw [hsz2] at hr2 sz3
            have V3e := rows3 _ _ _ _ V2e
            have R3e := rows3 _ _ _ _ R2e
            have B3e := bel3 _ _ L2.out B2e
            have s2a := V2e.c0
            have s3c := V3e.c0
            have s3f := Row.frozen V3e 0
            have O4e := o3.cellRow V3e 0 v2
            have V4e := RowH.set0 V3e v2
            have R4e : RowH (w2e.setCell ⟨w9.heap.size, 0, none⟩ v2) (w.heap.size + 1) (.slice none 0 0) (.slice none 0 0) (.slice none 0 0) := Row.other R3e ⟨w9.heap.size, 0, none⟩ (Ne.symm hvr) v2
            have B4e := B3e.setCell (p := ⟨w9.heap.size, 0, none⟩) (by have := L2.out; simp only; omega) v2
            have hll2 : (⟨h.f ++ [[]], h.l ++ [false], h.r⟩ : H).l.length = h.l.length + 1 := by simp
            have hfl2 : (⟨h.f ++ [[]], h.l ++ [false], h.r⟩ : H).f.length = h.f.length + 1 := by simp
            have O4h : OwnH (w2e.setCell ⟨w9.heap.size, 0, none⟩ v2) w2.heap.size w2e.heap.size v2 v1 (.slice pc h.r.length qc) ⟨h.f ++ [[]], h.l ++ [false], h.r⟩ := O4e
            clear O4e o3 o1 O2e
            generalize (⟨h.f ++ [[]], h.l ++ [false], h.r⟩ : H) = hh at *
            have hlo3 : Hid (w2.heap.size ≤ w2e.heap.size) := by unfold Hid; omega
            have HGE := Lib.hid HGE0
            have hpl : p < hh.l.length := by omega
            have hpf : Hid (p < hh.f.length) := by unfold Hid; omega
            have i0 : (0 : Int) ≤ (p : Int) := by omega
            have i1 : (p : Int) < (hh.l.length : Int) := by omega
            have i1f : (p : Int) < (hh.f.length : Int) := by omega
            obtain ⟨⟨pa2, qa2, rfl⟩, ⟨pb2, qb2, rfl⟩, _⟩ := O4h.shapes
            have OY := Lib.hid O4h; have VY := Lib.hid V4e; have RY := Lib.hid R4e; have BY := Lib.hid B4e
            have HPE := Lib.hid hpe; have HL2 := Lib.hid hll2; have HF2 := Lib.hid hfl2; have HR1 := Lib.hid hr1; have HR2 := Lib.hid hr2
            have SZ1 := Lib.hid sz1; have SZ3 := Lib.hid sz3
            have a1 := VX.out.c1
            clear O4h V4e R4e B4e V1e R1e B1e V2e R2e B2e V3e R3e B3e rows1 rows3 bel1 bel3 hpe hll2 hfl2 hr1 hr2 HGE0 hsz2 sz1 sz3 hlf s9
            obtain ⟨gb, cb, hbv, qb1, fb1, oL, cL⟩ := putLiveB OY.out (j := p) hpl true
            cases hbv
            have V1 := Lib.hid (show RowH _ _ _ _ _ from Row.other VY.out ⟨gb, p, none⟩ (Ne.symm (OwnH.liveNe OY.out VY.out)) (.bool true))
            have R1x := Lib.hid (show RowH _ _ _ _ _ from Row.other RY.out ⟨gb, p, none⟩ (Ne.symm (OwnH.liveNe OY.out RY.out)) (.bool true))
            have SBx := Lib.hid ((by rw [World.size_setCell, World.size_setCell]; exact Nat.le_refl _) : w2e.heap.size ≤ ((w2e.setCell ⟨w9.heap.size, 0, none⟩ (.slice pa2 hh.f.length qa2)).setCell ⟨gb, p, none⟩ (.bool true)).heap.size)
            have BL1 := Lib.hid (below_chg BY.out cL L2.out BY.out.size)
            have OL1 := Lib.hid oL
            have VB := VY.out.c1
            clear oL cL
            go_wp2_with (first
              | (at_builtin; refine wl_appRun rfl _ _ 23 rfl rfl rfl HR1.out ?_)
              | (at_builtin; refine wl_appRun rfl _ _ 22 rfl rfl rfl HR2.out ?_))
            generalize ((w2e.setCell ⟨w9.heap.size, 0, none⟩ (.slice pa2 hh.f.length qa2)).setCell ⟨gb, p, none⟩ (.bool true)) = wb at *
            have cA : wb.drew.cell? ⟨w9.heap.size, 0, none⟩ = some (.slice pa2 hh.f.length qa2) := V1.out.c0
            have SB : Hid (w2e.heap.size ≤ wb.heap.size) := SBx
            have VD : Hid (RowH wb.drew w9.heap.size (.slice pa2 hh.f.length qa2) (.slice (some ⟨gb, 0, none⟩) hh.l.length qb2) (.slice pc h.r.length qc)) := V1.out
            have RD : Hid (RowH wb.drew (w.heap.size + 1) (.slice none 0 0) (.slice none 0 0) (.slice none 0 0)) := R1x.out
            have BLD := Lib.hid (below_drew BL1.out)
            have OD := Lib.hid (OL1.out.below (below_drew (Below.refl wb.heap.size wb)))
            have SD : Hid (w2e.heap.size ≤ wb.drew.heap.size) := SB.out
            clear V1 R1x BL1 OL1
            refine wp_region_held_drew (S := (fun w' => w'.cell? ⟨w9.heap.size, 0, none⟩ = some (.slice pa2 hh.f.length qa2))) (by kernel_rfl) (cA) (fun hHeld => ?_)
            refine wpAnyH_take (i := 0) (v := ?va0x6) rfl (by kernel_rfl) (by kernel_rfl) (by kernel_rfl) (fun _ _ _ h => h) (Or.inl ⟨by rfl, ?hy0x6⟩) (by assumption) ?rest0x6
            case hy0x6 => (intro w hSw; (try dsimp only at hSw); go_simp; try with_reducible rfl)
            (try simp only [Act.put, List.getElem_toArray, List.getElem_cons_zero, List.setIfInBounds_toArray, List.set_cons_zero, List.set_cons_succ])
            refine wpAnyH_take (i := 1) (v := ?va1x7) rfl (by kernel_rfl) (by kernel_rfl) (by kernel_rfl) (fun _ _ _ h => h) (Or.inl ⟨by rfl, ?hy1x7⟩) (by assumption) ?rest1x7
            case hy1x7 => (intro w hSw; (try dsimp only at hSw); go_simp; try with_reducible rfl)
            (try simp only [Act.put, List.getElem_toArray, List.getElem_cons_zero, List.getElem_cons_succ, List.setIfInBounds_toArray, List.set_cons_zero, List.set_cons_succ])
            refine wpAnyH_take (i := 2) (v := ?va2x8) rfl (by kernel_rfl) (by kernel_rfl) (by kernel_rfl) (fun _ _ _ h => h) (Or.inl ⟨by rfl, ?hy2x8⟩) (by assumption) ?rest2x8
            case hy2x8 => (intro w hSw; (try dsimp only at hSw); go_simp; try with_reducible rfl)
            (try simp only [Act.put, List.getElem_toArray, List.getElem_cons_zero, List.getElem_cons_succ, List.setIfInBounds_toArray, List.set_cons_zero, List.set_cons_succ])
            refine wpAnyH_take (i := 4) (v := ?va4x9) rfl (by kernel_rfl) (by kernel_rfl) (by kernel_rfl) (fun _ _ _ h => h) (Or.inl ⟨by rfl, ?hy4x9⟩) (by assumption) ?rest4x9
            case hy4x9 => (intro w hSw; (try dsimp only at hSw); go_simp; try with_reducible rfl)
            (try simp only [Act.put, List.getElem_toArray, List.getElem_cons_zero, List.getElem_cons_succ, List.setIfInBounds_toArray, List.set_cons_zero, List.set_cons_succ])
            generalize wb.drew = wc at *
            refine wpAnyH_ready (rs := [3]) (by kernel_rfl) (by simp) ?_
            refine AllReadyH.cons rfl (fun K hK => ?_) AllReadyH.nil
            have hba := below1 wc (.cells #[.int .i64 (-1)] 3)
            have VE := Lib.hid (VD.out.below hba); have RE := Lib.hid (RD.out.below hba); have BLE := Lib.hid (bst BLD.out hba BLD.out.size); have OE := Lib.hid (OD.out.below hba)
            have SE : Hid (w2e.heap.size ≤ (wc.alloc (.cells #[.int .i64 (-1)] 3)).heap.size) := Nat.le_trans SD.out hba.size
            have RO := Lib.hid (Row.new wc 3 #[.int .i64 (-1)])
            go_simp
            refine hK.out _ _ VE.out.c0 (fun hHeld => ?_)
            clear hK K hba
            (try simp only [Act.put, List.getElem_toArray, List.getElem_cons_zero, List.getElem_cons_succ, List.setIfInBounds_toArray, List.set_cons_zero, List.set_cons_succ])
            generalize wc.heap.size = go at *
            generalize wc.alloc (.cells #[.int .i64 (-1)] 3) = wd at *
            refine wpAnyH_ready (rs := [5]) (by kernel_rfl) (by simp) ?_
            refine AllReadyH.cons rfl (fun K hK => ?_) AllReadyH.nil
            go_simp
            refine (c_slRepeat mm go hmm _ RO.out).mono ?_
            rintro e we ⟨vn, rfl, hov, hbe⟩
            have VF := Lib.hid (VE.out.below hbe); have RF := Lib.hid (RE.out.below hbe); have BLF := Lib.hid (bst BLE.out hbe BLE.out.size); have OF := Lib.hid (OE.out.below hbe)
            have OVN : Hid (Own we w2e.heap.size vn (List.replicate mm (-1))) := hov.mono SE.out
            have SF : Hid (w2e.heap.size ≤ we.heap.size) := Nat.le_trans SE.out hbe.size
            obtain ⟨pn, qn, hpnn⟩ := hov.ints.shape
            subst hpnn
            refine hK.out _ _ VF.out.c0 (fun hHeld => ?_)
            clear hK K hbe hov
            (try simp only [Act.put, List.getElem_toArray, List.getElem_cons_zero, List.getElem_cons_succ, List.setIfInBounds_toArray, List.set_cons_zero, List.set_cons_succ])
            obtain ⟨ga, ca, xx, hax, qf1, ff1, hlo, hap, oN⟩ := putRow1 OF.out (j := p) hpf.out OVN.out hlo3.out SF.out
            cases hax
            have hgA : ga ≠ w9.heap.size := hap _ _ VF.out
            have hgR : ga ≠ w.heap.size + 1 := hap _ _ RF.out
            have VG := Lib.hid (show RowH _ _ _ _ _ from Row.other VF.out ⟨ga, p, none⟩ (by simp; omega) (.slice pn (List.replicate mm (-1 : Int)).length qn))
            have RG := Lib.hid (show RowH _ _ _ _ _ from Row.other RF.out ⟨ga, p, none⟩ (by simp; omega) (.slice pn (List.replicate mm (-1 : Int)).length qn))
            have BG := Lib.hid (BLF.out.setCell (p := ⟨ga, p, none⟩) (by have := L2.out; simp only; omega) (.slice pn (List.replicate mm (-1 : Int)).length qn))
            have OG := Lib.hid oN
            have SG := Lib.hid (World.size_setCell we ⟨ga, p, none⟩ (.slice pn (List.replicate mm (-1 : Int)).length qn))
            clear oN hap
            generalize (List.replicate mm (-1 : Int)).length = lr at *
            refine wpAnyH_take (i := 6) (v := ?va6x10) rfl (by kernel_rfl) (by kernel_rfl) (by kernel_rfl) (fun _ _ _ h => h) (Or.inl ⟨by rfl, ?hy6x10⟩) (by assumption) ?rest6x10
            case hy6x10 => (intro w hSw; (try dsimp only at hSw); go_simp; try with_reducible rfl)
            (try simp only [Act.put, List.getElem_toArray, List.getElem_cons_zero, List.getElem_cons_succ, List.setIfInBounds_toArray, List.set_cons_zero, List.set_cons_succ])
            refine wpAnyH_ready (rs := [7]) (by kernel_rfl) (by simp) ?_
            refine AllReadyH.cons rfl (fun K hK => ?_) AllReadyH.nil
            go_simp
            refine hK.out _ _ VG.out.c0 (fun hHeld => ?_)
            clear hK K
            (try simp only [Act.put, List.getElem_toArray, List.getElem_cons_zero, List.getElem_cons_succ, List.setIfInBounds_toArray, List.set_cons_zero, List.set_cons_succ])
            refine wpAnyH_done (by kernel_rfl) ?_ _
            clear hHeld qf1 ff1
            generalize we.setCell ⟨ga, p, none⟩ (.slice pn lr qn) = wf at *
            have HF1 : Hid (c1 = put1 (hh) p mm) := by unfold Hid; rw [HE1.out, HGE.out]
            have HF3 := Lib.hid (show OwnH _ _ _ _ _ _ (put1 (hh) p mm) from OG.out)
            generalize put1 (hh) p mm = hN at *
            generalize hh.f.length = nhf at *
            generalize hh.l.length = nhl at *
            generalize h.r.length = nr at *
            go_wp2_with (first
              | (refine wl_loadH rfl _ rfl w9.heap.size _ _ _ VG.out rfl ?_)
              | (refine wl_storeH rfl _ _ rfl (w.heap.size + 1) (.slice (some ⟨ga, 0, none⟩) nhf qa2) (.slice (some ⟨gb, 0, none⟩) nhl qb2) (.slice pc nr qc) _ _ _ RG.out rfl rfl rfl rfl rfl ?_))
            refine bodyPost_ret (res_row_slot2 Try.results200 (Row.put RG.out (c3 (.slice (some ⟨ga, 0, none⟩) nhf qa2) (.slice (some ⟨gb, 0, none⟩) nhl qb2) (.slice pc nr qc))) rfl rfl rfl Try.underlying32 rfl info_heap) rfl (endHI_yes (below_setRow BG.out (by omega) _) (HF3.out.wholeRow RG.out _) L2.out (by rw [size_setRow, SG.out]; exact Nat.le_refl _) HF1.out HE2.out HE.out)
        · have HPL : Hid (decide (placeOf h.l < 12) = false) := decide_eq_false h12
          have HE : Hid (ok = false) := by unfold Hid; rw [hok, HPL.out]; simp
          clear hok
          go_enter Try.func200, Try.ntmps200
          go_wp2_with (first
            | (go_at_call 106; refine HC.out.mono ?_; rintro e w1 ⟨rfl, hb1⟩; have B1 := Lib.hid (bst HB.out hb1 HB.out.size); have A1 := Lib.hid (A0.out.below hb1); have P1 := Lib.hid (P0.out.below hb1); have R1 := Lib.hid (R0.out.below hb1); have d10 := P1.out.c0; have d11 := P1.out.c1; have d12 := P1.out.c2; clear hb1)
            | (go_at_call 213; refine (HFP.out _ A1.out).mono ?_; rintro e w2 ⟨rfl, hb2⟩; rw [HPL.out]; have B2 := Lib.hid (bst B1.out hb2 B1.out.size); have A2 := Lib.hid (A1.out.below hb2); have P2 := Lib.hid (P1.out.below hb2); have R2 := Lib.hid (R1.out.below hb2); have d20 := P2.out.c0; have d21 := P2.out.c1; have d22 := P2.out.c2; clear hb2)
            | (refine wl_storeH rfl _ _ rfl (w.heap.size + 1) (.slice none 0 0) (.slice none 0 0) (.slice none 0 0) _ _ _ R2.out rfl rfl rfl rfl rfl ?_))
          refine bodyPost_ret (res_row_slot2 Try.results200 (Row.put R2.out (c3 (.slice none 0 0) (.slice none 0 0) (.slice none 0 0))) rfl rfl rfl Try.underlying32 rfl info_heap) rfl (endHI_no (below_setRow B2.out (by omega) _) (by rw [E1.out HE.out]) (by rw [E1.out HE.out]; rfl) HE.out)
end Go.Proofs.Ytbmfkgfmibpkjaa
namespace Go.Proofs.Ytbmfkgfmibpkjaa
open Go.RowKit Ph

theorem fam_keepRow {w w' : World} {lo hi n g : Nat} {v : Nat → Value} {cs : Nat → List Value} {ds : Array Value} (k : Fam w lo hi n tyH v cs) (hr : Row w g 32 ds) (hb : ∀ i, i ≠ g → i < w.heap.size → w'.heap[i]? = w.heap[i]?) : Fam w' lo hi n tyH v cs :=
  ⟨fun j hj => owns_block (k.own j hj) fun g' hg' => hb g' (owns_ne_row (k.own j hj) hr (tyH_ne j) hg') (owns_lt (k.own j hj) hg').2, k.lt, k.ap⟩
end Go.Proofs.Ytbmfkgfmibpkjaa
namespace Go.Proofs.Ytbmfkgfmibpkjaa
open Go.RowKit Ph
/-- A list of ints of its own, and a bool. -/
def EndI (zs : List Int) (ok : Bool) (w : World) (e : Ending) (w' : World) : Prop := ∃ v, e = .returned (.tuple #[v, .bool ok]) ∧ OwnH w' w.heap.size w'.heap.size (.slice none 0 0) (.slice none 0 0) v ⟨[], [], zs⟩ ∧ Below w.heap.size w w'
theorem endI_no {w w' : World} {zs : List Int} {ok : Bool} (hb : Below w.heap.size w w') (h1 : zs = []) (h2 : ok = false) : EndI zs ok w (.returned (.tuple #[.slice none 0 0, .bool false])) w' := by
  subst h1; subst h2
  exact ⟨_, rfl, OwnH.nil w' _ _, hb⟩
theorem endI_yes {w w' : World} {zs zs' : List Int} {ok : Bool} {v : Value} {B : Nat} (hb : Below w.heap.size w w') (ho : Own w' B v zs') (hB : w.heap.size ≤ B) (h1 : zs = zs') (h2 : ok = true) : EndI zs ok w (.returned (.tuple #[v, .bool true])) w' := by
  subst h1; subst h2
  exact ⟨_, rfl, OwnH.ofInts (ho.mono hB) hb, hb⟩
end Go.Proofs.Ytbmfkgfmibpkjaa
namespace Go.Proofs.Ytbmfkgfmibpkjaa
open Go.RowKit Ph

theorem src_int (W : World) (x : Int) : SrcAt (W.alloc (.cells #[.int .i64 x] 3)) (.slice (some ⟨W.heap.size, 0, none⟩) 1 1) ([x].map (Value.int .i64)) :=
  ⟨_, 1, rfl, fun u hu => by simp at hu; rw [hu]; rfl, fun _ => ⟨W.heap.size, 0, rfl, fun j hj => by simp at hj; subst hj; exact Row.cell (Row.new W 3 #[.int .i64 x]) 0⟩⟩
theorem inB_iff {lo hi z : Int} : inB lo hi z = true ↔ lo ≤ z ∧ z ≤ hi := by unfold inB; rw [Bool.and_eq_true, decide_eq_true_eq, decide_eq_true_eq]
theorem inB_no {lo hi z : Int} (h : ¬ (lo ≤ z ∧ z ≤ hi)) : inB lo hi z = false := by
  cases hq : inB lo hi z with
  | false => rfl
  | true => exact absurd (inB_iff.1 hq) h
set_option maxHeartbeats 1600000 in
theorem c_areWithin (v : Value) (zs : List Int) (lo hi : Int) (w : World) (hz : IntsAt w v zs) (hm : zs.length ≤ 9223372036854775806) : Calls Try.prog 204 #[v, .int .i64 lo, .int .i64 hi] w fun e w' => e = .returned (.bool (zs.all (inB lo hi))) ∧ w = w' := by
  obtain ⟨va, vc, rfl, hA⟩ := hz
  have HA := Lib.hid hA
  clear hA
  generalize hn : zs.length = n at *
  have HN := Lib.hid hn; clear hn
  go_enter Try.func204, Try.ntmps204
  go_wp2
  go_loop [11] (fun i => ∃ k : Nat, k ≤ n ∧ i = .int .i64 k ∧ Hid ((zs.take k).all (inB lo hi) = true)) (fun i => n - (intOf i).toNat)
  case atStart => exact ⟨0, Nat.zero_le _, rfl, by simp [Hid]⟩
  case round =>
    obtain ⟨k, hk, rfl, ht⟩ := hrel
    by_cases hlt : k < n
    · obtain ⟨g, off, rfl, hc⟩ := HA.out (by omega)
      have q := hc k hlt
      have i1 : (k : Int) < (n : Int) := by omega
      have hs := inAll_take_succ (lo := lo) (hi := hi) (zs := zs) (k := k) (by rw [HN.out]; exact hlt)
      have hf := inAll_false (lo := lo) (hi := hi) (zs := zs) (k := k) (by rw [HN.out]; exact hlt)
      have HS := Lib.hid hs; have HF := Lib.hid hf
      clear hc hs hf
      generalize zs.getD k 0 = z at *
      by_cases h1 : z < lo
      · have HE : Hid (zs.all (inB lo hi) = false) := HF.out (inB_no (by omega))
        clear HS HF
        go_wp2
        go_ret
        exact ⟨r_b HE.out.symm, rfl⟩
      · by_cases h2 : hi < z
        · have HE : Hid (zs.all (inB lo hi) = false) := HF.out (inB_no (by omega))
          clear HS HF
          go_wp2
          go_ret
          exact ⟨r_b HE.out.symm, rfl⟩
        · have HE : Hid ((zs.take (k + 1)).all (inB lo hi) = true) := by unfold Hid; rw [HS.out, ht.out, inB_iff.2 ⟨by omega, by omega⟩]; rfl
          clear HS HF
          go_wp2
          go_round
          case rel => exact ⟨k + 1, by omega, by go_num, HE.out⟩
          case measure => simp [intOf]; omega
    · have HE : Hid (zs.all (inB lo hi) = true) := by
        unfold Hid
        have := ht.out
        rwa [List.take_of_length_le (by rw [HN.out]; omega)] at this
      go_wp2
      go_ret
      exact ⟨r_b HE.out.symm, rfl⟩
theorem c_areColours (v : Value) (zs : List Int) (w : World) (hz : IntsAt w v zs) : Calls Try.prog 177 #[v] w fun e w' => e = .returned (.bool (colsB zs)) ∧ w = w' := by
  have HZ := Lib.hid hz
  obtain ⟨va, vc, rfl⟩ := hz.shape
  clear hz
  have hE : colsB zs = (decide (zs.length ≤ 12) && zs.all (inB 0 2)) := rfl
  have HC : Hid (zs.length ≤ 12 → Calls Try.prog 204 #[.slice va zs.length vc, .int .i64 0, .int .i64 2] w fun e w' => e = .returned (.bool (zs.all (inB 0 2))) ∧ w = w') := fun h => c_areWithin _ zs 0 2 w HZ.out (by omega)
  generalize zs.all (inB 0 2) = x at *
  generalize colsB zs = y at *
  generalize zs.length = n at *
  by_cases h : n ≤ 12
  · have hn : (n : Int) ≤ 12 := by omega
    have HE : Hid (y = x) := by unfold Hid; rw [hE, decide_eq_true h]; simp
    clear hE
    go_enter Try.func177, Try.ntmps177
    go_wp2_with (go_at_call 204; refine (HC.out h).mono ?_; rintro e w1 ⟨rfl, rfl⟩)
    go_ret
    exact ⟨r_b HE.out.symm, rfl⟩
  · have hn : ¬ (n : Int) ≤ 12 := by omega
    have HE : Hid (y = false) := by unfold Hid; rw [hE, decide_eq_false h]; simp
    clear hE
    go_enter Try.func177, Try.ntmps177
    go_wp2
    go_ret
    exact ⟨r_b HE.out.symm, rfl⟩
set_option maxHeartbeats 1600000 in
theorem c_thingsOf (v : Value) (cs : List Int) (c : Int) (w : World) (hz : IntsAt w v cs) (hm : cs.length ≤ 12) : Calls Try.prog 142 #[v, .int .i64 c] w fun e w' => ∃ v', e = .returned v' ∧ Own w' w.heap.size v' (ofC cs c) ∧ Below w.heap.size w w' := by
  obtain ⟨i0, hi, hz0, hz1, hz2⟩ := info_parts info_int
  have HZ := Lib.hid hz
  obtain ⟨va, vc, rfl⟩ := hz.shape
  clear hz
  have HO : Hid (ofC cs c = ofTo cs c cs.length) := rfl
  generalize ofC cs c = out at *
  generalize hn : cs.length = n at *
  have HN := Lib.hid hn; clear hn
  go_enter Try.func142, Try.ntmps142
  go_wp2
  go_loopw [5, 9] (fun t i wr => ∃ k : Nat, k ≤ n ∧ i = .int .i64 k ∧ Hid (Own wr w.heap.size t (ofTo cs c k)) ∧ Hid (Below w.heap.size w wr)) (fun _ i _ => n - (intOf i).toNat)
  case atStart => exact ⟨0, Nat.zero_le _, rfl, by rw [ofTo_zero]; exact Own.nil _ _, Below.refl _ _⟩
  case round =>
    obtain ⟨k, hk, rfl, ho, hb⟩ := hrel
    by_cases hlt : k < n
    · obtain ⟨g, off, rfl, hc⟩ := (HZ.out.below hb.out).at' (by omega)
      have q := hc k hlt
      have i1 : (k : Int) < (n : Int) := by omega
      have i2 : (0 : Int) ≤ (k : Int) := by omega
      clear hc
      by_cases hx : cs.getD k 0 = c
      · have HE := Lib.hid (ofTo_succ_yes hx)
        have HL := Lib.hid (ofTo_len cs c k)
        rw [hx] at q
        have hcc : (c == c) = true := by simp
        have HS := Lib.hid (src_int wr (k : Int))
        have HB1 := Lib.hid (hb.out.alloc hb.out.size (.cells #[.int .i64 (k : Int)] 3))
        have HO1 := Lib.hid (ho.out.below (below1 wr (.cells #[.int .i64 (k : Int)] 3)))
        clear hx
        go_wp2_with (at_builtin; refine wl_appOwn _ rfl _ _ 24 rfl w.heap.size 3 i0 (.int .i64 0) 8 Try.underlying24 hi hz0 hz1 hz2 rfl u5 _ _ rfl HO1.out _ _ rfl HS.out (by have := HL.out; simp; unfold maxLen; omega) (by have := HL.out; simp; omega) HB1.out.size ?_; intro v1 w1 ho1 hg1 hbl; have O1 : Hid (Own w1 w.heap.size v1 (ofTo cs c k ++ [(k : Int)])) := by { unfold Hid Own; rw [List.map_append, List.length_append]; exact ho1 }; have B1 := Lib.hid (HB1.out.grown hg1 HB1.out.size (fun g' hg' => (owns_lt HO1.out hg').1)); clear ho1 hg1 hbl)
        go_roundw
        case rel => exact ⟨k + 1, by omega, by go_num, by rw [HE.out]; exact O1, B1⟩
        case measure => simp [intOf]; omega
      · have HE := Lib.hid (ofTo_succ_no hx)
        generalize cs.getD k 0 = z at *
        have hcc : (z == c) = false := by simpa using hx
        clear hx
        go_wp2
        go_roundw
        case rel => exact ⟨k + 1, by omega, by go_num, by rw [HE.out]; exact ho, hb⟩
        case measure => simp [intOf]; omega
    · have hkn : Hid (k = n) := by unfold Hid; omega
      go_wp2
      go_ret
      exact ⟨_, rfl, by rw [HO.out, ← hkn.out]; exact ho.out, hb.out⟩
end Go.Proofs.Ytbmfkgfmibpkjaa
namespace Go.Proofs.Ytbmfkgfmibpkjaa
open Go.RowKit Ph

set_option maxHeartbeats 1600000 in
theorem s_l6Of (v : Value) (cs : List Int) (c : Int) (w : World) (hz : IntsAt w v cs) (hm : cs.length ≤ 12) : Calls Try.prog 139 #[v, .int .i64 c] w fun e w' => ∃ v', e = .returned v' ∧ Own w' w.heap.size v' (ofC cs c) ∧ Below w.heap.size w w' := by
  obtain ⟨i0, hi, hz0, hz1, hz2⟩ := info_parts info_int
  have HZ := Lib.hid hz
  obtain ⟨va, vc, rfl⟩ := hz.shape
  clear hz
  have HO : Hid (ofC cs c = ofTo cs c cs.length) := rfl
  generalize ofC cs c = out at *
  generalize hn : cs.length = n at *
  have HN := Lib.hid hn; clear hn
  go_enter Try.func139, Try.ntmps139
  go_wp2
  go_loopw [5, 10] (fun t i wr => ∃ k : Nat, k ≤ n ∧ i = .int .i64 k ∧ Hid (Own wr w.heap.size t (ofTo cs c k)) ∧ Hid (Below w.heap.size w wr)) (fun _ i _ => n - (intOf i).toNat)
  case atStart => exact ⟨0, Nat.zero_le _, rfl, by rw [ofTo_zero]; exact Own.nil _ _, Below.refl _ _⟩
  case round =>
    obtain ⟨k, hk, rfl, ho, hb⟩ := hrel
    by_cases hlt : k < n
    · obtain ⟨g, off, rfl, hc⟩ := (HZ.out.below hb.out).at' (by omega)
      have q := hc k hlt
      have i1 : (k : Int) < (n : Int) := by omega
      have i2 : (0 : Int) ≤ (k : Int) := by omega
      clear hc
      by_cases hx : cs.getD k 0 = c
      · have HE := Lib.hid (ofTo_succ_yes hx)
        have HL := Lib.hid (ofTo_len cs c k)
        rw [hx] at q
        have hcc : (c == c) = true := by simp
        have HS := Lib.hid (src_int wr (k : Int))
        have HB1 := Lib.hid (hb.out.alloc hb.out.size (.cells #[.int .i64 (k : Int)] 3))
        have HO1 := Lib.hid (ho.out.below (below1 wr (.cells #[.int .i64 (k : Int)] 3)))
        clear hx
        go_wp2_with (at_builtin; refine wl_appOwn _ rfl _ _ 24 rfl w.heap.size 3 i0 (.int .i64 0) 8 Try.underlying24 hi hz0 hz1 hz2 rfl u5 _ _ rfl HO1.out _ _ rfl HS.out (by have := HL.out; simp; unfold maxLen; omega) (by have := HL.out; simp; omega) HB1.out.size ?_; intro v1 w1 ho1 hg1 hbl; have O1 : Hid (Own w1 w.heap.size v1 (ofTo cs c k ++ [(k : Int)])) := by { unfold Hid Own; rw [List.map_append, List.length_append]; exact ho1 }; have B1 := Lib.hid (HB1.out.grown hg1 HB1.out.size (fun g' hg' => (owns_lt HO1.out hg').1)); clear ho1 hg1 hbl)
        go_roundw
        case rel => exact ⟨k + 1, by omega, by go_num, by rw [HE.out]; exact O1, B1⟩
        case measure => simp [intOf]; omega
      · have HE := Lib.hid (ofTo_succ_no hx)
        generalize cs.getD k 0 = z at *
        have hcc : (z == c) = false := by simpa using hx
        clear hx
        go_wp2
        go_roundw
        case rel => exact ⟨k + 1, by omega, by go_num, by rw [HE.out]; exact ho, hb⟩
        case measure => simp [intOf]; omega
    · have hkn : Hid (k = n) := by unfold Hid; omega
      go_wp2
      go_ret
      exact ⟨_, rfl, by rw [HO.out, ← hkn.out]; exact ho.out, hb.out⟩
end Go.Proofs.Ytbmfkgfmibpkjaa
namespace Go.Proofs.Ytbmfkgfmibpkjaa
open Go.RowKit Ph

abbrev mkv (a b c v p : Value) : Value := .agg #[a, b, c, v, p]
abbrev c5 (a b c v p : Value) : Array Value := #[a, b, c, v, p]
theorem Own.store1 {w : World} {B g n cap : Nat} {S : List Int} (h : Own w B (.slice (some ⟨g, 0, none⟩) n cap) S) (hn : S.length = n) {z : Nat} (hz : z < n) (x : Int) : Own (w.setCell ⟨g, z, none⟩ (.int .i64 x)) B (.slice (some ⟨g, 0, none⟩) n cap) (S.set z x) ∧ w.grownBy (w.setCell ⟨g, z, none⟩ (.int .i64 x)) (some g) ∧ w.cell? ⟨g, z, none⟩ = some (.int .i64 (S.getD z 0)) ∧ w.frozen? ⟨g, z, none⟩ = false := by
  unfold Own at h
  rw [hn] at h
  obtain ⟨s1, s2⟩ := h.stored z (.int .i64 x)
  refine ⟨?_, s2, ?_, h.frozenAt z⟩
  · unfold Own
    rw [List.length_set, hn, List.map_set]
    exact s1
  · rw [h.cellAt z (by omega), List.getElem?_map, List.getElem?_eq_getElem (by omega)]
    simp [List.getD, List.getElem?_eq_getElem (show z < S.length by omega)]
set_option maxHeartbeats 1600000 in
theorem c_darkenG (a b c p v : Value) (cs : List Int) (k B : Nat) (w : World) (ho : Own w B v cs) (hk : k < cs.length) (hc : Col cs) : Calls Try.prog 181 #[mkv a b c v p, .int .i64 k, .int .i64 1] w fun e w' => e = .returned (.tuple #[]) ∧ Own w' B v (shade cs k) ∧ w.grownBy w' v.ownBlock := by
  have HM := Lib.hid (shade_max (k := k) hc)
  rcases ho.shape' with ⟨_, h0⟩ | ⟨g, cap, rfl⟩
  · rw [h0] at hk; simp at hk
  have hb0 := below1 w (.cells (c5 a b c (.slice (some ⟨g, 0, none⟩) cs.length cap) p) 154)
  have O0 := Lib.hid (ho.below hb0)
  have R0 := Lib.hid (Row.new w 154 (c5 a b c (.slice (some ⟨g, 0, none⟩) cs.length cap) p))
  have hgl := (owns_lt ho rfl).2
  have HG := Lib.hid (show w.grownBy (w.alloc (.cells (c5 a b c (.slice (some ⟨g, 0, none⟩) cs.length cap) p) 154)) (some g) from ⟨rfl, rfl, rfl, by simp, fun i hi _ => hb0.block i hi⟩)
  have HCL := Lib.hid hc
  clear ho hb0 hc
  generalize hn : cs.length = n at *
  have HN := Lib.hid hn; clear hn
  have i1 : (k : Int) < (n : Int) := by omega
  have i0 : (0 : Int) ≤ (k : Int) := by omega
  go_enter Try.func181, Try.ntmps181
  go_wp2_with fail
  generalize hgm : w.heap.size = gm at *
  generalize (w.alloc (.cells (c5 a b c (.slice (some ⟨g, 0, none⟩) n cap) p) 154)) = w1 at *
  obtain ⟨s1, s2, s3, s4⟩ := O0.out.store1 HN.out hk (max (cs.getD k 0) 1)
  generalize cs.getD k 0 = z at *
  have cM : w1.drew.cell? ⟨gm, 3, none⟩ = some (.slice (some ⟨g, 0, none⟩) n cap) := Row.cell R0.out 3
  have cC : w1.drew.cell? ⟨g, k, none⟩ = some (.int .i64 z) := s3
  have fC : w1.drew.frozen? ⟨g, k, none⟩ = false := s4
  have hmx : (if z < 1 then 1 else z) = max z 1 := by split <;> omega
  have hne : gm ≠ g := by omega
  have RS := Lib.hid (Row.other R0.out ⟨g, k, none⟩ hne (.int .i64 (max z 1)))
  have S1 := Lib.hid s1; have S2 := Lib.hid s2
  clear s1 s2 s3 s4
  refine wp_region_held_drew (S := (fun w' => w'.cell? ⟨gm, 3, none⟩ = some (.slice (some ⟨g, 0, none⟩) n cap))) (by kernel_rfl) (cM) (fun hHeld => ?_)
  refine wpAnyH_take (i := 0) (v := ?va0x1) rfl (by kernel_rfl) (by kernel_rfl) (by kernel_rfl) (fun _ _ _ h => h) (Or.inl ⟨by rfl, ?hy0x1⟩) (by assumption) ?rest0x1
  case hy0x1 => (intro w hSw; (try dsimp only at hSw); go_simp; try with_reducible rfl)
  (try simp only [Act.put, List.getElem_toArray, List.getElem_cons_zero, List.setIfInBounds_toArray, List.set_cons_zero, List.set_cons_succ])
  refine wpAnyH_take (i := 1) (v := ?va1x2) rfl (by kernel_rfl) (by kernel_rfl) (by kernel_rfl) (fun _ _ _ h => h) (Or.inl ⟨by rfl, ?hy1x2⟩) (by assumption) ?rest1x2
  case hy1x2 => (intro w hSw; (try dsimp only at hSw); go_simp; try with_reducible rfl)
  (try simp only [Act.put, List.getElem_toArray, List.getElem_cons_zero, List.getElem_cons_succ, List.setIfInBounds_toArray, List.set_cons_zero, List.set_cons_succ])
  refine wpAnyH_take (i := 2) (v := ?va2x3) rfl (by kernel_rfl) (by kernel_rfl) (by kernel_rfl) (fun _ _ _ h => h) (Or.inl ⟨by rfl, ?hy2x3⟩) (by assumption) ?rest2x3
  case hy2x3 => (intro w hSw; (try dsimp only at hSw); go_simp; try with_reducible rfl)
  (try simp only [Act.put, List.getElem_toArray, List.getElem_cons_zero, List.getElem_cons_succ, List.setIfInBounds_toArray, List.set_cons_zero, List.set_cons_succ])
  refine wpAnyH_take (i := 3) (v := ?va3x4) rfl (by kernel_rfl) (by kernel_rfl) (by kernel_rfl) (fun _ _ _ h => h) (Or.inl ⟨by rfl, ?hy3x4⟩) (by assumption) ?rest3x4
  case hy3x4 => (intro w hSw; (try dsimp only at hSw); go_simp; try with_reducible rfl)
  (try simp only [Act.put, List.getElem_toArray, List.getElem_cons_zero, List.getElem_cons_succ, List.setIfInBounds_toArray, List.set_cons_zero, List.set_cons_succ])
  refine wpAnyH_take (i := 4) (v := ?va4x5) rfl (by kernel_rfl) (by kernel_rfl) (by kernel_rfl) (fun _ _ _ h => h) (Or.inl ⟨by rfl, ?hy4x5⟩) (by assumption) ?rest4x5
  case hy4x5 => (intro w hSw; (try dsimp only at hSw); go_simp; try with_reducible rfl)
  (try simp only [Act.put, List.getElem_toArray, List.getElem_cons_zero, List.getElem_cons_succ, List.setIfInBounds_toArray, List.set_cons_zero, List.set_cons_succ])
  refine wpAnyH_take (i := 5) (v := ?va5x6) rfl (by kernel_rfl) (by kernel_rfl) (by kernel_rfl) (fun _ _ _ h => h) (Or.inl ⟨by rfl, ?hy5x6⟩) (by assumption) ?rest5x6
  case hy5x6 => (intro w hSw; (try dsimp only at hSw); go_simp; try with_reducible rfl)
  (try simp only [Act.put, List.getElem_toArray, List.getElem_cons_zero, List.getElem_cons_succ, List.setIfInBounds_toArray, List.set_cons_zero, List.set_cons_succ])
  refine wpAnyH_take (i := 6) (v := ?va6x7) rfl (by kernel_rfl) (by kernel_rfl) (by kernel_rfl) (fun _ _ _ h => h) (Or.inl ⟨by rfl, ?hy6x7⟩) (by assumption) ?rest6x7
  case hy6x7 => (intro w hSw; (try dsimp only at hSw); go_simp; try with_reducible rfl)
  (try simp only [Act.put, List.getElem_toArray, List.getElem_cons_zero, List.getElem_cons_succ, List.setIfInBounds_toArray, List.set_cons_zero, List.set_cons_succ])
  refine wpAnyH_take (i := 8) (v := ?va8x8) rfl (by kernel_rfl) (by kernel_rfl) (by kernel_rfl) (fun _ _ _ h => h) (Or.inl ⟨by rfl, ?hy8x8⟩) (by assumption) ?rest8x8
  case hy8x8 => (intro w hSw; (try dsimp only at hSw); go_simp; try with_reducible rfl)
  (try simp only [Act.put, List.getElem_toArray, List.getElem_cons_zero, List.getElem_cons_succ, List.setIfInBounds_toArray, List.set_cons_zero, List.set_cons_succ])
  refine wpAnyH_ready (rs := [7]) (by kernel_rfl) (by simp) ?_
  refine AllReadyH.cons rfl (fun K hK => ?_) AllReadyH.nil
  go_simp
  refine hK.out _ _ (cM) (fun hHeld => ?_)
  clear hK K
  (try simp only [Act.put, List.getElem_toArray, List.getElem_cons_zero, List.getElem_cons_succ, List.setIfInBounds_toArray, List.set_cons_zero, List.set_cons_succ])
  refine wpAnyH_take (i := 9) (v := ?va9x9) rfl (by kernel_rfl) (by kernel_rfl) (by kernel_rfl) (fun _ _ _ h => h) (Or.inl ⟨by rfl, ?hy9x9⟩) (by assumption) ?rest9x9
  case hy9x9 => (intro w hSw; (try dsimp only at hSw); go_simp; try with_reducible rfl)
  (try simp only [Act.put, List.getElem_toArray, List.getElem_cons_zero, List.getElem_cons_succ, List.setIfInBounds_toArray, List.set_cons_zero, List.set_cons_succ])
  refine wpAnyH_take (i := 10) (v := ?va10x10) rfl (by kernel_rfl) (by kernel_rfl) (by kernel_rfl) (fun _ _ _ h => h) (Or.inl ⟨by rfl, ?hy10x10⟩) (by assumption) ?rest10x10
  case hy10x10 => (intro w hSw; (try dsimp only at hSw); go_simp; try with_reducible rfl)
  (try simp only [Act.put, List.getElem_toArray, List.getElem_cons_zero, List.getElem_cons_succ, List.setIfInBounds_toArray, List.set_cons_zero, List.set_cons_succ])
  refine wpAnyH_ready (rs := [11]) (by kernel_rfl) (by simp) ?_
  refine AllReadyH.cons rfl (fun K hK => ?_) AllReadyH.nil
  go_simp
  first | rw [hmx] | skip
  refine hK.out _ _ (Row.cell RS.out 3) (fun hHeld => ?_)
  clear hK K
  (try simp only [Act.put, List.getElem_toArray, List.getElem_cons_zero, List.getElem_cons_succ, List.setIfInBounds_toArray, List.set_cons_zero, List.set_cons_succ])
  refine wpAnyH_done (by kernel_rfl) ?_ _
  clear hHeld
  generalize w1.setCell ⟨g, k, none⟩ (.int .i64 (max z 1)) = w2 at *
  clear cM cC fC hmx RS
  go_wp2_with fail
  go_end0
  exact ⟨rfl, by rw [← HM.out]; exact S1.out, grownBy_trans HG.out (grownBy_trans S2.out (grown_drew _ _))⟩
set_option maxHeartbeats 1600000 in
theorem c_shadeAll (W : World) (a b c p v rv : Value) (cs zs : List Int) (w : World) (hz : IntsAt W rv zs) (hB : Below W.heap.size W w) (ho : Own w W.heap.size v cs) (hc : Col cs) (hr : ∀ z ∈ zs, inR cs.length z) (hzl : zs.length ≤ 12) :
    Calls Try.prog 179 #[mkv a b c v p, rv] w fun e w' => e = .returned (.tuple #[]) ∧ Own w' W.heap.size v (shades cs zs) ∧ w.grownBy w' v.ownBlock := by
  have hb0 := below1 w (.cells (c5 a b c v p) 154)
  have O0 := Lib.hid (ho.below hb0)
  have R0 := Lib.hid (Row.new w 154 (c5 a b c v p))
  have HG : Hid (w.grownBy (w.alloc (.cells (c5 a b c v p) 154)) v.ownBlock) := ⟨rfl, rfl, rfl, by simp, fun i hi _ => hb0.block i hi⟩
  have HNE : Hid (v.ownBlock ≠ some w.heap.size) := fun e => by have := (owns_lt ho e).2; omega
  have HB0 := Lib.hid (bst hB hb0 hB.size)
  have HLO : Hid (∀ g, v.ownBlock = some g → W.heap.size ≤ g) := fun g e => (owns_lt ho e).1
  obtain ⟨ra, rc, rfl⟩ := hz.shape
  have HZ := Lib.hid hz; have HR := Lib.hid hr; have HC := Lib.hid hc
  clear hz hB ho hc hr hb0
  generalize hm : zs.length = m at *
  have HM := Lib.hid hm; clear hm
  go_enter Try.func179, Try.ntmps179
  go_wp2
  generalize w.heap.size = gm at *
  generalize (w.alloc (.cells (c5 a b c v p) 154)) = w0 at *
  go_loopw [8] (fun i wr => ∃ j : Nat, j ≤ m ∧ i = .int .i64 j ∧ Hid (Own wr W.heap.size v (shades cs (zs.take j))) ∧ Hid (w0.grownBy wr v.ownBlock)) (fun i _ => m - (intOf i).toNat)
  case atStart => exact ⟨0, Nat.zero_le _, rfl, by rw [List.take_zero, shades_nil]; exact O0, World.grownBy.refl _ _⟩
  case round =>
    obtain ⟨j, hj, rfl, how, hgr⟩ := hrel
    by_cases hlt : j < m
    · obtain ⟨zb, zo, rfl, hcz⟩ := HZ.out.at' (by omega)
      have BR : Below W.heap.size W wr := HB0.out.grown hgr.out HB0.out.size (fun k hk => HLO.out k hk)
      have q := cellBelow BR (Nat.le_refl _) (hcz j hlt)
      have RW := Row.grownBy R0.out hgr.out HNE.out
      have d0 := RW.cell 0
      have d1 := RW.cell 1
      have d2 := RW.cell 2
      have d3 := RW.cell 3
      have d4 := RW.cell 4
      have hjl : j < zs.length := by rw [HM.out]; exact hlt
      have hin := HR.out (zs.getD j 0) (by rw [List.getD, List.getElem?_eq_getElem hjl]; exact List.getElem_mem hjl)
      have HS := Lib.hid (shades_take_succ (cs := cs) hjl)
      have i1 : (j : Int) < (m : Int) := by omega
      clear hcz RW hjl
      generalize zs.getD j 0 = z at *
      by_cases z1 : z = -1
      · subst z1
        have HE : Hid (shades cs (zs.take (j + 1)) = shades cs (zs.take j)) := by unfold Hid; rw [HS.out]; exact shade_neg (by omega)
        clear hin
        go_wp2_with fail
        go_roundw
        case rel => exact ⟨j + 1, by omega, by go_num, by rw [HE.out]; exact how, hgr⟩
        case measure => simp [intOf]; omega
      · obtain ⟨t, rfl⟩ : ∃ t : Nat, z = t := ⟨z.toNat, by rcases hin with h | h <;> omega⟩
        have HTN : Hid (t < (shades cs (zs.take j)).length) := by unfold Hid; rw [shades_len]; rcases hin with h | h <;> omega
        have i2 : ((t : Int) == -1) = false := by simp
        clear hin z1
        go_wp2_with fail
        refine (c_darkenG a b c p v _ t _ _ how.out HTN.out HC.out.shades).mono ?_
        rintro e w6 ⟨rfl, ho6, hg6⟩
        have O6 := Lib.hid ho6
        have G6 := Lib.hid (grownBy_trans hgr.out hg6)
        clear ho6 hg6 d0 d1 d2 d3 d4 q
        go_wp2_with fail
        go_roundw
        case rel => exact ⟨j + 1, by omega, by go_num, by rw [HS.out]; exact O6, G6⟩
        case measure => simp [intOf]; omega
    · obtain rfl : j = m := by omega
      have HE : Hid (zs.take j = zs) := List.take_of_length_le (by rw [HM.out]; exact Nat.le_refl _)
      go_wp2_with fail
      go_end0
      exact ⟨rfl, by rw [← HE.out]; exact how.out, grownBy_trans HG.out hgr.out⟩
theorem c_hasThing (v : Value) (cs : List Int) (k : Int) (w : World) (hz : IntsAt w v cs) : Calls Try.prog 215 #[v, .int .i64 k] w fun e w' => e = .returned (.bool (hasB cs k)) ∧ w = w' := by
  obtain ⟨va, vc, rfl⟩ := hz.shape
  clear hz
  have hE : hasB cs k = (decide (0 ≤ k) && decide (k < cs.length)) := rfl
  generalize hasB cs k = y at *
  generalize cs.length = n at *
  by_cases h0 : 0 ≤ k
  · by_cases h1 : k < (n : Int)
    · have HE : Hid (y = true) := by unfold Hid; rw [hE, decide_eq_true h0, decide_eq_true h1]; rfl
      clear hE
      go_enter Try.func215, Try.ntmps215
      go_wp2
      go_ret
      exact ⟨r_b HE.out.symm, rfl⟩
    · have HE : Hid (y = false) := by unfold Hid; rw [hE, decide_eq_false h1]; simp
      clear hE
      go_enter Try.func215, Try.ntmps215
      go_wp2
      go_ret
      exact ⟨r_b HE.out.symm, rfl⟩
  · have HE : Hid (y = false) := by unfold Hid; rw [hE, decide_eq_false h0]; rfl
    clear hE
    go_enter Try.func215, Try.ntmps215
    go_wp2
    go_ret
    exact ⟨r_b HE.out.symm, rfl⟩
theorem hasB_nat {cs : List Int} {k : Int} (h : hasB cs k = true) : ∃ t : Nat, k = t ∧ t < cs.length := by
  unfold hasB at h
  simp only [Bool.and_eq_true, decide_eq_true_eq] at h
  exact ⟨k.toNat, by omega, by omega⟩
end Go.Proofs.Ytbmfkgfmibpkjaa
namespace Go.Proofs.Ytbmfkgfmibpkjaa
open Go.RowKit Ph

theorem rep_ints (n : Nat) : (madeCells (Value.int .i64 0).cells (n * 1)).toList = (List.replicate n (0 : Int)).map (Value.int .i64) := by
  rw [Nat.mul_one, show (Value.int .i64 0).cells = #[.int .i64 0] from rfl, toList_madeCells_one, List.map_replicate]
set_option maxHeartbeats 1600000 in
theorem s_l6Shade (v : Value) (cs : List Int) (z : Int) (B : Nat) (w : World) (ho : Own w B v cs) (hz : z < cs.length) : Calls Try.prog 155 #[v, .int .i64 z] w fun e w' => e = .returned (.tuple #[]) ∧ Own w' B v (shade cs z) ∧ w.grownBy w' v.ownBlock := by
  by_cases z0 : z < 0
  · have HE := Lib.hid (shade_neg (cs := cs) z0)
    have HO := Lib.hid ho
    clear ho hz
    have z1 : ¬ (0 ≤ z) := by omega
    go_enter Try.func155, Try.ntmps155
    go_wp2_with fail
    go_end0
    exact ⟨rfl, by rw [HE.out]; exact HO.out, World.grownBy.refl _ _⟩
  · obtain ⟨k, rfl⟩ : ∃ k : Nat, z = k := ⟨z.toNat, by omega⟩
    have hk : k < cs.length := by omega
    rcases ho.shape' with ⟨_, h0⟩ | ⟨g, cap, rfl⟩
    · rw [h0] at hk; simp at hk
    obtain ⟨s1, s2, s3, s4⟩ := ho.store1 rfl hk 1
    have HE := Lib.hid (shade_nat cs k)
    have HO := Lib.hid ho; have S1 := Lib.hid s1; have S2 := Lib.hid s2
    clear ho s1 s2 hz
    generalize cs.length = n at *
    have i1 : (k : Int) < (n : Int) := by omega
    have i0 : (0 : Int) ≤ (k : Int) := by omega
    generalize cs.getD k 0 = x at *
    by_cases hx : x = 0
    · subst hx
      rw [if_pos rfl] at HE
      clear z0
      go_enter Try.func155, Try.ntmps155
      go_wp2_with fail
      go_end0
      exact ⟨rfl, by rw [HE.out]; exact S1.out, S2.out⟩
    · rw [if_neg hx] at HE
      have hx1 : (x == 0) = false := by simpa using hx
      clear z0 hx
      go_enter Try.func155, Try.ntmps155
      go_wp2_with fail
      go_end0
      exact ⟨rfl, by rw [HE.out]; exact HO.out, World.grownBy.refl _ _⟩
theorem own_nil0 (w : World) : Own (w.alloc (.cells #[] 3)) w.heap.size (.slice (some ⟨w.heap.size, 0, none⟩) 0 0) [] := by
  refine ⟨rfl, .inr ⟨w.heap.size, 0, #[], rfl, Nat.le_refl _, Row.new w 3 #[], Nat.le_refl _, ?_, ?_, ?_⟩⟩ <;> simp
set_option maxHeartbeats 1600000 in
theorem s_l6Start (a b c : Value) (h : H) (w : World) (hA : HeapAt w a b c h) (hG : Ph.Good h) : Calls Try.prog 133 #[hv a b c] w fun e w' => ∃ v', e = .returned v' ∧ Own w' w.heap.size v' (startC h) ∧ Below w.heap.size w w' := by
  obtain ⟨i0, hi, hz0, hz1, hz2⟩ := info_parts info_int
  have hb0 := below1 w (.cells (c3 a b c) 32)
  have hn12 := hG.n
  have hrn := hG.rn
  have HR : Hid (∀ z ∈ h.r, z < (h.f.length : Int)) := fun z hz => by rcases refs_bound hG hG.rr z hz with e | ⟨_, e, _⟩ <;> omega
  have HZ := Lib.hid hA.r
  have R0 := Lib.hid (show RowH _ _ a b c from Row.new w 32 (c3 a b c))
  have HB0 := Lib.hid hb0
  obtain ⟨fa, fc, rfl⟩ := hA.f.shape
  obtain ⟨ra, rc, rfl⟩ := hA.r.shape
  have HS : Hid (startC h = shades (List.replicate h.f.length 0) h.r) := rfl
  generalize startC h = out at *

  clear hA hG hb0
  generalize hn : h.f.length = n at *
  generalize hm : h.r.length = m at *
  have HM := Lib.hid hm
  clear hn hm
  have d0 := R0.out.c0
  have d2 := R0.out.c2
  go_enter Try.func133, Try.ntmps133
  go_wp2_with (at_make; refine wpList_make_full _ rfl _ _ 24 rfl w.heap.size 3 i0 (.int .i64 0) 1 Try.underlying24 hi hz0 hz1 .i64 .i64 _ _ n rfl rfl rfl rfl (by rw [hz2]; omega) (by unfold maxLen; omega) (by simp) ?_; intro w1 hown hgr
               rw [rep_ints, show (w.alloc (.cells (c3 (.slice fa n fc) b (.slice ra m rc)) 32)).heap.size = w.heap.size + 1 from World.size_alloc _ _] at hown
               have O1 : Hid (Own w1 w.heap.size (.slice (some ⟨w.heap.size + 1, 0, none⟩) n n) (List.replicate n 0)) := (by { unfold Hid Own; rw [List.length_replicate]; exact hown })
               have B1 := Lib.hid (HB0.out.grown hgr HB0.out.size (fun k hk => by cases hk))
               have R1 := Lib.hid (show RowH _ _ _ _ _ from Row.grown R0.out hgr)
               have e2 := R1.out.c2
               clear hown hgr)
  clear d0 d2 e2
  go_loopw [13] (fun i wr => ∃ j : Nat, j ≤ m ∧ i = .int .i64 j ∧ Hid (Own wr w.heap.size (.slice (some ⟨w.heap.size + 1, 0, none⟩) n n) (shades (List.replicate n 0) (h.r.take j))) ∧ Hid (Below w.heap.size w wr)) (fun i _ => m - (intOf i).toNat)
  case atStart => exact ⟨0, Nat.zero_le _, rfl, by rw [List.take_zero, shades_nil]; exact O1, B1⟩
  case round =>
    obtain ⟨j, hj, rfl, how, hbw⟩ := hrel
    by_cases hlt : j < m
    · obtain ⟨zb, zo, rfl, hcz⟩ := HZ.out.at' (by omega)
      have q := cellBelow hbw.out (Nat.le_refl _) (hcz j hlt)
      have hjl : j < h.r.length := by rw [HM.out]; exact hlt
      have hin := HR.out (h.r.getD j 0) (by rw [List.getD, List.getElem?_eq_getElem hjl]; exact List.getElem_mem hjl)
      have HSS := Lib.hid (shades_take_succ (cs := List.replicate n 0) hjl)
      have HIN : Hid (h.r.getD j 0 < ((shades (List.replicate n 0) (h.r.take j)).length : Int)) := by unfold Hid; rw [shades_len, List.length_replicate]; exact hin
      have i1 : (j : Int) < (m : Int) := by omega
      clear hcz hjl hin
      generalize h.r.getD j 0 = z at *
      go_wp2_with fail
      refine (s_l6Shade _ _ z _ wr how.out HIN.out).mono ?_
      rintro e w6 ⟨rfl, ho6, hg6⟩
      have O6 := Lib.hid ho6
      have B6 := Lib.hid (hbw.out.grown hg6 hbw.out.size (fun g e => (owns_lt how.out e).1))
      clear ho6 hg6 q
      go_wp2_with fail
      go_roundw
      case rel => exact ⟨j + 1, by omega, by go_num, by rw [HSS.out]; exact O6, B6⟩
      case measure => simp [intOf]; omega
    · obtain rfl : j = m := by omega
      have HE : Hid (h.r.take j = h.r) := List.take_of_length_le (by rw [HM.out]; exact Nat.le_refl _)
      go_wp2_with fail
      go_ret
      exact ⟨_, rfl, by rw [HS.out, ← HE.out]; exact how.out, hbw.out⟩
theorem startR_no {h : H} (k : good h = false) : startR h = [] := by unfold startR; rw [k]; rfl
theorem startR_yes {h : H} (k : good h = true) : startR h = startC h := by unfold startR; rw [k]; rfl
end Go.Proofs.Ytbmfkgfmibpkjaa
namespace Go.Proofs.Ytbmfkgfmibpkjaa
open Go.RowKit Ph

set_option maxRecDepth 100000 in
set_option maxHeartbeats 1600000 in
theorem c_darkenB (W : World) (a b c p v : Value) (fs : List (List Int)) (cs : List Int) (k : Nat) (w : World) (hF : RowsAt W a fs) (hB : Below W.heap.size W w) (ho : Own w W.heap.size v cs) (hc : Col cs) (hk : k < cs.length) (hkf : k < fs.length) (h0 : cs.getD k 0 ≠ 0) (hr : ∀ z ∈ fs.getD k [], inR cs.length z) (hl : (fs.getD k []).length ≤ 3) :
    Calls Try.prog 181 #[mkv a b c v p, .int .i64 k, .int .i64 2] w fun e w' => e = .returned (.tuple #[]) ∧ Own w' W.heap.size v (scan cs (fs.getD k []) k) ∧ w.grownBy w' v.ownBlock := by
  have HM := Lib.hid (scan_eq (k := k) (fs.getD k []) h0)
  have HK := Lib.hid (shades_keeps (k := k) (fs.getD k []) h0)
  have hz2 := hc k
  have HLN := Lib.hid (shades_len (fs.getD k []) cs)
  rcases ho.shape' with ⟨_, h0'⟩ | ⟨g, cap, rfl⟩
  · rw [h0'] at hk; simp at hk
  obtain ⟨fa, fc, rfl⟩ := hF.shape
  obtain ⟨fb, fo, rfl, hcf⟩ := hF.at' (by omega)
  obtain ⟨u, quf, huf⟩ := hcf k hkf
  obtain ⟨ua, uc, rfl⟩ := huf.shape
  have HSA : Hid (∀ w', Below W.heap.size W w' → Own w' W.heap.size (.slice (some ⟨g, 0, none⟩) cs.length cap) cs → Calls Try.prog 179 #[mkv (.slice (some ⟨fb, fo, none⟩) fs.length fc) b c (.slice (some ⟨g, 0, none⟩) cs.length cap) p, .slice ua (fs.getD k []).length uc] w' fun e w'' => e = .returned (.tuple #[]) ∧ Own w'' W.heap.size (.slice (some ⟨g, 0, none⟩) cs.length cap) (shades cs (fs.getD k [])) ∧ w'.grownBy w'' (some g)) := fun w' hb ho => c_shadeAll W _ _ _ _ _ _ cs _ w' huf hb ho hc hr (by omega)
  have hb0 := below1 w (.cells (c5 (.slice (some ⟨fb, fo, none⟩) fs.length fc) b c (.slice (some ⟨g, 0, none⟩) cs.length cap) p) 154)
  have O0 := Lib.hid (ho.below hb0)
  have R0 := Lib.hid (Row.new w 154 (c5 (.slice (some ⟨fb, fo, none⟩) fs.length fc) b c (.slice (some ⟨g, 0, none⟩) cs.length cap) p))
  have B0 := Lib.hid (bst hB hb0 hB.size)
  have hgl : g < w.heap.size := (owns_lt ho rfl).2
  have HLO : Hid (∀ g', some g = some g' → W.heap.size ≤ g') := fun g' e => (owns_lt ho e).1
  have HG := Lib.hid (show w.grownBy (w.alloc (.cells (c5 (.slice (some ⟨fb, fo, none⟩) fs.length fc) b c (.slice (some ⟨g, 0, none⟩) cs.length cap) p) 154)) (some g) from ⟨rfl, rfl, rfl, by simp, fun i hi _ => hb0.block i hi⟩)
  have HNE : Hid (some g ≠ some w.heap.size) := by unfold Hid; simp; omega
  have EU := Lib.hid quf
  clear ho hb0 hc h0 hr hF hB hcf huf quf
  generalize fs.getD k [] = row at *
  generalize row.length = ul at *
  generalize hn : cs.length = n at *
  have HN := Lib.hid hn; clear hn
  generalize fs.length = fl at *
  have i1 : (k : Int) < (n : Int) := by omega
  have i2 : (k : Int) < (fl : Int) := by omega
  have i0 : (0 : Int) ≤ (k : Int) := by omega
  go_enter Try.func181, Try.ntmps181
  go_wp2_with fail
  generalize w.heap.size = gm at *
  generalize (w.alloc (.cells (c5 (.slice (some ⟨fb, fo, none⟩) fl fc) b c (.slice (some ⟨g, 0, none⟩) n cap) p) 154)) = w1 at *
  have BD := Lib.hid (below_drew B0.out)
  have OD : Hid (Own w1.drew W.heap.size (.slice (some ⟨g, 0, none⟩) n cap) cs) := O0.out
  have RD : Hid (Row w1.drew gm 154 (c5 (.slice (some ⟨fb, fo, none⟩) fl fc) b c (.slice (some ⟨g, 0, none⟩) n cap) p)) := R0.out
  have GD := Lib.hid (grownBy_trans HG.out (grown_drew w1 (some g)))
  have EUW : Hid (W.cell? ⟨fb, fo + k, none⟩ = some (.slice ua ul uc)) := EU
  have eu := cellBelow BD.out (Nat.le_refl _) EUW.out
  have e0 := RD.out.cell 0
  have e1 := RD.out.cell 1
  have e2 := RD.out.cell 2
  have e3 := RD.out.cell 3
  have e4 := RD.out.cell 4
  refine wp_region_held_drew (S := (fun w' => w'.cell? ⟨gm, 0, none⟩ = some (.slice (some ⟨fb, fo, none⟩) fl fc) ∧ w'.cell? ⟨gm, 1, none⟩ = some b ∧ w'.cell? ⟨gm, 2, none⟩ = some c ∧ w'.cell? ⟨gm, 3, none⟩ = some (.slice (some ⟨g, 0, none⟩) n cap) ∧ w'.cell? ⟨gm, 4, none⟩ = some p ∧ w'.cell? ⟨fb, fo + k, none⟩ = some (.slice ua ul uc))) (by kernel_rfl) (⟨e0, e1, e2, e3, e4, eu⟩) (fun hHeld => ?_)
  refine wpAnyH_take (i := 0) (v := ?va0x1) rfl (by kernel_rfl) (by kernel_rfl) (by kernel_rfl) (fun _ _ _ h => h) (Or.inl ⟨by rfl, ?hy0x1⟩) (by assumption) ?rest0x1
  case hy0x1 => (intro w hSw; (try dsimp only at hSw); go_simp; try with_reducible rfl)
  (try simp only [Act.put, List.getElem_toArray, List.getElem_cons_zero, List.setIfInBounds_toArray, List.set_cons_zero, List.set_cons_succ])
  refine wpAnyH_take (i := 1) (v := ?va1x2) rfl (by kernel_rfl) (by kernel_rfl) (by kernel_rfl) (fun _ _ _ h => h) (Or.inl ⟨by rfl, ?hy1x2⟩) (by assumption) ?rest1x2
  case hy1x2 => (intro w hSw; (try dsimp only at hSw); go_simp; try with_reducible rfl)
  (try simp only [Act.put, List.getElem_toArray, List.getElem_cons_zero, List.getElem_cons_succ, List.setIfInBounds_toArray, List.set_cons_zero, List.set_cons_succ])
  refine wpAnyH_take (i := 2) (v := ?va2x3) rfl (by kernel_rfl) (by kernel_rfl) (by kernel_rfl) (fun _ _ _ h => h) (Or.inl ⟨by rfl, ?hy2x3⟩) (by assumption) ?rest2x3
  case hy2x3 => (intro w hSw; (try dsimp only at hSw); go_simp; try with_reducible rfl)
  (try simp only [Act.put, List.getElem_toArray, List.getElem_cons_zero, List.getElem_cons_succ, List.setIfInBounds_toArray, List.set_cons_zero, List.set_cons_succ])
  refine wpAnyH_take (i := 3) (v := ?va3x4) rfl (by kernel_rfl) (by kernel_rfl) (by kernel_rfl) (fun _ _ _ h => h) (Or.inl ⟨by rfl, ?hy3x4⟩) (by assumption) ?rest3x4
  case hy3x4 => (intro w hSw; (try dsimp only at hSw); go_simp; try with_reducible rfl)
  (try simp only [Act.put, List.getElem_toArray, List.getElem_cons_zero, List.getElem_cons_succ, List.setIfInBounds_toArray, List.set_cons_zero, List.set_cons_succ])
  refine wpAnyH_take (i := 4) (v := ?va4x5) rfl (by kernel_rfl) (by kernel_rfl) (by kernel_rfl) (fun _ _ _ h => h) (Or.inl ⟨by rfl, ?hy4x5⟩) (by assumption) ?rest4x5
  case hy4x5 => (intro w hSw; (try dsimp only at hSw); go_simp; try with_reducible rfl)
  (try simp only [Act.put, List.getElem_toArray, List.getElem_cons_zero, List.getElem_cons_succ, List.setIfInBounds_toArray, List.set_cons_zero, List.set_cons_succ])
  refine wpAnyH_take (i := 5) (v := ?va5x6) rfl (by kernel_rfl) (by kernel_rfl) (by kernel_rfl) (fun _ _ _ h => h) (Or.inl ⟨by rfl, ?hy5x6⟩) (by assumption) ?rest5x6
  case hy5x6 => (intro w hSw; (try dsimp only at hSw); go_simp; try with_reducible rfl)
  (try simp only [Act.put, List.getElem_toArray, List.getElem_cons_zero, List.getElem_cons_succ, List.setIfInBounds_toArray, List.set_cons_zero, List.set_cons_succ])
  refine wpAnyH_take (i := 6) (v := ?va6x7) rfl (by kernel_rfl) (by kernel_rfl) (by kernel_rfl) (fun _ _ _ h => h) (Or.inl ⟨by rfl, ?hy6x7⟩) (by assumption) ?rest6x7
  case hy6x7 => (intro w hSw; (try dsimp only at hSw); go_simp; try with_reducible rfl)
  (try simp only [Act.put, List.getElem_toArray, List.getElem_cons_zero, List.getElem_cons_succ, List.setIfInBounds_toArray, List.set_cons_zero, List.set_cons_succ])
  refine wpAnyH_ready (rs := [7]) (by kernel_rfl) (by simp) ?_
  refine AllReadyH.cons rfl (fun K hK => ?_) AllReadyH.nil
  go_simp
  refine (HSA.out _ BD.out OD.out).mono ?_
  rintro e w2 ⟨rfl, ho2, hg2⟩
  have R2 := Lib.hid (Row.grownBy RD.out hg2 HNE.out)
  have EU2 := Lib.hid (cellBelow (BD.out.grown hg2 BD.out.size HLO.out) (Nat.le_refl _) EUW.out)
  refine hK.out _ _ (⟨R2.out.cell 0, R2.out.cell 1, R2.out.cell 2, R2.out.cell 3, R2.out.cell 4, EU2.out⟩) (fun hHeld => ?_)
  clear hK K
  (try simp only [Act.put, List.getElem_toArray, List.getElem_cons_zero, List.getElem_cons_succ, List.setIfInBounds_toArray, List.set_cons_zero, List.set_cons_succ])
  refine wpAnyH_done (by kernel_rfl) ?_ _
  clear hHeld
  have O2 := Lib.hid ho2
  have G2 := Lib.hid (grownBy_trans GD.out hg2)
  clear e0 e1 e2 e3 e4 eu ho2 hg2 EU2 BD OD RD
  go_wp2_with fail
  obtain ⟨s1, s2, s3, s4⟩ := O2.out.store1 HLN.out hk 2
  rw [HK.out] at s3
  generalize cs.getD k 0 = z at *
  have cM : w2.drew.cell? ⟨gm, 3, none⟩ = some (.slice (some ⟨g, 0, none⟩) n cap) := Row.cell R2.out 3
  have cC : w2.drew.cell? ⟨g, k, none⟩ = some (.int .i64 z) := s3
  have fC : w2.drew.frozen? ⟨g, k, none⟩ = false := s4
  have hmx : (if z < 2 then 2 else z) = 2 := by split <;> omega
  have hne : gm ≠ g := by omega
  have RS := Lib.hid (Row.other R2.out ⟨g, k, none⟩ hne (.int .i64 2))
  have S1 := Lib.hid s1; have S2 := Lib.hid s2
  clear s1 s2 s3 s4
  refine wp_region_held_drew (S := (fun w' => w'.cell? ⟨gm, 3, none⟩ = some (.slice (some ⟨g, 0, none⟩) n cap))) (by kernel_rfl) (cM) (fun hHeld => ?_)
  refine wpAnyH_take (i := 0) (v := ?va0x8) rfl (by kernel_rfl) (by kernel_rfl) (by kernel_rfl) (fun _ _ _ h => h) (Or.inl ⟨by rfl, ?hy0x8⟩) (by assumption) ?rest0x8
  case hy0x8 => (intro w hSw; (try dsimp only at hSw); go_simp; try with_reducible rfl)
  (try simp only [Act.put, List.getElem_toArray, List.getElem_cons_zero, List.setIfInBounds_toArray, List.set_cons_zero, List.set_cons_succ])
  refine wpAnyH_take (i := 1) (v := ?va1x9) rfl (by kernel_rfl) (by kernel_rfl) (by kernel_rfl) (fun _ _ _ h => h) (Or.inl ⟨by rfl, ?hy1x9⟩) (by assumption) ?rest1x9
  case hy1x9 => (intro w hSw; (try dsimp only at hSw); go_simp; try with_reducible rfl)
  (try simp only [Act.put, List.getElem_toArray, List.getElem_cons_zero, List.getElem_cons_succ, List.setIfInBounds_toArray, List.set_cons_zero, List.set_cons_succ])
  refine wpAnyH_take (i := 2) (v := ?va2x10) rfl (by kernel_rfl) (by kernel_rfl) (by kernel_rfl) (fun _ _ _ h => h) (Or.inl ⟨by rfl, ?hy2x10⟩) (by assumption) ?rest2x10
  case hy2x10 => (intro w hSw; (try dsimp only at hSw); go_simp; try with_reducible rfl)
  (try simp only [Act.put, List.getElem_toArray, List.getElem_cons_zero, List.getElem_cons_succ, List.setIfInBounds_toArray, List.set_cons_zero, List.set_cons_succ])
  refine wpAnyH_take (i := 3) (v := ?va3x11) rfl (by kernel_rfl) (by kernel_rfl) (by kernel_rfl) (fun _ _ _ h => h) (Or.inl ⟨by rfl, ?hy3x11⟩) (by assumption) ?rest3x11
  case hy3x11 => (intro w hSw; (try dsimp only at hSw); go_simp; try with_reducible rfl)
  (try simp only [Act.put, List.getElem_toArray, List.getElem_cons_zero, List.getElem_cons_succ, List.setIfInBounds_toArray, List.set_cons_zero, List.set_cons_succ])
  refine wpAnyH_take (i := 4) (v := ?va4x12) rfl (by kernel_rfl) (by kernel_rfl) (by kernel_rfl) (fun _ _ _ h => h) (Or.inl ⟨by rfl, ?hy4x12⟩) (by assumption) ?rest4x12
  case hy4x12 => (intro w hSw; (try dsimp only at hSw); go_simp; try with_reducible rfl)
  (try simp only [Act.put, List.getElem_toArray, List.getElem_cons_zero, List.getElem_cons_succ, List.setIfInBounds_toArray, List.set_cons_zero, List.set_cons_succ])
  refine wpAnyH_take (i := 5) (v := ?va5x13) rfl (by kernel_rfl) (by kernel_rfl) (by kernel_rfl) (fun _ _ _ h => h) (Or.inl ⟨by rfl, ?hy5x13⟩) (by assumption) ?rest5x13
  case hy5x13 => (intro w hSw; (try dsimp only at hSw); go_simp; try with_reducible rfl)
  (try simp only [Act.put, List.getElem_toArray, List.getElem_cons_zero, List.getElem_cons_succ, List.setIfInBounds_toArray, List.set_cons_zero, List.set_cons_succ])
  refine wpAnyH_take (i := 6) (v := ?va6x14) rfl (by kernel_rfl) (by kernel_rfl) (by kernel_rfl) (fun _ _ _ h => h) (Or.inl ⟨by rfl, ?hy6x14⟩) (by assumption) ?rest6x14
  case hy6x14 => (intro w hSw; (try dsimp only at hSw); go_simp; try with_reducible rfl)
  (try simp only [Act.put, List.getElem_toArray, List.getElem_cons_zero, List.getElem_cons_succ, List.setIfInBounds_toArray, List.set_cons_zero, List.set_cons_succ])
  refine wpAnyH_take (i := 8) (v := ?va8x15) rfl (by kernel_rfl) (by kernel_rfl) (by kernel_rfl) (fun _ _ _ h => h) (Or.inl ⟨by rfl, ?hy8x15⟩) (by assumption) ?rest8x15
  case hy8x15 => (intro w hSw; (try dsimp only at hSw); go_simp; try with_reducible rfl)
  (try simp only [Act.put, List.getElem_toArray, List.getElem_cons_zero, List.getElem_cons_succ, List.setIfInBounds_toArray, List.set_cons_zero, List.set_cons_succ])
  refine wpAnyH_ready (rs := [7]) (by kernel_rfl) (by simp) ?_
  refine AllReadyH.cons rfl (fun K hK => ?_) AllReadyH.nil
  go_simp
  refine hK.out _ _ (cM) (fun hHeld => ?_)
  clear hK K
  (try simp only [Act.put, List.getElem_toArray, List.getElem_cons_zero, List.getElem_cons_succ, List.setIfInBounds_toArray, List.set_cons_zero, List.set_cons_succ])
  refine wpAnyH_take (i := 9) (v := ?va9x16) rfl (by kernel_rfl) (by kernel_rfl) (by kernel_rfl) (fun _ _ _ h => h) (Or.inl ⟨by rfl, ?hy9x16⟩) (by assumption) ?rest9x16
  case hy9x16 => (intro w hSw; (try dsimp only at hSw); go_simp; try with_reducible rfl)
  (try simp only [Act.put, List.getElem_toArray, List.getElem_cons_zero, List.getElem_cons_succ, List.setIfInBounds_toArray, List.set_cons_zero, List.set_cons_succ])
  refine wpAnyH_take (i := 10) (v := ?va10x17) rfl (by kernel_rfl) (by kernel_rfl) (by kernel_rfl) (fun _ _ _ h => h) (Or.inl ⟨by rfl, ?hy10x17⟩) (by assumption) ?rest10x17
  case hy10x17 => (intro w hSw; (try dsimp only at hSw); go_simp; try with_reducible rfl)
  (try simp only [Act.put, List.getElem_toArray, List.getElem_cons_zero, List.getElem_cons_succ, List.setIfInBounds_toArray, List.set_cons_zero, List.set_cons_succ])
  refine wpAnyH_ready (rs := [11]) (by kernel_rfl) (by simp) ?_
  refine AllReadyH.cons rfl (fun K hK => ?_) AllReadyH.nil
  go_simp
  first | rw [hmx] | skip
  refine hK.out _ _ (Row.cell RS.out 3) (fun hHeld => ?_)
  clear hK K
  (try simp only [Act.put, List.getElem_toArray, List.getElem_cons_zero, List.getElem_cons_succ, List.setIfInBounds_toArray, List.set_cons_zero, List.set_cons_succ])
  refine wpAnyH_done (by kernel_rfl) ?_ _
  clear hHeld
  generalize w2.setCell ⟨g, k, none⟩ (.int .i64 2) = w3 at *
  clear cM cC fC hmx RS
  go_wp2_with fail
  go_end0
  exact ⟨rfl, by rw [← HM.out]; exact S1.out, grownBy_trans G2.out (grownBy_trans S2.out (grown_drew _ _))⟩
set_option maxHeartbeats 1600000 in
theorem c_coloursAtStart (a b c : Value) (h : H) (w : World) (hA : HeapAt w a b c h) (hG : Ph.Good h) : Calls Try.prog 132 #[hv a b c] w fun e w' => ∃ v', e = .returned v' ∧ Own w' w.heap.size v' (startC h) ∧ Below w.heap.size w w' := by
  obtain ⟨i0, hi, hz0, hz1, hz2⟩ := info_parts info_int
  have hb0 := below1 w (.cells (c3 a b c) 32)
  have hn12 := hG.n
  have HR : Hid (∀ z ∈ h.r, inR h.f.length z) := fun z hz => (refs_bound hG hG.rr z hz).imp id (fun h => ⟨h.1, h.2.1⟩)
  have HRN : Hid (h.r.length ≤ 12) := by unfold Hid; have := hG.rn; omega
  have hll := hG.ll
  have HZ := Lib.hid hA.r
  have R0 := Lib.hid (show RowH _ _ a b c from Row.new w 32 (c3 a b c))
  have HB0 := Lib.hid hb0
  obtain ⟨la, lc, rfl⟩ := hA.l.shape
  obtain ⟨ra, rc, rfl⟩ := hA.r.shape
  have HS : Hid (startC h = shades (List.replicate h.f.length 0) h.r) := rfl
  generalize startC h = out at *
  clear hA hG hb0
  rw [hll] at *
  generalize hn : h.f.length = n at *
  generalize hm : h.r.length = m at *
  have HM := Lib.hid hm
  clear hn hm hll
  have d0 := R0.out.c0
  have d1 := R0.out.c1
  have d2 := R0.out.c2
  go_enter Try.func132, Try.ntmps132
  go_wp2_with (at_make; refine wpList_make_full _ rfl _ _ 24 rfl w.heap.size 3 i0 (.int .i64 0) 1 Try.underlying24 hi hz0 hz1 .i64 .i64 _ _ n rfl rfl rfl rfl (by rw [hz2]; omega) (by unfold maxLen; omega) (by simp) ?_; intro w1 hown hgr
               rw [rep_ints, show (w.alloc (.cells (c3 a (.slice la n lc) (.slice ra m rc)) 32)).heap.size = w.heap.size + 1 from World.size_alloc _ _] at hown
               have O1 : Hid (Own w1 w.heap.size (.slice (some ⟨w.heap.size + 1, 0, none⟩) n n) (List.replicate n 0)) := (by { unfold Hid Own; rw [List.length_replicate]; exact hown })
               have B1 := Lib.hid (HB0.out.grown hgr HB0.out.size (fun k hk => by cases hk))
               have R1 := Lib.hid (show RowH _ _ _ _ _ from (Row.grown R0.out hgr).alloc (.cells (c5 (.slice none 0 0) (.slice none 0 0) (.slice none 0 0) (.slice (some ⟨w.heap.size + 1, 0, none⟩) n n) .nilFunc) 154))
               have e2 := R1.out.c2
               have RM := Lib.hid (Row.new w1 154 (c5 (.slice none 0 0) (.slice none 0 0) (.slice none 0 0) (.slice (some ⟨w.heap.size + 1, 0, none⟩) n n) .nilFunc))
               have m0 := RM.out.cell 0
               have m1 := RM.out.cell 1
               have m2 := RM.out.cell 2
               have m3 := RM.out.cell 3
               have m4 := RM.out.cell 4
               clear hown hgr)
  have B2 := Lib.hid (B1.out.alloc B1.out.size (.cells (c5 (.slice none 0 0) (.slice none 0 0) (.slice none 0 0) (.slice (some ⟨w.heap.size + 1, 0, none⟩) n n) .nilFunc) 154))
  have O2 := Lib.hid (O1.out.below (below1 w1 (.cells (c5 (.slice none 0 0) (.slice none 0 0) (.slice none 0 0) (.slice (some ⟨w.heap.size + 1, 0, none⟩) n n) .nilFunc) 154)))
  have HNE : Hid (some (w.heap.size + 1) ≠ some w1.heap.size) := by unfold Hid; have : w.heap.size + 1 < w1.heap.size := (owns_lt O1.out rfl).2; simp; omega
  refine (c_shadeAll w _ _ _ _ _ _ _ h.r _ HZ.out B2.out O2.out (Col.rep n) (by rw [List.length_replicate]; exact HR.out) (by rw [HM.out]; exact HRN.out)).mono ?_
  rintro e w6 ⟨rfl, ho6, hg6⟩
  have O6 := Lib.hid ho6
  have B6 := Lib.hid (B2.out.grown hg6 B2.out.size (fun g e => (owns_lt O2.out e).1))
  have R6 := Row.grownBy RM.out hg6 HNE.out
  clear d0 d1 d2 e2 m0 m1 m2 m3 m4
  have m3 := R6.cell 3
  clear R6 ho6 hg6
  go_wp2_with fail
  go_ret
  exact ⟨_, rfl, by rw [HS.out]; exact O6.out, B6.out⟩
set_option maxHeartbeats 1600000 in
theorem c_areColoursOf (a b c v : Value) (h : H) (cs : List Int) (w : World) (hA : HeapAt w a b c h) (hz : IntsAt w v cs) : Calls Try.prog 128 #[hv a b c, v] w fun e w' => e = .returned (.bool (bothB h cs)) ∧ Below w.heap.size w w' := by
  have hb0 := below1 w (.cells (c3 a b c) 32)
  have A0 := Lib.hid (hA.below hb0)
  have Z0 := Lib.hid (hz.below hb0)
  have HB := Lib.hid hb0
  have R0 := Lib.hid (show RowH _ _ a b c from Row.new w 32 (c3 a b c))
  obtain ⟨la, lc, rfl⟩ := hA.l.shape
  obtain ⟨va, vc, rfl⟩ := hz.shape
  clear hA hb0 hz
  have HC := Lib.hid (c_GoodHeap _ _ _ h _ A0.out)
  have HCA : Hid (∀ w', IntsAt w' (.slice va cs.length vc) cs → Calls Try.prog 177 #[.slice va cs.length vc] w' fun e w'' => e = .returned (.bool (colsB cs)) ∧ w' = w'') := fun w' hh => c_areColours _ cs w' hh
  have hE : bothB h cs = (good h && decide (cs.length = h.l.length) && colsB cs) := rfl
  generalize good h = x at *
  generalize colsB cs = y at *
  generalize bothB h cs = r at *
  generalize h.l.length = n at *
  generalize cs.length = m at *
  have c0 := R0.out.c0
  have c1 := R0.out.c1
  have c2 := R0.out.c2
  cases x
  · have HE : Hid (r = false) := by unfold Hid; rw [hE]; rfl
    clear hE
    go_enter Try.func128, Try.ntmps128
    go_wp2_with (go_at_call 106; refine HC.out.mono ?_; rintro e w1 ⟨rfl, hb1⟩; have B1 := Lib.hid (bst HB.out hb1 HB.out.size); clear hb1)
    go_ret
    exact ⟨r_b HE.out.symm, B1.out⟩
  · by_cases hmn : m = n
    · subst hmn
      have HE : Hid (r = y) := by unfold Hid; rw [hE, decide_eq_true rfl]; rfl
      clear hE
      have hq : ((m : Int) == (m : Int)) = true := by simp
      go_enter Try.func128, Try.ntmps128
      go_wp2_with (first
        | (go_at_call 106; refine HC.out.mono ?_; rintro e w1 ⟨rfl, hb1⟩; have B1 := Lib.hid (bst HB.out hb1 HB.out.size); have Z1 := Lib.hid (Z0.out.below hb1); have R1 := R0.out.below hb1; have d1 := R1.c1; clear hb1 R1)
        | (go_at_call 177; refine (HCA.out _ Z1.out).mono ?_; rintro e w2 ⟨rfl, rfl⟩))
      go_ret
      exact ⟨r_b HE.out.symm, B1.out⟩
    · have HE : Hid (r = false) := by unfold Hid; rw [hE, decide_eq_false hmn]; simp
      clear hE
      have hq : ((m : Int) == (n : Int)) = false := by simp; omega
      go_enter Try.func128, Try.ntmps128
      go_wp2_with (go_at_call 106; refine HC.out.mono ?_; rintro e w1 ⟨rfl, hb1⟩; have B1 := Lib.hid (bst HB.out hb1 HB.out.size); have R1 := R0.out.below hb1; have d1 := R1.c1; clear hb1 R1)
      go_ret
      exact ⟨r_b HE.out.symm, B1.out⟩
end Go.Proofs.Ytbmfkgfmibpkjaa
namespace Go.Proofs.Ytbmfkgfmibpkjaa
open Go.RowKit Ph

theorem info_marker : (Try.prog.info? 154).map (·.size) = some 5 := by kernel_rfl
theorem chgRow (w : World) (g : Nat) (cs : Array Value) : Chg g (g + 1) w (w.setRow g cs) :=
  have bb := below_setRow (Below.refl g w) (Nat.le_refl _) cs
  ⟨bb.os, bb.tape, bb.output, bb.size, fun i _ hx => setRow_other w g i cs (by omega)⟩
theorem Own.chg {w w' : World} {B lo hi : Nat} {v : Value} {zs : List Int} (h : Own w B v zs) (hc : Chg lo hi w w') (hn : ∀ g, v.ownBlock = some g → g < lo ∨ hi ≤ g) : Own w' B v zs := owns_block h fun g hg => hc.block g (owns_lt h hg).2 (hn g hg)
theorem scanR_no {h : H} {cs : List Int} {k : Int} (q : scanOk h cs k = false) : scanR h cs k = [] := by unfold scanR; rw [q]; rfl
theorem scanR_yes {h : H} {cs : List Int} {k : Int} (q : scanOk h cs k = true) : scanR h cs k = scan cs (h.f.getD k.toNat []) k.toNat := by unfold scanR; rw [q]; rfl
set_option maxRecDepth 100000 in
set_option maxHeartbeats 3200000 in
theorem c_ScanThing (a b c v : Value) (h : H) (cs : List Int) (k : Int) (w : World) (hA : HeapAt w a b c h) (hz : IntsAt w v cs) : Calls Try.prog 206 #[hv a b c, v, .int .i64 k] w (EndI (scanR h cs k) (scanOk h cs k) w) := by
  have hb0 := below1 w (.cells (c3 a b c) 32)
  have A0 := Lib.hid (hA.below hb0)
  have Z0 := Lib.hid (hz.below hb0)
  have HB := Lib.hid hb0
  have R0 := Lib.hid (show RowH _ _ a b c from Row.new w 32 (c3 a b c))
  have HF := Lib.hid hA.f
  clear hA hb0
  have HC := Lib.hid (c_areColoursOf a b c v h cs _ A0.out Z0.out)
  have HT : Hid (∀ w', IntsAt w' v cs → Calls Try.prog 215 #[v, .int .i64 k] w' fun e w'' => e = .returned (.bool (hasB cs k)) ∧ w' = w'') := fun w' hh => c_hasThing v cs k w' hh
  have HE1 := Lib.hid (scanR_no (h := h) (cs := cs) (k := k))
  have HE2 := Lib.hid (scanR_yes (h := h) (cs := cs) (k := k))
  have HO : Hid (scanOk h cs k = (bothB h cs && hasB cs k && decide (cs.getD k.toNat 0 = 1))) := rfl
  have HBB := Lib.hid (bothB_iff (h := h) (cs := cs)).1
  have HHB := Lib.hid (hasB_nat (cs := cs) (k := k))
  obtain ⟨va, vc, rfl⟩ := hz.shape
  clear hz
  generalize bothB h cs = x at *
  generalize hasB cs k = y at *
  generalize scanOk h cs k = ok at *
  have c0 := R0.out.c0
  have c1 := R0.out.c1
  have c2 := R0.out.c2
  cases x
  · have HE : Hid (ok = false) := by unfold Hid; rw [HO.out]; rfl
    have HR := Lib.hid (HE1.out HE.out)
    go_enter Try.func206, Try.ntmps206
    go_wp2_with (go_at_call 128; refine HC.out.mono ?_; rintro e w1 ⟨rfl, hb1⟩; have B1 := Lib.hid (bst HB.out hb1 HB.out.size); have Z1 := Lib.hid (Z0.out.below hb1); have R1 := Lib.hid (R0.out.below hb1); have d0 := R1.out.c0; have d1 := R1.out.c1; have d2 := R1.out.c2; clear hb1)
    go_ret2
    exact endI_no B1.out HR.out HE.out
  cases y
  · have HE : Hid (ok = false) := by unfold Hid; rw [HO.out]; rfl
    have HR := Lib.hid (HE1.out HE.out)
    go_enter Try.func206, Try.ntmps206
    go_wp2_with (first
      | (go_at_call 128; refine HC.out.mono ?_; rintro e w1 ⟨rfl, hb1⟩; have B1 := Lib.hid (bst HB.out hb1 HB.out.size); have Z1 := Lib.hid (Z0.out.below hb1); have R1 := Lib.hid (R0.out.below hb1); have d0 := R1.out.c0; have d1 := R1.out.c1; have d2 := R1.out.c2; clear hb1)
      | (go_at_call 215; refine (HT.out _ Z1.out).mono ?_; rintro e w2 ⟨rfl, rfl⟩))
    go_ret2
    exact endI_no B1.out HR.out HE.out
  obtain ⟨hG, hlen, hcol⟩ := HBB.out rfl
  obtain ⟨t, rfl, htn⟩ := HHB.out rfl
  rw [Int.toNat_natCast] at *
  have HZC : Hid (∀ w', IntsAt w' (.slice va cs.length vc) cs → ∃ vb vo, va = some ⟨vb, vo, none⟩ ∧ w'.cell? ⟨vb, vo + t, none⟩ = some (.int .i64 (cs.getD t 0))) := fun w' hh => by obtain ⟨vb, vo, e, q⟩ := hh.at' (by omega); exact ⟨vb, vo, e, q t htn⟩
  obtain ⟨vb, vo, rfl, _⟩ := HZC.out _ Z0.out
  replace HZC : Hid (∀ w', IntsAt w' (.slice (some ⟨vb, vo, none⟩) cs.length vc) cs → w'.cell? ⟨vb, vo + t, none⟩ = some (.int .i64 (cs.getD t 0))) := fun w' hh => by obtain ⟨vb', vo', e, q⟩ := HZC.out w' hh; cases e; exact q
  have HIN : Hid (∀ z ∈ h.f.getD t [], inR cs.length z) := fun z hz => by rw [hlen]; exact (hG.field hz).imp id (fun h => ⟨h.1, h.2.1⟩)
  have HRL : Hid ((h.f.getD t []).length ≤ 3) := (hG.row t (by omega)).1
  have HTF : Hid (t < h.f.length) := by unfold Hid; omega
  have HTN : Hid (t < cs.length) := htn
  have HCOL := Lib.hid hcol
  have hn12 : cs.length ≤ 12 := by rw [hlen]; exact hG.n
  clear hG hcol hlen HBB HHB
  generalize hn : cs.length = n at *
  have HN := Lib.hid hn; clear hn
  have i1 : (t : Int) < (n : Int) := by omega
  have i0 : (0 : Int) ≤ (t : Int) := by omega
  by_cases hx : cs.getD t 0 = 1
  · have HE : Hid (ok = true) := by unfold Hid; rw [HO.out, decide_eq_true hx]; rfl
    have HR := Lib.hid (HE2.out HE.out)
    have HX := Lib.hid hx
    rw [hx] at HZC
    clear hx
    obtain ⟨aa, ac, rfl⟩ := A0.out.f.shape
    obtain ⟨ba, bc, rfl⟩ := A0.out.l.shape
    obtain ⟨ca, cc, rfl⟩ := A0.out.r.shape
    generalize hna : h.f.length = na at *
    generalize h.l.length = nb at *
    generalize h.r.length = nc at *
    have HNA := Lib.hid hna; clear hna
    go_enter Try.func206, Try.ntmps206
    go_wp2_with (first
      | (go_at_call 128; refine HC.out.mono ?_; rintro e w1 ⟨rfl, hb1⟩; have B1 := Lib.hid (bst HB.out hb1 HB.out.size); have Z1 := Lib.hid (Z0.out.below hb1); have R1 := Lib.hid (R0.out.below hb1); have d0 := R1.out.c0; have d1 := R1.out.c1; have d2 := R1.out.c2; have qz := (HZC.out _ Z1.out); clear hb1)
      | (go_at_call 215; refine (HT.out _ Z1.out).mono ?_; rintro e w2 ⟨rfl, rfl⟩))
    have BD := Lib.hid (below_drew B1.out)
    have ZD : Hid (IntsAt w1.drew (.slice (some ⟨vb, vo, none⟩) n vc) cs) := Z1.out
    have RD : Hid (RowH w1.drew w.heap.size (.slice aa na ac) (.slice ba nb bc) (.slice ca nc cc)) := R1.out
    clear d0 d1 d2 qz c0 c1 c2
    have d0 := RD.out.c0
    have d1 := RD.out.c1
    have d2 := RD.out.c2
    refine wp_region_held_drew (S := (fun w' => w'.cell? ⟨w.heap.size, 0, none⟩ = some (.slice aa na ac) ∧ w'.cell? ⟨w.heap.size, 1, none⟩ = some (.slice ba nb bc) ∧ w'.cell? ⟨w.heap.size, 2, none⟩ = some (.slice ca nc cc))) (by kernel_rfl) (⟨d0, d1, d2⟩) (fun hHeld => ?_)
    refine wpAnyH_take (i := 0) (v := ?va0x1) rfl (by kernel_rfl) (by kernel_rfl) (by kernel_rfl) (fun _ _ _ h => h) (Or.inl ⟨by rfl, ?hy0x1⟩) (by assumption) ?rest0x1
    case hy0x1 => (intro w hSw; (try dsimp only at hSw); go_simp; try with_reducible rfl)
    (try simp only [Act.put, List.getElem_toArray, List.getElem_cons_zero, List.setIfInBounds_toArray, List.set_cons_zero, List.set_cons_succ])
    refine wpAnyH_take (i := 1) (v := ?va1x2) rfl (by kernel_rfl) (by kernel_rfl) (by kernel_rfl) (fun _ _ _ h => h) (Or.inl ⟨by rfl, ?hy1x2⟩) (by assumption) ?rest1x2
    case hy1x2 => (intro w hSw; (try dsimp only at hSw); go_simp; try with_reducible rfl)
    (try simp only [Act.put, List.getElem_toArray, List.getElem_cons_zero, List.getElem_cons_succ, List.setIfInBounds_toArray, List.set_cons_zero, List.set_cons_succ])
    generalize w1.drew = wd at *
    refine wpAnyH_ready (rs := [2, 4]) (by kernel_rfl) (by simp) ?_
    refine AllReadyH.cons rfl (fun K hK => ?_) (AllReadyH.cons rfl (fun K hK => ?_) AllReadyH.nil)
    · skip
      go_simp
      refine (c_copyInts _ cs _ ZD.out (by rw [HN.out]; omega)).mono ?_
      rintro e w3 ⟨v3, rfl, ho3, hb3⟩
      obtain ⟨pn, qn, rfl⟩ := ho3.ints.shape
      rw [HN.out] at ho3
      rw [HN.out]
      have R3 := Lib.hid (RD.out.below hb3)
      have B3 := Lib.hid (bst BD.out hb3 BD.out.size)
      have O3 := Lib.hid (ho3.mono BD.out.size)
      clear ho3 hb3
      refine hK.out _ _ ⟨R3.out.c0, R3.out.c1, R3.out.c2⟩ (fun hHeld => ?_)
      clear hK K
      (try simp only [Act.put, List.getElem_toArray, List.getElem_cons_zero, List.getElem_cons_succ, List.setIfInBounds_toArray, List.set_cons_zero, List.set_cons_succ])
      refine wpAnyH_take (i := 3) (v := ?va3x3) rfl (by kernel_rfl) (by kernel_rfl) (by kernel_rfl) (fun _ _ _ h => h) (Or.inl ⟨by rfl, ?hy3x3⟩) (by assumption) ?rest3x3
      case hy3x3 => (intro w hSw; (try dsimp only at hSw); go_simp; try with_reducible rfl)
      (try simp only [Act.put, List.getElem_toArray, List.getElem_cons_zero, List.getElem_cons_succ, List.setIfInBounds_toArray, List.set_cons_zero, List.set_cons_succ])
      refine wpAnyH_ready (rs := [4]) (by kernel_rfl) (by simp) ?_
      refine AllReadyH.cons rfl (fun K hK => ?_) AllReadyH.nil
      have R3z := Lib.hid (show RowH _ _ _ _ _ from Row.alloc R3.out (.cells (c5 (.slice none 0 0) (.slice none 0 0) (.slice none 0 0) (.slice none 0 0) .nilFunc) 154))
      go_simp
      refine hK.out _ _ ⟨R3z.out.c0, R3z.out.c1, R3z.out.c2⟩ (fun hHeld => ?_)
      clear hK K
      (try simp only [Act.put, List.getElem_toArray, List.getElem_cons_zero, List.getElem_cons_succ, List.setIfInBounds_toArray, List.set_cons_zero, List.set_cons_succ])
      refine wpAnyH_ready (rs := [5]) (by kernel_rfl) (by simp) ?_
      refine AllReadyH.cons rfl (fun K hK => ?_) AllReadyH.nil
      have R4 := Lib.hid (show RowH _ _ _ _ _ from Row.alloc R3.out (.cells (c5 (.slice aa na ac) (.slice ba nb bc) (.slice ca nc cc) (.slice pn n qn) .nilFunc) 154))
      have RM := Lib.hid (Row.new w3 154 (c5 (.slice aa na ac) (.slice ba nb bc) (.slice ca nc cc) (.slice pn n qn) .nilFunc))
      have B4 := Lib.hid (B3.out.alloc B3.out.size (.cells (c5 (.slice aa na ac) (.slice ba nb bc) (.slice ca nc cc) (.slice pn n qn) .nilFunc) 154))
      have O4 := Lib.hid (O3.out.below (below1 w3 (.cells (c5 (.slice aa na ac) (.slice ba nb bc) (.slice ca nc cc) (.slice pn n qn) .nilFunc) 154)))
      have HNE : Hid ((Value.slice pn n qn).ownBlock ≠ some w3.heap.size) := fun e => by have := (owns_lt O3.out e).2; omega
      go_simp
      refine hK.out _ _ ⟨R4.out.c0, R4.out.c1, R4.out.c2⟩ (fun hHeld => ?_)
      clear hK K
      (try simp only [Act.put, List.getElem_toArray, List.getElem_cons_zero, List.getElem_cons_succ, List.setIfInBounds_toArray, List.set_cons_zero, List.set_cons_succ])
      refine wpAnyH_done (by kernel_rfl) ?_ _
      clear hHeld
      generalize hgm : w3.heap.size = gm at *
      clear hgm
      generalize (w3.alloc (.cells (c5 (.slice aa na ac) (.slice ba nb bc) (.slice ca nc cc) (.slice pn n qn) .nilFunc) 154)) = w4 at *
      clear d0 d1 d2
      have m0 := RM.out.cell 0
      have m1 := RM.out.cell 1
      have m2 := RM.out.cell 2
      have m3 := RM.out.cell 3
      have m4 := RM.out.cell 4
      go_wp2_with fail
      refine (c_darkenB w (.slice aa na ac) (.slice ba nb bc) (.slice ca nc cc) .nilFunc (.slice pn n qn) h.f cs t _ HF.out B4.out O4.out HCOL.out (by rw [HN.out]; exact HTN.out) (by rw [HNA.out]; exact HTF.out) (by rw [HX.out]; omega) (by rw [HN.out]; exact HIN.out) HRL.out).mono ?_
      rintro e w6 ⟨rfl, ho6, hg6⟩
      have O6 := Lib.hid ho6
      have R6 := Row.grownBy RM.out hg6 HNE.out
      have B6 := Lib.hid (B4.out.grown hg6 B4.out.size (fun g e => (owns_lt O4.out e).1))
      clear m0 m1 m2 m3 m4
      have m3 := R6.cell 3
      clear ho6 hg6 R6
      go_wp2_with fail
      go_ret2
      exact endI_yes B6.out O6.out (Nat.le_refl _) HR.out HE.out
    · skip
      have hbz := below1 wd (.cells (c5 (.slice none 0 0) (.slice none 0 0) (.slice none 0 0) (.slice none 0 0) .nilFunc) 154)
      have RZ := Lib.hid (show RowH _ _ _ _ _ from Row.alloc RD.out (.cells (c5 (.slice none 0 0) (.slice none 0 0) (.slice none 0 0) (.slice none 0 0) .nilFunc) 154))
      have ZZ := Lib.hid (ZD.out.below hbz)
      have BZ := Lib.hid (bst BD.out hbz BD.out.size)
      have GZ := Lib.hid (Row.new wd 154 (c5 (.slice none 0 0) (.slice none 0 0) (.slice none 0 0) (.slice none 0 0) .nilFunc))
      have LZ : Hid (w.heap.size < wd.heap.size ∧ wd.heap.size < (wd.alloc (.cells (c5 (.slice none 0 0) (.slice none 0 0) (.slice none 0 0) (.slice none 0 0) .nilFunc) 154)).heap.size) := ⟨RD.out.lt, by simp⟩
      go_simp
      refine hK.out _ _ ⟨RZ.out.c0, RZ.out.c1, RZ.out.c2⟩ (fun hHeld => ?_)
      clear hK K hbz
      (try simp only [Act.put, List.getElem_toArray, List.getElem_cons_zero, List.getElem_cons_succ, List.setIfInBounds_toArray, List.set_cons_zero, List.set_cons_succ])
      generalize hgm : wd.heap.size = gm at *
      clear hgm
      generalize wd.alloc (.cells (c5 (.slice none 0 0) (.slice none 0 0) (.slice none 0 0) (.slice none 0 0) .nilFunc) 154) = wz at *
      refine wpAnyH_ready (rs := [2]) (by kernel_rfl) (by simp) ?_
      refine AllReadyH.cons rfl (fun K hK => ?_) AllReadyH.nil
      go_simp
      refine (c_copyInts _ cs _ ZZ.out (by rw [HN.out]; omega)).mono ?_
      rintro e w3 ⟨v3, rfl, ho3, hb3⟩
      obtain ⟨pn, qn, rfl⟩ := ho3.ints.shape
      rw [HN.out] at ho3
      rw [HN.out]
      have R3 := Lib.hid (RZ.out.below hb3)
      have B3 := Lib.hid (bst BZ.out hb3 BZ.out.size)
      have O3 := Lib.hid (ho3.mono BZ.out.size)
      have G3 := Lib.hid (Row.below GZ.out hb3)
      have HGE : Hid (∀ g', (Value.slice pn n qn).ownBlock = some g' → gm + 1 ≤ g') := fun g' e => by have := (owns_lt ho3 e).1; have := LZ.out; omega
      clear ho3 hb3
      refine hK.out _ _ ⟨R3.out.c0, R3.out.c1, R3.out.c2⟩ (fun hHeld => ?_)
      clear hK K
      (try simp only [Act.put, List.getElem_toArray, List.getElem_cons_zero, List.getElem_cons_succ, List.setIfInBounds_toArray, List.set_cons_zero, List.set_cons_succ])
      refine wpAnyH_take (i := 3) (v := ?va3x4) rfl (by kernel_rfl) (by kernel_rfl) (by kernel_rfl) (fun _ _ _ h => h) (Or.inl ⟨by rfl, ?hy3x4⟩) (by assumption) ?rest3x4
      case hy3x4 => (intro w hSw; (try dsimp only at hSw); go_simp; try with_reducible rfl)
      (try simp only [Act.put, List.getElem_toArray, List.getElem_cons_zero, List.getElem_cons_succ, List.setIfInBounds_toArray, List.set_cons_zero, List.set_cons_succ])
      have hch := chgRow w3 gm (c5 (.slice aa na ac) (.slice ba nb bc) (.slice ca nc cc) (.slice pn n qn) .nilFunc)
      have RM := Lib.hid (Row.put G3.out (c5 (.slice aa na ac) (.slice ba nb bc) (.slice ca nc cc) (.slice pn n qn) .nilFunc))
      have R4 := Lib.hid (show RowH _ _ _ _ _ from Row.chg R3.out hch (by have := LZ.out; omega))
      have B4 := Lib.hid (below_chg B3.out hch (by have := LZ.out; omega) B3.out.size)
      have O4 := Lib.hid (Own.chg O3.out hch (fun g' e => .inr (HGE.out g' e)))
      have HNE : Hid ((Value.slice pn n qn).ownBlock ≠ some gm) := fun e => by have := HGE.out _ e; omega
      clear hch
      refine wpAnyH_ready (rs := [5]) (by kernel_rfl) (by simp) ?_
      refine AllReadyH.cons rfl (fun K hK => ?_) AllReadyH.nil
      refine wp_store_row 154 _ _ rfl gm (c5 (.slice aa na ac) (.slice ba nb bc) (.slice ca nc cc) (.slice pn n qn) .nilFunc) rfl rfl 154 _ G3.out info_marker rfl (by simp [Value.oneCell']) ?_
      refine hK.out _ _ ⟨R4.out.c0, R4.out.c1, R4.out.c2⟩ (fun hHeld => ?_)
      clear hK K
      (try simp only [Act.put, List.getElem_toArray, List.getElem_cons_zero, List.getElem_cons_succ])
      refine wpAnyH_done (by kernel_rfl) ?_ _
      clear hHeld
      generalize w3.setRow gm (c5 (.slice aa na ac) (.slice ba nb bc) (.slice ca nc cc) (.slice pn n qn) .nilFunc) = w4 at *
      clear d0 d1 d2
      have m0 := RM.out.cell 0
      have m1 := RM.out.cell 1
      have m2 := RM.out.cell 2
      have m3 := RM.out.cell 3
      have m4 := RM.out.cell 4
      go_wp2_with fail
      refine (c_darkenB w (.slice aa na ac) (.slice ba nb bc) (.slice ca nc cc) .nilFunc (.slice pn n qn) h.f cs t _ HF.out B4.out O4.out HCOL.out (by rw [HN.out]; exact HTN.out) (by rw [HNA.out]; exact HTF.out) (by rw [HX.out]; omega) (by rw [HN.out]; exact HIN.out) HRL.out).mono ?_
      rintro e w6 ⟨rfl, ho6, hg6⟩
      have O6 := Lib.hid ho6
      have R6 := Row.grownBy RM.out hg6 HNE.out
      have B6 := Lib.hid (B4.out.grown hg6 B4.out.size (fun g e => (owns_lt O4.out e).1))
      clear m0 m1 m2 m3 m4
      have m3 := R6.cell 3
      clear ho6 hg6 R6
      go_wp2_with fail
      go_ret2
      exact endI_yes B6.out O6.out (Nat.le_refl _) HR.out HE.out
  · have HE : Hid (ok = false) := by unfold Hid; rw [HO.out, decide_eq_false hx]; simp
    generalize cs.getD t 0 = z at *
    have hx1 : (z == 1) = false := by simpa using hx
    clear hx
    have HR := Lib.hid (HE1.out HE.out)
    go_enter Try.func206, Try.ntmps206
    go_wp2_with (first
      | (go_at_call 128; refine HC.out.mono ?_; rintro e w1 ⟨rfl, hb1⟩; have B1 := Lib.hid (bst HB.out hb1 HB.out.size); have Z1 := Lib.hid (Z0.out.below hb1); have R1 := Lib.hid (R0.out.below hb1); have d0 := R1.out.c0; have d1 := R1.out.c1; have d2 := R1.out.c2; have qz := (HZC.out _ Z1.out); clear hb1)
      | (go_at_call 215; refine (HT.out _ Z1.out).mono ?_; rintro e w2 ⟨rfl, rfl⟩))
    go_ret2
    exact endI_no B1.out HR.out HE.out
end Go.Proofs.Ytbmfkgfmibpkjaa
namespace Go.Proofs.Ytbmfkgfmibpkjaa.Ph
def newS (h : H) (m : Nat) : H × Int := if placeOf h.l < h.l.length then (put1 h (placeOf h.l) m, (placeOf h.l : Int)) else if h.f.length = 12 then (h, -1) else (⟨h.f ++ [List.replicate m (-1)], h.l ++ [true], h.r⟩, (h.f.length : Int))
/-- The first j of m numbers are -1, the others 0. -/
def fillN (m j : Nat) : List Int := List.replicate j (-1) ++ List.replicate (m - j) 0
theorem fillN_zero (m : Nat) : fillN m 0 = List.replicate m 0 := by simp [fillN]
theorem fillN_all (m : Nat) : fillN m m = List.replicate m (-1) := by simp [fillN]
theorem fillN_len {m j : Nat} (h : j ≤ m) : (fillN m j).length = m := by simp [fillN]; omega
theorem fillN_set {m j : Nat} (h : j < m) : (fillN m j).set j (-1) = fillN m (j + 1) := by
  unfold fillN
  have e : List.replicate (m - j) (0 : Int) = 0 :: List.replicate (m - (j + 1)) 0 := by
    rw [show m - j = (m - (j + 1)) + 1 by omega, List.replicate_succ]
  rw [List.set_append_right j _ (by simp), List.length_replicate, Nat.sub_self, e, List.set_cons_zero]
  rw [List.replicate_succ' (n := j), List.append_assoc]; rfl
end Go.Proofs.Ytbmfkgfmibpkjaa.Ph
namespace Go.Proofs.Ytbmfkgfmibpkjaa
open Go.RowKit Ph

theorem rfl' {v : Value} {h h' : H} {m : Nat} {z : Int} (k : newS h m = (h', z)) : Ending.returned (.tuple #[v, .int .i64 z]) = .returned (.tuple #[v, .int .i64 (newS h m).2]) := by rw [k]
end Go.Proofs.Ytbmfkgfmibpkjaa
