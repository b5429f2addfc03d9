/- The library's Repeat, at one number and few times. -/
import Derived.Test.YtdagkbgobnaijabHn1
import Derived.Test.YtdagkbgobnaijabHl2
import Derived.Laws.IdiomCopy
namespace Go.Proofs.Ytdagkbgobnaijab
open Go.RowKit Ph

set_option maxRecDepth 100000 in
set_option maxHeartbeats 1600000 in
theorem c_mul (m : Int) (hm : m = 0 ∨ m = 1 ∨ m = 2 ∨ m = 3) (w : World) : Calls Try.prog 168 #[.int .u64 1, .int .u64 m] w fun e w' => e = .returned (.tuple #[.int .u64 0, .int .u64 m]) ∧ w = w' := by
  rcases hm with rfl | rfl | rfl | rfl <;>
  · go_enter Try.func168, Try.ntmps168
    go_wp2
    go_ret2
    exact ⟨rfl, rfl⟩
theorem op_copy {P : Program} {o : Oper} {q : Act} {w w' : World} {K : Act → World → Prop} {Q : Exit → Act → World → Prop} {vs vx v' : Value} (s x : Operand) (t : TypeId) (hop : o.op = Op.call { callee := Callee.builtin Builtin.copy, args := #[s, x], argTypes := #[t, t] }) (hs : q.eval s = vs) (hx : q.eval x = vx)
    (hrun : (Builtin.copy_ #[t, t] o.type #[vs, vx]).run P w = .ok v' w') (h : K (q.put o.dst v') w') : Oper.wp P o q w K Q := by
  unfold Oper.wp
  simp [execOp, hop, resolve, invoke, builtin, hs, hx, hrun, Result.andThen]
  exact h
theorem size_int : (Try.prog.info? 3).map (·.size) = some 1 := by kernel_rfl
theorem one_src {w : World} {g : Nat} {x : Value} (h : w.cell? ⟨g, 0, none⟩ = some x) : ∀ j v, [x][j]? = some v → w.cell? ((⟨g, 0, none⟩ : Addr).add j) = some v := fun j v hv => by
  have hj : j = 0 := by
    obtain ⟨h1, _⟩ := List.getElem?_eq_some_iff.1 hv
    simp at h1; exact h1
  subst hj
  simp at hv
  subst hv
  rw [Addr.add_lit]; exact h
set_option maxRecDepth 100000 in
set_option maxHeartbeats 1600000 in
theorem c_rep0 (g : Nat) (w : World) (hR : Row w g 3 #[.int .i64 (-1)]) : Calls Try.prog 166 #[.slice (some ⟨g, 0, none⟩) 1 1, .int .i64 0] w fun e w' => ∃ v', e = .returned v' ∧ Own w' w.heap.size v' (List.replicate 0 (-1)) ∧ Below w.heap.size w w' := by
  obtain ⟨i0, hi, hz0, hz1, hz2⟩ := info_parts info_int
  have HC := Lib.hid (c_mul 0 (by simp) w)
  have HR := Lib.hid hR
  have HLT := Lib.hid hR.lt
  clear hR
  go_enter Try.func166, Try.ntmps166
  go_wp2_with (first
    | (go_at_call 168; refine HC.out.mono ?_; rintro e w9 ⟨rfl, rfl⟩)
    | (at_make; refine wpList_make_full _ rfl _ _ 25 rfl w.heap.size 3 i0 (.int .i64 0) 1 Try.underlying25 hi hz0 hz1 .i64 .i64 _ _ 0 rfl rfl rfl rfl (by rw [hz2]; omega) (by unfold maxLen; omega) (Nat.le_refl _) ?_; intro w1 hown hgr; rw [Nat.mul_one, show (Value.int .i64 0).cells = #[.int .i64 0] from rfl, toList_madeCells_one] at hown
       have r0 := (Row.grown HR.out hgr).cell 0
       have hcp := run_copy_none (P := Try.prog) w1 25 25 3 3 (some ⟨w.heap.size, 0, none⟩) (some ⟨g, 0, none⟩) 0 0 1 1 Try.underlying25 size_int rfl
       have HO := Lib.hid hown; have HG := Lib.hid hgr; clear hown hgr r0))
  clear hcp
  have O1 : Hid (Own w1 w.heap.size (.slice (some ⟨w.heap.size, 0, none⟩) 0 0) ([])) := HO.out
  have L1 : Hid (Below w.heap.size w w1) := (Below.refl w.heap.size w).grown HG.out (Nat.le_refl _) (fun k hk => by cases hk)
  refine wp_loop_rounds 1 ?_
  rw [rounds_succ]
  go_wp2_with fail
  go_ret
  exact ⟨_, rfl, O1.out, L1.out⟩
set_option maxRecDepth 100000 in
set_option maxHeartbeats 1600000 in
theorem c_rep1 (g : Nat) (w : World) (hR : Row w g 3 #[.int .i64 (-1)]) : Calls Try.prog 166 #[.slice (some ⟨g, 0, none⟩) 1 1, .int .i64 1] w fun e w' => ∃ v', e = .returned v' ∧ Own w' w.heap.size v' (List.replicate 1 (-1)) ∧ Below w.heap.size w w' := by
  obtain ⟨i0, hi, hz0, hz1, hz2⟩ := info_parts info_int
  have HC := Lib.hid (c_mul 1 (by simp) w)
  have HR := Lib.hid hR
  have HLT := Lib.hid hR.lt
  clear hR
  go_enter Try.func166, Try.ntmps166
  go_wp2_with (first
    | (go_at_call 168; refine HC.out.mono ?_; rintro e w9 ⟨rfl, rfl⟩)
    | (at_make; refine wpList_make_full _ rfl _ _ 25 rfl w.heap.size 3 i0 (.int .i64 0) 1 Try.underlying25 hi hz0 hz1 .i64 .i64 _ _ 1 rfl rfl rfl rfl (by rw [hz2]; omega) (by unfold maxLen; omega) (Nat.le_refl _) ?_; intro w1 hown hgr; rw [Nat.mul_one, show (Value.int .i64 0).cells = #[.int .i64 0] from rfl, toList_madeCells_one] at hown
       have q0 := hown.cellAt 0 (by omega)
       have f0 := hown.frozenAt 0
       have r0 := (Row.grown HR.out hgr).cell 0
       have hcp : (Builtin.copy_ #[25, 25] 3 #[.slice (some ⟨w.heap.size, 0, none⟩) 1 1, .slice (some ⟨g, 0, none⟩) 1 1]).run Try.prog w1 = .ok (.int .i64 1) (w1.setCell ⟨w.heap.size, 0, none⟩ (.int .i64 (-1))) := run_copy_cells (P := Try.prog) w1 25 25 3 3 w.heap.size 0 1 1 ⟨g, 0, none⟩ 1 1 [.int .i64 (-1)] Try.underlying25 size_int rfl (one_src r0) (fun j hj => by simp at hj; subst hj; rw [q0]; rfl) (fun j hj => by simp at hj; subst hj; exact f0) (fun v hv => by simp at hv; subst hv; rfl)
       have HO := Lib.hid hown; have HG := Lib.hid hgr; clear hown hgr q0 f0 r0))
  clear hcp
  have O1 : Hid (Own (w1.setCell ⟨w.heap.size, 0, none⟩ (.int .i64 (-1))) w.heap.size (.slice (some ⟨w.heap.size, 0, none⟩) 1 1) ([-1])) := (HO.out.stored 0 (.int .i64 (-1))).1
  have L1 : Hid (Below w.heap.size w (w1.setCell ⟨w.heap.size, 0, none⟩ (.int .i64 (-1)))) := ((Below.refl w.heap.size w).grown HG.out (Nat.le_refl _) (fun k hk => by cases hk)).setCell (p := ⟨w.heap.size, 0, none⟩) (Nat.le_refl _) (.int .i64 (-1))
  generalize (w1.setCell ⟨w.heap.size, 0, none⟩ (.int .i64 (-1))) = x1 at *
  refine wp_loop_rounds 1 ?_
  rw [rounds_succ]
  go_wp2_with fail
  go_ret
  exact ⟨_, rfl, O1.out, L1.out⟩
set_option maxRecDepth 100000 in
set_option maxHeartbeats 1600000 in
theorem c_rep2 (g : Nat) (w : World) (hR : Row w g 3 #[.int .i64 (-1)]) : Calls Try.prog 166 #[.slice (some ⟨g, 0, none⟩) 1 1, .int .i64 2] w fun e w' => ∃ v', e = .returned v' ∧ Own w' w.heap.size v' (List.replicate 2 (-1)) ∧ Below w.heap.size w w' := by
  obtain ⟨i0, hi, hz0, hz1, hz2⟩ := info_parts info_int
  have HC := Lib.hid (c_mul 2 (by simp) w)
  have HR := Lib.hid hR
  have HLT := Lib.hid hR.lt
  clear hR
  go_enter Try.func166, Try.ntmps166
  go_wp2_with (first
    | (go_at_call 168; refine HC.out.mono ?_; rintro e w9 ⟨rfl, rfl⟩)
    | (at_make; refine wpList_make_full _ rfl _ _ 25 rfl w.heap.size 3 i0 (.int .i64 0) 1 Try.underlying25 hi hz0 hz1 .i64 .i64 _ _ 2 rfl rfl rfl rfl (by rw [hz2]; omega) (by unfold maxLen; omega) (Nat.le_refl _) ?_; intro w1 hown hgr; rw [Nat.mul_one, show (Value.int .i64 0).cells = #[.int .i64 0] from rfl, toList_madeCells_one] at hown
       have q0 := hown.cellAt 0 (by omega)
       have f0 := hown.frozenAt 0
       have r0 := (Row.grown HR.out hgr).cell 0
       have hcp : (Builtin.copy_ #[25, 25] 3 #[.slice (some ⟨w.heap.size, 0, none⟩) 2 2, .slice (some ⟨g, 0, none⟩) 1 1]).run Try.prog w1 = .ok (.int .i64 1) (w1.setCell ⟨w.heap.size, 0, none⟩ (.int .i64 (-1))) := run_copy_cells (P := Try.prog) w1 25 25 3 3 w.heap.size 0 2 2 ⟨g, 0, none⟩ 1 1 [.int .i64 (-1)] Try.underlying25 size_int rfl (one_src r0) (fun j hj => by simp at hj; subst hj; rw [q0]; rfl) (fun j hj => by simp at hj; subst hj; exact f0) (fun v hv => by simp at hv; subst hv; rfl)
       have HO := Lib.hid hown; have HG := Lib.hid hgr; clear hown hgr q0 f0 r0))
  clear hcp
  have O1 : Hid (Own (w1.setCell ⟨w.heap.size, 0, none⟩ (.int .i64 (-1))) w.heap.size (.slice (some ⟨w.heap.size, 0, none⟩) 2 2) ([-1, 0])) := (HO.out.stored 0 (.int .i64 (-1))).1
  have L1 : Hid (Below w.heap.size w (w1.setCell ⟨w.heap.size, 0, none⟩ (.int .i64 (-1)))) := ((Below.refl w.heap.size w).grown HG.out (Nat.le_refl _) (fun k hk => by cases hk)).setCell (p := ⟨w.heap.size, 0, none⟩) (Nat.le_refl _) (.int .i64 (-1))
  generalize (w1.setCell ⟨w.heap.size, 0, none⟩ (.int .i64 (-1))) = x1 at *
  refine wp_loop_rounds 2 ?_
  rw [rounds_succ]
  go_wp2_with fail
  have O1d : Hid (Own x1.drew w.heap.size (.slice (some ⟨w.heap.size, 0, none⟩) 2 2) [-1, 0]) := O1.out
  have L1d : Hid (Below w.heap.size w x1.drew) := below_drew L1.out
  have q0 := World.ownsRow.cellAt O1d.out 0 (by simp)
  have q1 := World.ownsRow.cellAt O1d.out 1 (by simp)
  have f1 := World.ownsRow.frozenAt O1d.out 1
  have hcp : (Builtin.copy_ #[25, 25] 3 #[.slice (some ⟨w.heap.size, 1, none⟩) 1 1, .slice (some ⟨w.heap.size, 0, none⟩) 1 2]).run Try.prog x1.drew = .ok (.int .i64 1) (x1.drew.setCell ⟨w.heap.size, 1, none⟩ (.int .i64 (-1))) := run_copy_cells (P := Try.prog) x1.drew 25 25 3 3 w.heap.size 1 1 1 ⟨w.heap.size, 0, none⟩ 1 2 [.int .i64 (-1)] Try.underlying25 size_int rfl (one_src q0) (fun j hj => by simp at hj; subst hj; rw [Nat.add_zero, q1]; rfl) (fun j hj => by simp at hj; subst hj; exact f1) (fun v hv => by simp at hv; subst hv; rfl)
  clear q0 q1 f1
  refine wp_region_held_drew (S := (fun _ => True)) (by kernel_rfl) (trivial) (fun hHeld => ?_)
  refine wpAnyH_take (i := 0) (v := ?va0x1) rfl (by kernel_rfl) (by kernel_rfl) (by kernel_rfl) (fun _ _ _ h => h) (Or.inl ⟨by rfl, ?hy0x1⟩) (by assumption) ?rest0x1
  case hy0x1 => (intro w hSw; (try dsimp only at hSw); go_simp; try with_reducible rfl)
  (try simp only [Act.put, List.getElem_toArray, List.getElem_cons_zero, List.setIfInBounds_toArray, List.set_cons_zero, List.set_cons_succ])
  refine wpAnyH_take (i := 1) (v := ?va1x2) rfl (by kernel_rfl) (by kernel_rfl) (by kernel_rfl) (fun _ _ _ h => h) (Or.inl ⟨by rfl, ?hy1x2⟩) (by assumption) ?rest1x2
  case hy1x2 => (intro w hSw; (try dsimp only at hSw); go_simp; try with_reducible rfl)
  (try simp only [Act.put, List.getElem_toArray, List.getElem_cons_zero, List.getElem_cons_succ, List.setIfInBounds_toArray, List.set_cons_zero, List.set_cons_succ])
  refine wpAnyH_take (i := 2) (v := ?va2x3) rfl (by kernel_rfl) (by kernel_rfl) (by kernel_rfl) (fun _ _ _ h => h) (Or.inl ⟨by rfl, ?hy2x3⟩) (by assumption) ?rest2x3
  case hy2x3 => (intro w hSw; (try dsimp only at hSw); go_simp; try with_reducible rfl)
  (try simp only [Act.put, List.getElem_toArray, List.getElem_cons_zero, List.getElem_cons_succ, List.setIfInBounds_toArray, List.set_cons_zero, List.set_cons_succ])
  refine wpAnyH_take (i := 3) (v := ?va3x4) rfl (by kernel_rfl) (by kernel_rfl) (by kernel_rfl) (fun _ _ _ h => h) (Or.inl ⟨by rfl, ?hy3x4⟩) (by assumption) ?rest3x4
  case hy3x4 => (intro w hSw; (try dsimp only at hSw); go_simp; try with_reducible rfl)
  (try simp only [Act.put, List.getElem_toArray, List.getElem_cons_zero, List.getElem_cons_succ, List.setIfInBounds_toArray, List.set_cons_zero, List.set_cons_succ])
  refine wpAnyH_take (i := 4) (v := ?va4x5) rfl (by kernel_rfl) (by kernel_rfl) (by kernel_rfl) (fun _ _ _ h => h) (Or.inl ⟨by rfl, ?hy4x5⟩) (by assumption) ?rest4x5
  case hy4x5 => (intro w hSw; (try dsimp only at hSw); go_simp; try with_reducible rfl)
  (try simp only [Act.put, List.getElem_toArray, List.getElem_cons_zero, List.getElem_cons_succ, List.setIfInBounds_toArray, List.set_cons_zero, List.set_cons_succ])
  refine wpAnyH_take (i := 5) (v := ?va5x6) rfl (by kernel_rfl) (by kernel_rfl) (by kernel_rfl) (fun _ _ _ h => h) (Or.inl ⟨by rfl, ?hy5x6⟩) (by assumption) ?rest5x6
  case hy5x6 => (intro w hSw; (try dsimp only at hSw); go_simp; try with_reducible rfl)
  (try simp only [Act.put, List.getElem_toArray, List.getElem_cons_zero, List.getElem_cons_succ, List.setIfInBounds_toArray, List.set_cons_zero, List.set_cons_succ])
  refine wpAnyH_take (i := 6) (v := ?va6x7) rfl (by kernel_rfl) (by kernel_rfl) (by kernel_rfl) (fun _ _ _ h => h) (Or.inl ⟨by rfl, ?hy6x7⟩) (by assumption) ?rest6x7
  case hy6x7 => (intro w hSw; (try dsimp only at hSw); go_simp; try with_reducible rfl)
  (try simp only [Act.put, List.getElem_toArray, List.getElem_cons_zero, List.getElem_cons_succ, List.setIfInBounds_toArray, List.set_cons_zero, List.set_cons_succ])
  refine wpAnyH_ready (rs := [7]) (by kernel_rfl) (by simp) ?_
  refine AllReadyH.cons rfl (fun K hK => ?_) AllReadyH.nil
  rw [if_pos (by rfl)]
  refine op_copy _ _ _ rfl rfl rfl hcp ?_
  refine hK.out _ _ trivial (fun hHeld => ?_)
  clear hK K hcp
  (try simp only [Act.put, List.getElem_toArray, List.getElem_cons_zero, List.getElem_cons_succ, List.setIfInBounds_toArray, List.set_cons_zero, List.set_cons_succ])
  refine wpAnyH_take (i := 8) (v := ?va8x8) rfl (by kernel_rfl) (by kernel_rfl) (by kernel_rfl) (fun _ _ _ h => h) (Or.inl ⟨by rfl, ?hy8x8⟩) (by assumption) ?rest8x8
  case hy8x8 => (intro w hSw; (try dsimp only at hSw); go_simp; try with_reducible rfl)
  (try simp only [Act.put, List.getElem_toArray, List.getElem_cons_zero, List.getElem_cons_succ, List.setIfInBounds_toArray, List.set_cons_zero, List.set_cons_succ])
  refine wpAnyH_take (i := 9) (v := ?va9x9) rfl (by kernel_rfl) (by kernel_rfl) (by kernel_rfl) (fun _ _ _ h => h) (Or.inl ⟨by rfl, ?hy9x9⟩) (by assumption) ?rest9x9
  case hy9x9 => (intro w hSw; (try dsimp only at hSw); go_simp; try with_reducible rfl)
  (try simp only [Act.put, List.getElem_toArray, List.getElem_cons_zero, List.getElem_cons_succ, List.setIfInBounds_toArray, List.set_cons_zero, List.set_cons_succ])
  refine wpAnyH_done (by kernel_rfl) ?_ _
  have O2 : Hid (Own (x1.drew.setCell ⟨w.heap.size, 1, none⟩ (.int .i64 (-1))) w.heap.size (.slice (some ⟨w.heap.size, 0, none⟩) 2 2) [-1, -1]) := (World.ownsRow.stored O1d.out 1 (.int .i64 (-1))).1
  have L2 : Hid (Below w.heap.size w (x1.drew.setCell ⟨w.heap.size, 1, none⟩ (.int .i64 (-1)))) := L1d.out.setCell (p := ⟨w.heap.size, 1, none⟩) (Nat.le_refl _) (.int .i64 (-1))
  generalize x1.drew.setCell ⟨w.heap.size, 1, none⟩ (.int .i64 (-1)) = x2 at *
  go_wp2_with fail
  rw [rounds_succ]
  go_wp2_with fail
  go_ret
  exact ⟨_, rfl, O2.out, L2.out⟩
set_option maxRecDepth 100000 in
set_option maxHeartbeats 1600000 in
theorem c_rep3 (g : Nat) (w : World) (hR : Row w g 3 #[.int .i64 (-1)]) : Calls Try.prog 166 #[.slice (some ⟨g, 0, none⟩) 1 1, .int .i64 3] w fun e w' => ∃ v', e = .returned v' ∧ Own w' w.heap.size v' (List.replicate 3 (-1)) ∧ Below w.heap.size w w' := by
  obtain ⟨i0, hi, hz0, hz1, hz2⟩ := info_parts info_int
  have HC := Lib.hid (c_mul 3 (by simp) w)
  have HR := Lib.hid hR
  have HLT := Lib.hid hR.lt
  clear hR
  go_enter Try.func166, Try.ntmps166
  go_wp2_with (first
    | (go_at_call 168; refine HC.out.mono ?_; rintro e w9 ⟨rfl, rfl⟩)
    | (at_make; refine wpList_make_full _ rfl _ _ 25 rfl w.heap.size 3 i0 (.int .i64 0) 1 Try.underlying25 hi hz0 hz1 .i64 .i64 _ _ 3 rfl rfl rfl rfl (by rw [hz2]; omega) (by unfold maxLen; omega) (Nat.le_refl _) ?_; intro w1 hown hgr; rw [Nat.mul_one, show (Value.int .i64 0).cells = #[.int .i64 0] from rfl, toList_madeCells_one] at hown
       have q0 := hown.cellAt 0 (by omega)
       have f0 := hown.frozenAt 0
       have r0 := (Row.grown HR.out hgr).cell 0
       have hcp : (Builtin.copy_ #[25, 25] 3 #[.slice (some ⟨w.heap.size, 0, none⟩) 3 3, .slice (some ⟨g, 0, none⟩) 1 1]).run Try.prog w1 = .ok (.int .i64 1) (w1.setCell ⟨w.heap.size, 0, none⟩ (.int .i64 (-1))) := run_copy_cells (P := Try.prog) w1 25 25 3 3 w.heap.size 0 3 3 ⟨g, 0, none⟩ 1 1 [.int .i64 (-1)] Try.underlying25 size_int rfl (one_src r0) (fun j hj => by simp at hj; subst hj; rw [q0]; rfl) (fun j hj => by simp at hj; subst hj; exact f0) (fun v hv => by simp at hv; subst hv; rfl)
       have HO := Lib.hid hown; have HG := Lib.hid hgr; clear hown hgr q0 f0 r0))
  clear hcp
  have O1 : Hid (Own (w1.setCell ⟨w.heap.size, 0, none⟩ (.int .i64 (-1))) w.heap.size (.slice (some ⟨w.heap.size, 0, none⟩) 3 3) ([-1, 0, 0])) := (HO.out.stored 0 (.int .i64 (-1))).1
  have L1 : Hid (Below w.heap.size w (w1.setCell ⟨w.heap.size, 0, none⟩ (.int .i64 (-1)))) := ((Below.refl w.heap.size w).grown HG.out (Nat.le_refl _) (fun k hk => by cases hk)).setCell (p := ⟨w.heap.size, 0, none⟩) (Nat.le_refl _) (.int .i64 (-1))
  generalize (w1.setCell ⟨w.heap.size, 0, none⟩ (.int .i64 (-1))) = x1 at *
  refine wp_loop_rounds 3 ?_
  rw [rounds_succ]
  have hwr2 : IntKind.i64.wrap 2 = 2 := by decide
  go_wp2_with fail
  have O1d : Hid (Own x1.drew w.heap.size (.slice (some ⟨w.heap.size, 0, none⟩) 3 3) [-1, 0, 0]) := O1.out
  have L1d : Hid (Below w.heap.size w x1.drew) := below_drew L1.out
  have q0 := World.ownsRow.cellAt O1d.out 0 (by simp)
  have q1 := World.ownsRow.cellAt O1d.out 1 (by simp)
  have f1 := World.ownsRow.frozenAt O1d.out 1
  have hcp : (Builtin.copy_ #[25, 25] 3 #[.slice (some ⟨w.heap.size, 1, none⟩) 2 2, .slice (some ⟨w.heap.size, 0, none⟩) 1 3]).run Try.prog x1.drew = .ok (.int .i64 1) (x1.drew.setCell ⟨w.heap.size, 1, none⟩ (.int .i64 (-1))) := run_copy_cells (P := Try.prog) x1.drew 25 25 3 3 w.heap.size 1 2 2 ⟨w.heap.size, 0, none⟩ 1 3 [.int .i64 (-1)] Try.underlying25 size_int rfl (one_src q0) (fun j hj => by simp at hj; subst hj; rw [Nat.add_zero, q1]; rfl) (fun j hj => by simp at hj; subst hj; exact f1) (fun v hv => by simp at hv; subst hv; rfl)
  clear q0 q1 f1
  refine wp_region_held_drew (S := (fun _ => True)) (by kernel_rfl) (trivial) (fun hHeld => ?_)
  refine wpAnyH_take (i := 0) (v := ?va0x10) rfl (by kernel_rfl) (by kernel_rfl) (by kernel_rfl) (fun _ _ _ h => h) (Or.inl ⟨by rfl, ?hy0x10⟩) (by assumption) ?rest0x10
  case hy0x10 => (intro w hSw; (try dsimp only at hSw); go_simp; try with_reducible rfl)
  (try simp only [Act.put, List.getElem_toArray, List.getElem_cons_zero, List.setIfInBounds_toArray, List.set_cons_zero, List.set_cons_succ])
  refine wpAnyH_take (i := 1) (v := ?va1x11) rfl (by kernel_rfl) (by kernel_rfl) (by kernel_rfl) (fun _ _ _ h => h) (Or.inl ⟨by rfl, ?hy1x11⟩) (by assumption) ?rest1x11
  case hy1x11 => (intro w hSw; (try dsimp only at hSw); go_simp; try with_reducible rfl)
  (try simp only [Act.put, List.getElem_toArray, List.getElem_cons_zero, List.getElem_cons_succ, List.setIfInBounds_toArray, List.set_cons_zero, List.set_cons_succ])
  refine wpAnyH_take (i := 2) (v := ?va2x12) rfl (by kernel_rfl) (by kernel_rfl) (by kernel_rfl) (fun _ _ _ h => h) (Or.inl ⟨by rfl, ?hy2x12⟩) (by assumption) ?rest2x12
  case hy2x12 => (intro w hSw; (try dsimp only at hSw); go_simp; try with_reducible rfl)
  (try simp only [Act.put, List.getElem_toArray, List.getElem_cons_zero, List.getElem_cons_succ, List.setIfInBounds_toArray, List.set_cons_zero, List.set_cons_succ])
  refine wpAnyH_take (i := 3) (v := ?va3x13) rfl (by kernel_rfl) (by kernel_rfl) (by kernel_rfl) (fun _ _ _ h => h) (Or.inl ⟨by rfl, ?hy3x13⟩) (by assumption) ?rest3x13
  case hy3x13 => (intro w hSw; (try dsimp only at hSw); go_simp; try with_reducible rfl)
  (try simp only [Act.put, List.getElem_toArray, List.getElem_cons_zero, List.getElem_cons_succ, List.setIfInBounds_toArray, List.set_cons_zero, List.set_cons_succ])
  refine wpAnyH_take (i := 4) (v := ?va4x14) rfl (by kernel_rfl) (by kernel_rfl) (by kernel_rfl) (fun _ _ _ h => h) (Or.inl ⟨by rfl, ?hy4x14⟩) (by assumption) ?rest4x14
  case hy4x14 => (intro w hSw; (try dsimp only at hSw); go_simp; try with_reducible rfl)
  (try simp only [Act.put, List.getElem_toArray, List.getElem_cons_zero, List.getElem_cons_succ, List.setIfInBounds_toArray, List.set_cons_zero, List.set_cons_succ])
  refine wpAnyH_take (i := 5) (v := ?va5x15) rfl (by kernel_rfl) (by kernel_rfl) (by kernel_rfl) (fun _ _ _ h => h) (Or.inl ⟨by rfl, ?hy5x15⟩) (by assumption) ?rest5x15
  case hy5x15 => (intro w hSw; (try dsimp only at hSw); go_simp; try with_reducible rfl)
  (try simp only [Act.put, List.getElem_toArray, List.getElem_cons_zero, List.getElem_cons_succ, List.setIfInBounds_toArray, List.set_cons_zero, List.set_cons_succ])
  refine wpAnyH_take (i := 6) (v := ?va6x16) rfl (by kernel_rfl) (by kernel_rfl) (by kernel_rfl) (fun _ _ _ h => h) (Or.inl ⟨by rfl, ?hy6x16⟩) (by assumption) ?rest6x16
  case hy6x16 => (intro w hSw; (try dsimp only at hSw); go_simp; try with_reducible rfl)
  (try simp only [Act.put, List.getElem_toArray, List.getElem_cons_zero, List.getElem_cons_succ, List.setIfInBounds_toArray, List.set_cons_zero, List.set_cons_succ])
  refine wpAnyH_ready (rs := [7]) (by kernel_rfl) (by simp) ?_
  refine AllReadyH.cons rfl (fun K hK => ?_) AllReadyH.nil
  rw [if_pos (by rfl)]
  refine op_copy _ _ _ rfl rfl rfl hcp ?_
  refine hK.out _ _ trivial (fun hHeld => ?_)
  clear hK K hcp
  (try simp only [Act.put, List.getElem_toArray, List.getElem_cons_zero, List.getElem_cons_succ, List.setIfInBounds_toArray, List.set_cons_zero, List.set_cons_succ])
  refine wpAnyH_take (i := 8) (v := ?va8x17) rfl (by kernel_rfl) (by kernel_rfl) (by kernel_rfl) (fun _ _ _ h => h) (Or.inl ⟨by rfl, ?hy8x17⟩) (by assumption) ?rest8x17
  case hy8x17 => (intro w hSw; (try dsimp only at hSw); go_simp; try with_reducible rfl)
  (try simp only [Act.put, List.getElem_toArray, List.getElem_cons_zero, List.getElem_cons_succ, List.setIfInBounds_toArray, List.set_cons_zero, List.set_cons_succ])
  refine wpAnyH_take (i := 9) (v := ?va9x18) rfl (by kernel_rfl) (by kernel_rfl) (by kernel_rfl) (fun _ _ _ h => h) (Or.inl ⟨by rfl, ?hy9x18⟩) (by assumption) ?rest9x18
  case hy9x18 => (intro w hSw; (try dsimp only at hSw); go_simp; try with_reducible rfl)
  (try simp only [Act.put, List.getElem_toArray, List.getElem_cons_zero, List.getElem_cons_succ, List.setIfInBounds_toArray, List.set_cons_zero, List.set_cons_succ])
  refine wpAnyH_done (by kernel_rfl) ?_ _
  have O2 : Hid (Own (x1.drew.setCell ⟨w.heap.size, 1, none⟩ (.int .i64 (-1))) w.heap.size (.slice (some ⟨w.heap.size, 0, none⟩) 3 3) [-1, -1, 0]) := (World.ownsRow.stored O1d.out 1 (.int .i64 (-1))).1
  have L2 : Hid (Below w.heap.size w (x1.drew.setCell ⟨w.heap.size, 1, none⟩ (.int .i64 (-1)))) := L1d.out.setCell (p := ⟨w.heap.size, 1, none⟩) (Nat.le_refl _) (.int .i64 (-1))
  generalize x1.drew.setCell ⟨w.heap.size, 1, none⟩ (.int .i64 (-1)) = x2 at *
  go_wp2_with fail
  rw [rounds_succ]
  go_wp2_with fail
  have O2d : Hid (Own x2.drew w.heap.size (.slice (some ⟨w.heap.size, 0, none⟩) 3 3) [-1, -1, 0]) := O2.out
  have L2d : Hid (Below w.heap.size w x2.drew) := below_drew L2.out
  have q0 := World.ownsRow.cellAt O2d.out 0 (by simp)
  have q1 := World.ownsRow.cellAt O2d.out 2 (by simp)
  have f1 := World.ownsRow.frozenAt O2d.out 2
  have hcp : (Builtin.copy_ #[25, 25] 3 #[.slice (some ⟨w.heap.size, 2, none⟩) 1 1, .slice (some ⟨w.heap.size, 0, none⟩) 2 3]).run Try.prog x2.drew = .ok (.int .i64 1) (x2.drew.setCell ⟨w.heap.size, 2, none⟩ (.int .i64 (-1))) := run_copy_cells (P := Try.prog) x2.drew 25 25 3 3 w.heap.size 2 1 1 ⟨w.heap.size, 0, none⟩ 2 3 [.int .i64 (-1)] Try.underlying25 size_int rfl (one_src q0) (fun j hj => by simp at hj; subst hj; rw [Nat.add_zero, q1]; rfl) (fun j hj => by simp at hj; subst hj; exact f1) (fun v hv => by simp at hv; subst hv; rfl)
  clear q0 q1 f1
  refine wp_region_held_drew (S := (fun _ => True)) (by kernel_rfl) (trivial) (fun hHeld => ?_)
  refine wpAnyH_take (i := 0) (v := ?va0x19) rfl (by kernel_rfl) (by kernel_rfl) (by kernel_rfl) (fun _ _ _ h => h) (Or.inl ⟨by rfl, ?hy0x19⟩) (by assumption) ?rest0x19
  case hy0x19 => (intro w hSw; (try dsimp only at hSw); go_simp; try with_reducible rfl)
  (try simp only [Act.put, List.getElem_toArray, List.getElem_cons_zero, List.setIfInBounds_toArray, List.set_cons_zero, List.set_cons_succ])
  refine wpAnyH_take (i := 1) (v := ?va1x20) rfl (by kernel_rfl) (by kernel_rfl) (by kernel_rfl) (fun _ _ _ h => h) (Or.inl ⟨by rfl, ?hy1x20⟩) (by assumption) ?rest1x20
  case hy1x20 => (intro w hSw; (try dsimp only at hSw); go_simp; try with_reducible rfl)
  (try simp only [Act.put, List.getElem_toArray, List.getElem_cons_zero, List.getElem_cons_succ, List.setIfInBounds_toArray, List.set_cons_zero, List.set_cons_succ])
  refine wpAnyH_take (i := 2) (v := ?va2x21) rfl (by kernel_rfl) (by kernel_rfl) (by kernel_rfl) (fun _ _ _ h => h) (Or.inl ⟨by rfl, ?hy2x21⟩) (by assumption) ?rest2x21
  case hy2x21 => (intro w hSw; (try dsimp only at hSw); go_simp; try with_reducible rfl)
  (try simp only [Act.put, List.getElem_toArray, List.getElem_cons_zero, List.getElem_cons_succ, List.setIfInBounds_toArray, List.set_cons_zero, List.set_cons_succ])
  refine wpAnyH_take (i := 3) (v := ?va3x22) rfl (by kernel_rfl) (by kernel_rfl) (by kernel_rfl) (fun _ _ _ h => h) (Or.inl ⟨by rfl, ?hy3x22⟩) (by assumption) ?rest3x22
  case hy3x22 => (intro w hSw; (try dsimp only at hSw); go_simp; try with_reducible rfl)
  (try simp only [Act.put, List.getElem_toArray, List.getElem_cons_zero, List.getElem_cons_succ, List.setIfInBounds_toArray, List.set_cons_zero, List.set_cons_succ])
  refine wpAnyH_take (i := 4) (v := ?va4x23) rfl (by kernel_rfl) (by kernel_rfl) (by kernel_rfl) (fun _ _ _ h => h) (Or.inl ⟨by rfl, ?hy4x23⟩) (by assumption) ?rest4x23
  case hy4x23 => (intro w hSw; (try dsimp only at hSw); go_simp; try with_reducible rfl)
  (try simp only [Act.put, List.getElem_toArray, List.getElem_cons_zero, List.getElem_cons_succ, List.setIfInBounds_toArray, List.set_cons_zero, List.set_cons_succ])
  refine wpAnyH_take (i := 5) (v := ?va5x24) rfl (by kernel_rfl) (by kernel_rfl) (by kernel_rfl) (fun _ _ _ h => h) (Or.inl ⟨by rfl, ?hy5x24⟩) (by assumption) ?rest5x24
  case hy5x24 => (intro w hSw; (try dsimp only at hSw); go_simp; try with_reducible rfl)
  (try simp only [Act.put, List.getElem_toArray, List.getElem_cons_zero, List.getElem_cons_succ, List.setIfInBounds_toArray, List.set_cons_zero, List.set_cons_succ])
  refine wpAnyH_take (i := 6) (v := ?va6x25) rfl (by kernel_rfl) (by kernel_rfl) (by kernel_rfl) (fun _ _ _ h => h) (Or.inl ⟨by rfl, ?hy6x25⟩) (by assumption) ?rest6x25
  case hy6x25 => (intro w hSw; (try dsimp only at hSw); go_simp; try with_reducible rfl)
  (try simp only [Act.put, List.getElem_toArray, List.getElem_cons_zero, List.getElem_cons_succ, List.setIfInBounds_toArray, List.set_cons_zero, List.set_cons_succ])
  refine wpAnyH_ready (rs := [7]) (by kernel_rfl) (by simp) ?_
  refine AllReadyH.cons rfl (fun K hK => ?_) AllReadyH.nil
  rw [if_pos (by rfl)]
  refine op_copy _ _ _ rfl rfl rfl hcp ?_
  refine hK.out _ _ trivial (fun hHeld => ?_)
  clear hK K hcp
  (try simp only [Act.put, List.getElem_toArray, List.getElem_cons_zero, List.getElem_cons_succ, List.setIfInBounds_toArray, List.set_cons_zero, List.set_cons_succ])
  refine wpAnyH_take (i := 8) (v := ?va8x26) rfl (by kernel_rfl) (by kernel_rfl) (by kernel_rfl) (fun _ _ _ h => h) (Or.inl ⟨by rfl, ?hy8x26⟩) (by assumption) ?rest8x26
  case hy8x26 => (intro w hSw; (try dsimp only at hSw); go_simp; try with_reducible rfl)
  (try simp only [Act.put, List.getElem_toArray, List.getElem_cons_zero, List.getElem_cons_succ, List.setIfInBounds_toArray, List.set_cons_zero, List.set_cons_succ])
  refine wpAnyH_take (i := 9) (v := ?va9x27) rfl (by kernel_rfl) (by kernel_rfl) (by kernel_rfl) (fun _ _ _ h => h) (Or.inl ⟨by rfl, ?hy9x27⟩) (by assumption) ?rest9x27
  case hy9x27 => (intro w hSw; (try dsimp only at hSw); go_simp; try with_reducible rfl)
  (try simp only [Act.put, List.getElem_toArray, List.getElem_cons_zero, List.getElem_cons_succ, List.setIfInBounds_toArray, List.set_cons_zero, List.set_cons_succ])
  refine wpAnyH_done (by kernel_rfl) ?_ _
  have O3 : Hid (Own (x2.drew.setCell ⟨w.heap.size, 2, none⟩ (.int .i64 (-1))) w.heap.size (.slice (some ⟨w.heap.size, 0, none⟩) 3 3) [-1, -1, -1]) := (World.ownsRow.stored O2d.out 2 (.int .i64 (-1))).1
  have L3 : Hid (Below w.heap.size w (x2.drew.setCell ⟨w.heap.size, 2, none⟩ (.int .i64 (-1)))) := L2d.out.setCell (p := ⟨w.heap.size, 2, none⟩) (Nat.le_refl _) (.int .i64 (-1))
  generalize x2.drew.setCell ⟨w.heap.size, 2, none⟩ (.int .i64 (-1)) = x3 at *
  go_wp2_with fail
  rw [rounds_succ]
  go_wp2_with fail
  go_ret
  exact ⟨_, rfl, O3.out, L3.out⟩
end Go.Proofs.Ytdagkbgobnaijab
