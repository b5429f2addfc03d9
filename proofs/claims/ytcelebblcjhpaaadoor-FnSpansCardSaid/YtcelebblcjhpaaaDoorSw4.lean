/- The project's states of spans: into a span; a slot in use; the slot of a word. -/
import Derived.Test.YtcelebblcjhpaaaDoorSw3
namespace Go.Proofs.YtcelebblcjhpaaaDoor
open Go.RowKit Pb

set_option maxHeartbeats 3200000 in
theorem c_span (f c z n : Int) (F : Nat → Int) (w : World) (h0 : 0 ≤ n) (h1 : n ≤ 96) (hF : ∀ k, k < 6 → 0 ≤ F k ∧ F k ≤ 65535) : Calls Tryd.prog 52 #[st f c z n F] w fun e w' => ∃ v, e = .returned (sp f c n v) ∧ Own w' w.heap.size v (wl ((n + 15) / 16).toNat F) ∧ Below w.heap.size w w' := by
  generalize hm : ((n + 15) / 16).toNat = m
  have HM := Lib.hid hm; clear hm
  have HF := Lib.hid hF; clear hF
  have HB : Hid (Below w.heap.size w ((w.alloc (.cells (c10 f c z n F) 71)).alloc (.cells (c4 0 0 0 (.slice none 0 0)) 27)).drew) := below_drew (((Below.refl w.heap.size w).alloc (Nat.le_refl _) _).alloc (by simp) _)
  have SD : Hid (RowS ((w.alloc (.cells (c10 f c z n F) 71)).alloc (.cells (c4 0 0 0 (.slice none 0 0)) 27)).drew (w.heap.size + 1) 0 0 0 (.slice none 0 0)) := Row.new1 w _ 27 (c4 0 0 0 (.slice none 0 0))
  go_enter Tryd.func52, Tryd.ntmps52
  go_wp2_with fail
  go_region_held3 (fun w' => w'.cell? ⟨w.heap.size, 0, none⟩ = some (.int .i64 f) ∧ w'.cell? ⟨w.heap.size, 1, none⟩ = some (.int .i64 c) ∧ w'.cell? ⟨w.heap.size, 3, none⟩ = some (.int .i64 n) ∧ w'.cell? ⟨w.heap.size, 4, none⟩ = some (.int .u16 (F 0)) ∧ w'.cell? ⟨w.heap.size, 5, none⟩ = some (.int .u16 (F 1)) ∧ w'.cell? ⟨w.heap.size, 6, none⟩ = some (.int .u16 (F 2)) ∧ w'.cell? ⟨w.heap.size, 7, none⟩ = some (.int .u16 (F 3)) ∧ w'.cell? ⟨w.heap.size, 8, none⟩ = some (.int .u16 (F 4)) ∧ w'.cell? ⟨w.heap.size, 9, none⟩ = some (.int .u16 (F 5)))
    (first
      | go_keep
      | (go_split_ands
         exact ⟨cellBelow hbk (by assumption), cellBelow hbk (by assumption), cellBelow hbk (by assumption), cellBelow hbk (by assumption), cellBelow hbk (by assumption), cellBelow hbk (by assumption), cellBelow hbk (by assumption), cellBelow hbk (by assumption), cellBelow hbk (by assumption)⟩))
    (first
      | (go_at_call 90; refine (c_bitmap F n _ h0 h1 HF.out).mono ?_; rintro e w2 ⟨v', rfl, ho, hbk⟩; rw [HM.out] at ho; obtain ⟨vg, vc, hvs, hvg⟩ := ho.shape; rw [wl_length] at hvs; subst hvs; have OO := Lib.hid ho; clear ho; have VG := Lib.hid hvg; clear hvg; have BE := Lib.hid (bst HB.out hbk HB.out.size); have RR := Row.below SD.out hbk; have RH := Lib.hid RR; have d0 := RowS.c0 RR; have d1 := RowS.c1 RR; have d2 := RowS.c2 RR; have d3 := RowS.c3 RR; have z0 := Row.frozen RR 0; have z1 := Row.frozen RR 1; have z2 := Row.frozen RR 2; have z3 := Row.frozen RR 3; clear RR))
  have SR := rowS_set4 RH.out f c n (.slice vg m vc)
  have OW := Own.set4 (g := w.heap.size + 1) (OO.out.mono (show w.heap.size ≤ _ by simp; omega)) (fun b hb => by have := VG.out b hb; simp at this; omega) (.int .i64 f) (.int .i64 c) (.int .i64 n) (.slice vg m vc)
  have BL := below_set4 (g := w.heap.size + 1) BE.out (by omega) (.int .i64 f) (.int .i64 c) (.int .i64 n) (.slice vg m vc)
  generalize (((w2.setCell ⟨w.heap.size + 1, 0, none⟩ (.int .i64 f)).setCell ⟨w.heap.size + 1, 1, none⟩ (.int .i64 c)).setCell ⟨w.heap.size + 1, 2, none⟩ (.int .i64 n)).setCell ⟨w.heap.size + 1, 3, none⟩ (.slice vg m vc) = w5 at *
  go_wp2
  exact bodyPost_ret (res_row Tryd.results52 SR rfl Tryd.underlying27 rfl info_span) rfl ⟨_, rfl, OW, BL⟩

set_option maxHeartbeats 3200000 in
theorem c_isInUse_in (f c z n : Int) (zs : List Int) (F : Nat → Int) (hF : F = fun k => zs.getD k 0) (hB : Bok n zs) (p : Int) (h0 : 0 ≤ p) (h1 : p < n) (w : World) : Calls Tryd.prog 64 #[st f c z n F, .int .i64 p] w fun e w' => e = .returned (.bool (bitL zs p.toNat)) ∧ Below w.heap.size w w' := by
  have hn := hB.2.1
  have hE : ∀ w, (Op.equalIn 10000 69 (.agg #[.int .u16 (bits .and .u16 (F 0) (runW p (p + 1) 0)), .int .u16 (bits .and .u16 (F 1) (runW p (p + 1) 1)), .int .u16 (bits .and .u16 (F 2) (runW p (p + 1) 2)), .int .u16 (bits .and .u16 (F 3) (runW p (p + 1) 3)), .int .u16 (bits .and .u16 (F 4) (runW p (p + 1) 4)), .int .u16 (bits .and .u16 (F 5) (runW p (p + 1) 5))]) (.agg #[.int .u16 0, .int .u16 0, .int .u16 0, .int .u16 0, .int .u16 0, .int .u16 0])).run Tryd.prog w = .ok (!bitL zs p.toNat) w := fun w => by
    rw [← one_bit hB h0 h1]
    subst hF
    exact eq6_run w (fun j => bits .and .u16 (zs.getD j 0) (runW p (p + 1) j)) (fun _ => 0)
  clear hF hB
  generalize bitL zs p.toNat = bb at *
  have HB : Hid (Below w.heap.size w (w.alloc (.cells (c10 f c z n F) 71)).drew) := below_drew ((Below.refl w.heap.size w).alloc (Nat.le_refl _) _)
  go_enter Tryd.func64, Tryd.ntmps64
  go_wp2_with fail
  go_region_held3 (fun w' => w'.cell? ⟨w.heap.size, 0, none⟩ = some (.int .i64 f) ∧ w'.cell? ⟨w.heap.size, 1, none⟩ = some (.int .i64 c) ∧ w'.cell? ⟨w.heap.size, 2, none⟩ = some (.int .i64 z) ∧ w'.cell? ⟨w.heap.size, 3, none⟩ = some (.int .i64 n) ∧ w'.cell? ⟨w.heap.size, 4, none⟩ = some (.int .u16 (F 0)) ∧ w'.cell? ⟨w.heap.size, 5, none⟩ = some (.int .u16 (F 1)) ∧ w'.cell? ⟨w.heap.size, 6, none⟩ = some (.int .u16 (F 2)) ∧ w'.cell? ⟨w.heap.size, 7, none⟩ = some (.int .u16 (F 3)) ∧ w'.cell? ⟨w.heap.size, 8, none⟩ = some (.int .u16 (F 4)) ∧ w'.cell? ⟨w.heap.size, 9, none⟩ = some (.int .u16 (F 5)) ∧ Below w.heap.size w w')
    (first
      | (refine ⟨rfl, rfl, rfl, rfl, rfl, rfl, rfl, rfl, rfl, rfl, HB.out⟩)
      | (refine ⟨?_, ?_, ?_, ?_, ?_, ?_, ?_, ?_, ?_, ?_, HB.out⟩ <;> simp)
      | (go_split_ands
         exact ⟨cellBelow hbk (by assumption), cellBelow hbk (by assumption), cellBelow hbk (by assumption), cellBelow hbk (by assumption), cellBelow hbk (by assumption), cellBelow hbk (by assumption), cellBelow hbk (by assumption), cellBelow hbk (by assumption), cellBelow hbk (by assumption), cellBelow hbk (by assumption), bst (by assumption) hbk (Below.size (by assumption))⟩)
      | (go_split_ands; refine ⟨?_, ?_, ?_, ?_, ?_, ?_, ?_, ?_, ?_, ?_, ?_⟩ <;> assumption))
    (first
      | (go_at_call 62; refine (c_hasSlot_in f c z n p _ h0 h1).mono ?_; rintro e w2 ⟨rfl, hbk⟩)
      | (go_at_call 51; refine (c_slotBit p _ h0 (by omega)).mono ?_; rintro e w3 ⟨rfl, hbk⟩)
      | (go_at_call 78; refine (c_both F (runW p (p + 1)) _).mono ?_; rintro e w4 ⟨rfl, hbk⟩))
  go_split_ands
  go_wp2
  go_ret
  exact ⟨by first | rfl | (cases bb <;> rfl), by assumption⟩
set_option maxHeartbeats 3200000 in
theorem c_isInUse_out (f c z n : Int) (F : Nat → Int) (p : Int) (h : ¬ (0 ≤ p ∧ p < n)) (w : World) : Calls Tryd.prog 64 #[st f c z n F, .int .i64 p] w fun e w' => e = .returned (.bool false) ∧ Below w.heap.size w w' := by
  have HB : Hid (Below w.heap.size w (w.alloc (.cells (c10 f c z n F) 71)).drew) := below_drew ((Below.refl w.heap.size w).alloc (Nat.le_refl _) _)
  have HH := Lib.hid h; clear h
  go_enter Tryd.func64, Tryd.ntmps64
  go_wp2_with fail
  refine wp_region_held_drew (S := (fun w' => w'.cell? ⟨w.heap.size, 0, none⟩ = some (.int .i64 f) ∧ w'.cell? ⟨w.heap.size, 1, none⟩ = some (.int .i64 c) ∧ w'.cell? ⟨w.heap.size, 2, none⟩ = some (.int .i64 z) ∧ w'.cell? ⟨w.heap.size, 3, none⟩ = some (.int .i64 n) ∧ Below w.heap.size w w')) (by kernel_rfl) (⟨by simp, by simp, by simp, by simp, HB.out⟩) (fun hHeld => ?_)
  refine wpAnyH_take (i := 0) (v := ?va0) rfl (by kernel_rfl) (by kernel_rfl) (by kernel_rfl) (fun _ _ _ h => h) (Or.inl ⟨by rfl, ?hy0⟩) (by assumption) ?rest0
  case hy0 => (intro w hSw; (try dsimp only at hSw); go_simp; try with_reducible rfl)
  (try simp only [Act.put, List.getElem_toArray, List.getElem_cons_zero, List.setIfInBounds_toArray, List.set_cons_zero, List.set_cons_succ])
  refine wpAnyH_take (i := 1) (v := ?va1) rfl (by kernel_rfl) (by kernel_rfl) (by kernel_rfl) (fun _ _ _ h => h) (Or.inl ⟨by rfl, ?hy1⟩) (by assumption) ?rest1
  case hy1 => (intro w hSw; (try dsimp only at hSw); go_simp; try with_reducible rfl)
  (try simp only [Act.put, List.getElem_toArray, List.getElem_cons_zero, List.getElem_cons_succ, List.setIfInBounds_toArray, List.set_cons_zero, List.set_cons_succ])
  refine wpAnyH_take (i := 2) (v := ?va2) rfl (by kernel_rfl) (by kernel_rfl) (by kernel_rfl) (fun _ _ _ h => h) (Or.inl ⟨by rfl, ?hy2⟩) (by assumption) ?rest2
  case hy2 => (intro w hSw; (try dsimp only at hSw); go_simp; try with_reducible rfl)
  (try simp only [Act.put, List.getElem_toArray, List.getElem_cons_zero, List.getElem_cons_succ, List.setIfInBounds_toArray, List.set_cons_zero, List.set_cons_succ])
  refine wpAnyH_ready (rs := [3]) (by kernel_rfl) (by simp) ?_
  refine AllReadyH.cons rfl (fun K hK => ?_) AllReadyH.nil
  go_simp
  refine (c_hasSlot_out f c z n p _ HH.out).mono ?_
  rintro e w2 ⟨rfl, hbk⟩
  obtain ⟨k0, k1, k2, k3, kb⟩ := hHeld
  refine hK.out _ _ (⟨cellBelow hbk k0, cellBelow hbk k1, cellBelow hbk k2, cellBelow hbk k3, bst kb hbk kb.size⟩) (fun hHeld => ?_)
  clear hK K
  (try simp only [Act.put, List.getElem_toArray, List.getElem_cons_zero, List.getElem_cons_succ, List.setIfInBounds_toArray, List.set_cons_zero, List.set_cons_succ])
  refine wpAnyH_take (i := 4) (v := ?va4) rfl (by kernel_rfl) (by kernel_rfl) (by kernel_rfl) (fun _ _ _ h => h) (Or.inl ⟨by rfl, ?hy4⟩) (by assumption) ?rest4
  case hy4 => (intro w hSw; (try dsimp only at hSw); go_simp; try with_reducible rfl)
  (try simp only [Act.put, List.getElem_toArray, List.getElem_cons_zero, List.getElem_cons_succ, List.setIfInBounds_toArray, List.set_cons_zero, List.set_cons_succ])
  refine wpAnyH_take (i := 5) (v := undef) rfl (by kernel_rfl) (by kernel_rfl) (by kernel_rfl) (fun _ _ _ h => h) (Or.inr ⟨by rfl, rfl⟩) (by assumption) ?_
  (try simp only [Act.put, List.getElem_toArray, List.getElem_cons_zero, List.getElem_cons_succ, List.setIfInBounds_toArray, List.set_cons_zero, List.set_cons_succ])
  refine wpAnyH_take (i := 6) (v := undef) rfl (by kernel_rfl) (by kernel_rfl) (by kernel_rfl) (fun _ _ _ h => h) (Or.inr ⟨by rfl, rfl⟩) (by assumption) ?_
  (try simp only [Act.put, List.getElem_toArray, List.getElem_cons_zero, List.getElem_cons_succ, List.setIfInBounds_toArray, List.set_cons_zero, List.set_cons_succ])
  refine wpAnyH_take (i := 7) (v := undef) rfl (by kernel_rfl) (by kernel_rfl) (by kernel_rfl) (fun _ _ _ h => h) (Or.inr ⟨by rfl, rfl⟩) (by assumption) ?_
  (try simp only [Act.put, List.getElem_toArray, List.getElem_cons_zero, List.getElem_cons_succ, List.setIfInBounds_toArray, List.set_cons_zero, List.set_cons_succ])
  refine wpAnyH_take (i := 8) (v := undef) rfl (by kernel_rfl) (by kernel_rfl) (by kernel_rfl) (fun _ _ _ h => h) (Or.inr ⟨by rfl, rfl⟩) (by assumption) ?_
  (try simp only [Act.put, List.getElem_toArray, List.getElem_cons_zero, List.getElem_cons_succ, List.setIfInBounds_toArray, List.set_cons_zero, List.set_cons_succ])
  refine wpAnyH_take (i := 9) (v := undef) rfl (by kernel_rfl) (by kernel_rfl) (by kernel_rfl) (fun _ _ _ h => h) (Or.inr ⟨by rfl, rfl⟩) (by assumption) ?_
  (try simp only [Act.put, List.getElem_toArray, List.getElem_cons_zero, List.getElem_cons_succ, List.setIfInBounds_toArray, List.set_cons_zero, List.set_cons_succ])
  refine wpAnyH_take (i := 10) (v := undef) rfl (by kernel_rfl) (by kernel_rfl) (by kernel_rfl) (fun _ _ _ h => h) (Or.inr ⟨by rfl, rfl⟩) (by assumption) ?_
  (try simp only [Act.put, List.getElem_toArray, List.getElem_cons_zero, List.getElem_cons_succ, List.setIfInBounds_toArray, List.set_cons_zero, List.set_cons_succ])
  refine wpAnyH_take (i := 11) (v := undef) rfl (by kernel_rfl) (by kernel_rfl) (by kernel_rfl) (fun _ _ _ h => h) (Or.inr ⟨by rfl, rfl⟩) (by assumption) ?_
  (try simp only [Act.put, List.getElem_toArray, List.getElem_cons_zero, List.getElem_cons_succ, List.setIfInBounds_toArray, List.set_cons_zero, List.set_cons_succ])
  refine wpAnyH_take (i := 12) (v := ?va12) rfl (by kernel_rfl) (by kernel_rfl) (by kernel_rfl) (fun _ _ _ h => h) (Or.inl ⟨by rfl, ?hy12⟩) (by assumption) ?rest12
  case hy12 => (intro w hSw; (try dsimp only at hSw); go_simp; try with_reducible rfl)
  (try simp only [Act.put, List.getElem_toArray, List.getElem_cons_zero, List.getElem_cons_succ, List.setIfInBounds_toArray, List.set_cons_zero, List.set_cons_succ])
  refine wpAnyH_take (i := 13) (v := ?va13) rfl (by kernel_rfl) (by kernel_rfl) (by kernel_rfl) (fun _ _ _ h => h) (Or.inl ⟨by rfl, ?hy13⟩) (by assumption) ?rest13
  case hy13 => (intro w hSw; (try dsimp only at hSw); go_simp; try with_reducible rfl)
  (try simp only [Act.put, List.getElem_toArray, List.getElem_cons_zero, List.getElem_cons_succ, List.setIfInBounds_toArray, List.set_cons_zero, List.set_cons_succ])
  refine wpAnyH_done (by kernel_rfl) ?_ _
  obtain ⟨_, _, _, _, kb⟩ := hHeld
  go_wp2
  go_ret
  exact ⟨rfl, kb⟩

end Go.Proofs.YtcelebblcjhpaaaDoor
