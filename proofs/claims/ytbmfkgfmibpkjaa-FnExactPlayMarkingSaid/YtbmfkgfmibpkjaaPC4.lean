/- What the laws rest on, part 4. -/
import Derived.Test.YtbmfkgfmibpkjaaPC3
import Derived.Deep.Cut
import Derived.Deep.SlicePairs
namespace Go.Proofs.Ytbmfkgfmibpkjaa
open Go.RowKit Ph

def Sml (h : H) : Prop := h.l.length ≤ 12 ∧ h.r.length ≤ 4 ∧ h.f.length ≤ 12 ∧ ∀ i, i < h.f.length → (h.f.getD i []).length ≤ 3
set_option maxRecDepth 100000 in
set_option maxHeartbeats 6400000 in
theorem s_l5OwnS (a b c : Value) (h : H) (w : World) (hA : HeapAt w a b c h) (hG : Sml h) : Calls Try.prog 105 #[hv a b c] w fun e w' => ∃ a' b' c', e = .returned (hv a' b' c') ∧ OwnH w' w.heap.size w'.heap.size a' b' c' h ∧ Below w.heap.size w w' := by
  obtain ⟨hl12, hr4, hf12, hr3⟩ := hG
  obtain ⟨fa, fc, rfl⟩ := hA.f.shape
  obtain ⟨la, lc, rfl⟩ := hA.l.shape
  obtain ⟨ra, rc, rfl⟩ := hA.r.shape
  have HFA := Lib.hid hA.f; have HLA := Lib.hid hA.l; have HRA := Lib.hid hA.r
  have HLN : Hid (h.l.length ≤ 12 ∧ h.r.length ≤ 4 ∧ h.f.length ≤ 12) := ⟨hl12, hr4, hf12⟩
  have HR3 := Lib.hid hr3
  have hb0 := (below1 w (.cells (c3 (.slice fa h.f.length fc) (.slice la h.l.length lc) (.slice ra h.r.length rc)) 32)).alloc (by simp) (.cells (c3 (.slice none 0 0) (.slice none 0 0) (.slice none 0 0)) 32)
  have s0 := Lib.hid (OwnSt.mk (w := w) (OwnH.nil _ _ _) (show RowH _ w.heap.size (.slice fa h.f.length fc) (.slice la h.l.length lc) (.slice ra h.r.length rc) from (Row.new w 32 (c3 (.slice fa h.f.length fc) (.slice la h.l.length lc) (.slice ra h.r.length rc))).alloc (.cells (c3 (.slice none 0 0) (.slice none 0 0) (.slice none 0 0)) 32)) (show RowH _ (w.heap.size + 1) (.slice none 0 0) (.slice none 0 0) (.slice none 0 0) from Row.new1 w (.cells (c3 (.slice fa h.f.length fc) (.slice la h.l.length lc) (.slice ra h.r.length rc)) 32) 32 (c3 (.slice none 0 0) (.slice none 0 0) (.slice none 0 0))) hb0 (by simp))
  clear hA hr3 hb0 hl12 hr4 hf12
  go_enter Try.func105, Try.ntmps105
  go_wp2_with fail
  replace s0 : Hid (OwnSt w ((w.alloc (.cells (c3 (.slice fa h.f.length fc) (.slice la h.l.length lc) (.slice ra h.r.length rc)) 32)).alloc (.cells (c3 (.slice none 0 0) (.slice none 0 0) (.slice none 0 0)) 32)).drew (.slice fa h.f.length fc) (.slice la h.l.length lc) (.slice ra h.r.length rc) (.slice none 0 0) (.slice none 0 0) [] []) := ⟨s0.out.ow.below (below_drew (Below.refl _ _)), s0.out.rp, s0.out.r2, below_drew s0.out.l, s0.out.sz⟩
  go_cut [3] from 6 (fun p wc => ∃ (gC : Nat) (pb : Option Addr) (qb : Nat) (pc : Option Addr) (qc : Nat), p = .pointer (some ⟨gC, 0, none⟩) ∧ Hid (RowH wc gC (.slice none 0 0) (.slice pb h.l.length qb) (.slice pc h.r.length qc)) ∧ Hid (OwnSt w wc (.slice fa h.f.length fc) (.slice la h.l.length lc) (.slice ra h.r.length rc) (.slice pb h.l.length qb) (.slice pc h.r.length qc) h.l h.r) ∧ Hid (w.heap.size + 2 ≤ gC))
  case first =>
    refine wp_region_held_drew (S := (fun w' => w'.cell? ⟨w.heap.size, 1, none⟩ = some (.slice la h.l.length lc) ∧ w'.cell? ⟨w.heap.size, 2, none⟩ = some (.slice ra h.r.length rc))) (by kernel_rfl) (⟨s0.out.rp.c1, s0.out.rp.c2⟩) (fun hHeld => ?_)
    refine wpAnyH_take (i := 1) (v := ?va1x1) rfl (by kernel_rfl) (by kernel_rfl) (by kernel_rfl) (fun _ _ _ h => h) (Or.inl ⟨by rfl, ?hy1x1⟩) (by assumption) ?rest1x1
    case hy1x1 => (intro w hSw; (try dsimp only at hSw); go_simp; try with_reducible rfl)
    (try simp only [Act.put, List.getElem_toArray, List.getElem_cons_zero, List.getElem_cons_succ, List.setIfInBounds_toArray, List.set_cons_zero, List.set_cons_succ])
    refine wpAnyH_take (i := 2) (v := ?va2x2) rfl (by kernel_rfl) (by kernel_rfl) (by kernel_rfl) (fun _ _ _ h => h) (Or.inl ⟨by rfl, ?hy2x2⟩) (by assumption) ?rest2x2
    case hy2x2 => (intro w hSw; (try dsimp only at hSw); go_simp; try with_reducible rfl)
    (try simp only [Act.put, List.getElem_toArray, List.getElem_cons_zero, List.getElem_cons_succ, List.setIfInBounds_toArray, List.set_cons_zero, List.set_cons_succ])
    refine wpAnyH_take (i := 5) (v := ?va5x3) rfl (by kernel_rfl) (by kernel_rfl) (by kernel_rfl) (fun _ _ _ h => h) (Or.inl ⟨by rfl, ?hy5x3⟩) (by assumption) ?rest5x3
    case hy5x3 => (intro w hSw; (try dsimp only at hSw); go_simp; try with_reducible rfl)
    (try simp only [Act.put, List.getElem_toArray, List.getElem_cons_zero, List.getElem_cons_succ, List.setIfInBounds_toArray, List.set_cons_zero, List.set_cons_succ])
    refine wpAnyH_take (i := 6) (v := ?va6x4) rfl (by kernel_rfl) (by kernel_rfl) (by kernel_rfl) (fun _ _ _ h => h) (Or.inl ⟨by rfl, ?hy6x4⟩) (by assumption) ?rest6x4
    case hy6x4 => (intro w hSw; (try dsimp only at hSw); go_simp; try with_reducible rfl)
    (try simp only [Act.put, List.getElem_toArray, List.getElem_cons_zero, List.getElem_cons_succ, List.setIfInBounds_toArray, List.set_cons_zero, List.set_cons_succ])
    generalize ((w.alloc (.cells (c3 (.slice fa h.f.length fc) (.slice la h.l.length lc) (.slice ra h.r.length rc)) 32)).alloc (.cells (c3 (.slice none 0 0) (.slice none 0 0) (.slice none 0 0)) 32)).drew = x0 at *
    refine wpAnyH_ready (rs := [0, 4, 9]) (by kernel_rfl) (by simp) ?_
    refine AllReadyH.cons rfl (fun K hK => ?_) (AllReadyH.cons rfl (fun K hK => ?_) (AllReadyH.cons rfl (fun K hK => ?_) AllReadyH.nil))
    · skip
      clear hHeld
      have s1 := Lib.hid (OwnSt.allocB s0.out)
      go_simp
      refine hK.out _ _ ⟨s1.out.rp.c1, s1.out.rp.c2⟩ (fun hHeld => ?_)
      clear hK K
      (try simp only [Act.put, List.getElem_toArray, List.getElem_cons_zero, List.setIfInBounds_toArray, List.set_cons_zero, List.set_cons_succ])
      generalize hv1 : Value.slice (some ⟨x0.heap.size, 0, none⟩) 0 0 = y1 at *
      clear hv1
      generalize x0.alloc (.cells #[] 4) = x1 at *
      refine wpAnyH_ready (rs := [3, 4, 9]) (by kernel_rfl) (by simp) ?_
      refine AllReadyH.cons rfl (fun K hK => ?_) (AllReadyH.cons rfl (fun K hK => ?_) (AllReadyH.cons rfl (fun K hK => ?_) AllReadyH.nil))
      · skip
        clear hHeld
        obtain ⟨y2, x2, hrun2, t2, hrw2⟩ := OwnSt.appB s1.out HLA.out (by have := HLN.out; omega) 23
        have s2 := Lib.hid t2
        clear t2 hrw2
        rw [if_pos (by rfl)]
        refine op_app _ _ _ rfl rfl rfl hrun2 ?_
        refine hK.out _ _ ⟨s2.out.rp.c1, s2.out.rp.c2⟩ (fun hHeld => ?_)
        clear hK K hrun2
        (try simp only [Act.put, List.getElem_toArray, List.getElem_cons_zero, List.getElem_cons_succ, List.setIfInBounds_toArray, List.set_cons_zero, List.set_cons_succ])
        refine wpAnyH_ready (rs := [4, 9]) (by kernel_rfl) (by simp) ?_
        refine AllReadyH.cons rfl (fun K hK => ?_) (AllReadyH.cons rfl (fun K hK => ?_) AllReadyH.nil)
        · skip
          clear hHeld
          have s3 := Lib.hid (OwnSt.allocI s2.out)
          go_simp
          refine hK.out _ _ ⟨s3.out.rp.c1, s3.out.rp.c2⟩ (fun hHeld => ?_)
          clear hK K
          (try simp only [Act.put, List.getElem_toArray, List.getElem_cons_zero, List.getElem_cons_succ, List.setIfInBounds_toArray, List.set_cons_zero, List.set_cons_succ])
          generalize hv3 : Value.slice (some ⟨x2.heap.size, 0, none⟩) 0 0 = y3 at *
          clear hv3
          generalize x2.alloc (.cells #[] 3) = x3 at *
          refine wpAnyH_ready (rs := [7, 9]) (by kernel_rfl) (by simp) ?_
          refine AllReadyH.cons rfl (fun K hK => ?_) (AllReadyH.cons rfl (fun K hK => ?_) AllReadyH.nil)
          · skip
            clear hHeld
            obtain ⟨y4, x4, hrun4, t4, hrw4⟩ := OwnSt.appI s3.out HRA.out (by have := HLN.out; omega) 24
            have s4 := Lib.hid t4
            clear t4 hrw4
            rw [if_pos (by rfl)]
            refine op_app _ _ _ rfl rfl rfl hrun4 ?_
            refine hK.out _ _ ⟨s4.out.rp.c1, s4.out.rp.c2⟩ (fun hHeld => ?_)
            clear hK K hrun4
            (try simp only [Act.put, List.getElem_toArray, List.getElem_cons_zero, List.getElem_cons_succ, List.setIfInBounds_toArray, List.set_cons_zero, List.set_cons_succ])
            obtain ⟨_, ⟨pb, qb, hpb⟩, ⟨pc, qc, hpc⟩⟩ := s4.out.ow.shapes
            simp only [] at hpb hpc
            subst hpb
            subst hpc
            refine wpAnyH_take (i := 8) (v := ?va8x5) rfl (by kernel_rfl) (by kernel_rfl) (by kernel_rfl) (fun _ _ _ h => h) (Or.inl ⟨by rfl, ?hy8x5⟩) (by assumption) ?rest8x5
            case hy8x5 => (intro w hSw; (try dsimp only at hSw); go_simp; try with_reducible rfl)
            (try simp only [Act.put, List.getElem_toArray, List.getElem_cons_zero, List.getElem_cons_succ, List.setIfInBounds_toArray, List.set_cons_zero, List.set_cons_succ])
            refine wpAnyH_ready (rs := [9]) (by kernel_rfl) (by simp) ?_
            refine AllReadyH.cons rfl (fun K hK => ?_) AllReadyH.nil
            clear hHeld
            have s5 := Lib.hid (OwnSt.allocC s4.out)
            have hc5 := Lib.hid (show RowH (x4.alloc (.cells (c3 (.slice none 0 0) (.slice none 0 0) (.slice none 0 0)) 32)) x4.heap.size (.slice none 0 0) (.slice none 0 0) (.slice none 0 0) from Row.new x4 _ _)
            go_simp
            refine hK.out _ _ ⟨s5.out.rp.c1, s5.out.rp.c2⟩ (fun hHeld => ?_)
            clear hK K
            (try simp only [Act.put, List.getElem_toArray, List.getElem_cons_zero, List.getElem_cons_succ, List.setIfInBounds_toArray, List.set_cons_zero, List.set_cons_succ])
            have hd5 : Hid (w.heap.size + 2 ≤ x4.heap.size) := s4.out.sz
            generalize x4.heap.size = g5 at *
            generalize x4.alloc (.cells (c3 (.slice none 0 0) (.slice none 0 0) (.slice none 0 0)) 32) = x5 at *
            have z0 := hc5.out.c0
            have z1 := hc5.out.c1
            have z2 := hc5.out.c2
            have f0 := Row.frozen hc5.out 0
            have f1 := Row.frozen hc5.out 1
            have f2 := Row.frozen hc5.out 2
            have hne : w.heap.size ≠ g5 := by have := hd5.out; omega
            have hne1 : w.heap.size + 1 ≠ g5 := by have := hd5.out; omega
            have HST : Hid (OwnSt w (((x5.setCell ⟨g5, 0, none⟩ (.slice none 0 0)).setCell ⟨g5, 1, none⟩ (.slice pb h.l.length qb)).setCell ⟨g5, 2, none⟩ (.slice pc h.r.length qc)) (.slice fa h.f.length fc) (.slice la h.l.length lc) (.slice ra h.r.length rc) (.slice pb h.l.length qb) (.slice pc h.r.length qc) h.l h.r) := own_store s5.out hc5.out hd5.out _ _ _
            have HRC := Lib.hid (hc5.out.set3 (.slice none 0 0) (.slice pb h.l.length qb) (.slice pc h.r.length qc))
            clear hHeld
            refine wpAnyH_ready (rs := [10]) (by kernel_rfl) (by simp) ?_
            refine AllReadyH.cons rfl (fun K hK => ?_) AllReadyH.nil
            go_simp
            refine hK.out _ _ ⟨HST.out.rp.c1, HST.out.rp.c2⟩ (fun hHeld => ?_)
            clear hK K z0 z1 z2 f0 f1 f2
            (try simp only [Act.put, List.getElem_toArray, List.getElem_cons_zero, List.getElem_cons_succ, List.setIfInBounds_toArray, List.set_cons_zero, List.set_cons_succ])
            refine wpAnyH_done (by kernel_rfl) ?_ _
            go_wp2_with fail
            go_meet
            case rel => exact ⟨g5, pb, qb, pc, qc, rfl, HRC, HST, hd5⟩
          · skip
            clear hHeld
            have s6 := Lib.hid (OwnSt.allocC s3.out)
            have hc6 := Lib.hid (show RowH (x3.alloc (.cells (c3 (.slice none 0 0) (.slice none 0 0) (.slice none 0 0)) 32)) x3.heap.size (.slice none 0 0) (.slice none 0 0) (.slice none 0 0) from Row.new x3 _ _)
            go_simp
            refine hK.out _ _ ⟨s6.out.rp.c1, s6.out.rp.c2⟩ (fun hHeld => ?_)
            clear hK K
            (try simp only [Act.put, List.getElem_toArray, List.getElem_cons_zero, List.getElem_cons_succ, List.setIfInBounds_toArray, List.set_cons_zero, List.set_cons_succ])
            have hd6 : Hid (w.heap.size + 2 ≤ x3.heap.size) := s3.out.sz
            generalize x3.heap.size = g6 at *
            generalize x3.alloc (.cells (c3 (.slice none 0 0) (.slice none 0 0) (.slice none 0 0)) 32) = x6 at *
            refine wpAnyH_ready (rs := [7]) (by kernel_rfl) (by simp) ?_
            refine AllReadyH.cons rfl (fun K hK => ?_) AllReadyH.nil
            clear hHeld
            obtain ⟨y7, x7, hrun7, t7, hrw7⟩ := OwnSt.appI s6.out HRA.out (by have := HLN.out; omega) 24
            have hc7 := Lib.hid (hrw7 _ _ _ _ hc6.out)
            have s7 := Lib.hid t7
            clear t7 hrw7
            rw [if_pos (by rfl)]
            refine op_app _ _ _ rfl rfl rfl hrun7 ?_
            refine hK.out _ _ ⟨s7.out.rp.c1, s7.out.rp.c2⟩ (fun hHeld => ?_)
            clear hK K hrun7
            (try simp only [Act.put, List.getElem_toArray, List.getElem_cons_zero, List.getElem_cons_succ, List.setIfInBounds_toArray, List.set_cons_zero, List.set_cons_succ])
            obtain ⟨_, ⟨pb, qb, hpb⟩, ⟨pc, qc, hpc⟩⟩ := s7.out.ow.shapes
            simp only [] at hpb hpc
            subst hpb
            subst hpc
            refine wpAnyH_take (i := 8) (v := ?va8x6) rfl (by kernel_rfl) (by kernel_rfl) (by kernel_rfl) (fun _ _ _ h => h) (Or.inl ⟨by rfl, ?hy8x6⟩) (by assumption) ?rest8x6
            case hy8x6 => (intro w hSw; (try dsimp only at hSw); go_simp; try with_reducible rfl)
            (try simp only [Act.put, List.getElem_toArray, List.getElem_cons_zero, List.getElem_cons_succ, List.setIfInBounds_toArray, List.set_cons_zero, List.set_cons_succ])
            have z0 := hc7.out.c0
            have z1 := hc7.out.c1
            have z2 := hc7.out.c2
            have f0 := Row.frozen hc7.out 0
            have f1 := Row.frozen hc7.out 1
            have f2 := Row.frozen hc7.out 2
            have hne : w.heap.size ≠ g6 := by have := hd6.out; omega
            have hne1 : w.heap.size + 1 ≠ g6 := by have := hd6.out; omega
            have HST : Hid (OwnSt w (((x7.setCell ⟨g6, 0, none⟩ (.slice none 0 0)).setCell ⟨g6, 1, none⟩ (.slice pb h.l.length qb)).setCell ⟨g6, 2, none⟩ (.slice pc h.r.length qc)) (.slice fa h.f.length fc) (.slice la h.l.length lc) (.slice ra h.r.length rc) (.slice pb h.l.length qb) (.slice pc h.r.length qc) h.l h.r) := own_store s7.out hc7.out hd6.out _ _ _
            have HRC := Lib.hid (hc7.out.set3 (.slice none 0 0) (.slice pb h.l.length qb) (.slice pc h.r.length qc))
            clear hHeld
            refine wpAnyH_ready (rs := [10]) (by kernel_rfl) (by simp) ?_
            refine AllReadyH.cons rfl (fun K hK => ?_) AllReadyH.nil
            go_simp
            refine hK.out _ _ ⟨HST.out.rp.c1, HST.out.rp.c2⟩ (fun hHeld => ?_)
            clear hK K z0 z1 z2 f0 f1 f2
            (try simp only [Act.put, List.getElem_toArray, List.getElem_cons_zero, List.getElem_cons_succ, List.setIfInBounds_toArray, List.set_cons_zero, List.set_cons_succ])
            refine wpAnyH_done (by kernel_rfl) ?_ _
            go_wp2_with fail
            go_meet
            case rel => exact ⟨g6, pb, qb, pc, qc, rfl, HRC, HST, hd6⟩
        · skip
          clear hHeld
          have s8 := Lib.hid (OwnSt.allocC s2.out)
          have hc8 := Lib.hid (show RowH (x2.alloc (.cells (c3 (.slice none 0 0) (.slice none 0 0) (.slice none 0 0)) 32)) x2.heap.size (.slice none 0 0) (.slice none 0 0) (.slice none 0 0) from Row.new x2 _ _)
          go_simp
          refine hK.out _ _ ⟨s8.out.rp.c1, s8.out.rp.c2⟩ (fun hHeld => ?_)
          clear hK K
          (try simp only [Act.put, List.getElem_toArray, List.getElem_cons_zero, List.getElem_cons_succ, List.setIfInBounds_toArray, List.set_cons_zero, List.set_cons_succ])
          have hd8 : Hid (w.heap.size + 2 ≤ x2.heap.size) := s2.out.sz
          generalize x2.heap.size = g8 at *
          generalize x2.alloc (.cells (c3 (.slice none 0 0) (.slice none 0 0) (.slice none 0 0)) 32) = x8 at *
          refine wpAnyH_ready (rs := [4]) (by kernel_rfl) (by simp) ?_
          refine AllReadyH.cons rfl (fun K hK => ?_) AllReadyH.nil
          clear hHeld
          have s9 := Lib.hid (OwnSt.allocI s8.out)
          have hc9 := Lib.hid (show RowH _ _ (.slice none 0 0) (.slice none 0 0) (.slice none 0 0) from Row.alloc hc8.out (.cells #[] 3))
          go_simp
          refine hK.out _ _ ⟨s9.out.rp.c1, s9.out.rp.c2⟩ (fun hHeld => ?_)
          clear hK K
          (try simp only [Act.put, List.getElem_toArray, List.getElem_cons_zero, List.getElem_cons_succ, List.setIfInBounds_toArray, List.set_cons_zero, List.set_cons_succ])
          generalize hv9 : Value.slice (some ⟨x8.heap.size, 0, none⟩) 0 0 = y9 at *
          clear hv9
          generalize x8.alloc (.cells #[] 3) = x9 at *
          refine wpAnyH_ready (rs := [7]) (by kernel_rfl) (by simp) ?_
          refine AllReadyH.cons rfl (fun K hK => ?_) AllReadyH.nil
          clear hHeld
          obtain ⟨y10, x10, hrun10, t10, hrw10⟩ := OwnSt.appI s9.out HRA.out (by have := HLN.out; omega) 24
          have hc10 := Lib.hid (hrw10 _ _ _ _ hc9.out)
          have s10 := Lib.hid t10
          clear t10 hrw10
          rw [if_pos (by rfl)]
          refine op_app _ _ _ rfl rfl rfl hrun10 ?_
          refine hK.out _ _ ⟨s10.out.rp.c1, s10.out.rp.c2⟩ (fun hHeld => ?_)
          clear hK K hrun10
          (try simp only [Act.put, List.getElem_toArray, List.getElem_cons_zero, List.getElem_cons_succ, List.setIfInBounds_toArray, List.set_cons_zero, List.set_cons_succ])
          obtain ⟨_, ⟨pb, qb, hpb⟩, ⟨pc, qc, hpc⟩⟩ := s10.out.ow.shapes
          simp only [] at hpb hpc
          subst hpb
          subst hpc
          refine wpAnyH_take (i := 8) (v := ?va8x7) rfl (by kernel_rfl) (by kernel_rfl) (by kernel_rfl) (fun _ _ _ h => h) (Or.inl ⟨by rfl, ?hy8x7⟩) (by assumption) ?rest8x7
          case hy8x7 => (intro w hSw; (try dsimp only at hSw); go_simp; try with_reducible rfl)
          (try simp only [Act.put, List.getElem_toArray, List.getElem_cons_zero, List.getElem_cons_succ, List.setIfInBounds_toArray, List.set_cons_zero, List.set_cons_succ])
          have z0 := hc10.out.c0
          have z1 := hc10.out.c1
          have z2 := hc10.out.c2
          have f0 := Row.frozen hc10.out 0
          have f1 := Row.frozen hc10.out 1
          have f2 := Row.frozen hc10.out 2
          have hne : w.heap.size ≠ g8 := by have := hd8.out; omega
          have hne1 : w.heap.size + 1 ≠ g8 := by have := hd8.out; omega
          have HST : Hid (OwnSt w (((x10.setCell ⟨g8, 0, none⟩ (.slice none 0 0)).setCell ⟨g8, 1, none⟩ (.slice pb h.l.length qb)).setCell ⟨g8, 2, none⟩ (.slice pc h.r.length qc)) (.slice fa h.f.length fc) (.slice la h.l.length lc) (.slice ra h.r.length rc) (.slice pb h.l.length qb) (.slice pc h.r.length qc) h.l h.r) := own_store s10.out hc10.out hd8.out _ _ _
          have HRC := Lib.hid (hc10.out.set3 (.slice none 0 0) (.slice pb h.l.length qb) (.slice pc h.r.length qc))
          clear hHeld
          refine wpAnyH_ready (rs := [10]) (by kernel_rfl) (by simp) ?_
          refine AllReadyH.cons rfl (fun K hK => ?_) AllReadyH.nil
          go_simp
          refine hK.out _ _ ⟨HST.out.rp.c1, HST.out.rp.c2⟩ (fun hHeld => ?_)
          clear hK K z0 z1 z2 f0 f1 f2
          (try simp only [Act.put, List.getElem_toArray, List.getElem_cons_zero, List.getElem_cons_succ, List.setIfInBounds_toArray, List.set_cons_zero, List.set_cons_succ])
          refine wpAnyH_done (by kernel_rfl) ?_ _
          go_wp2_with fail
          go_meet
          case rel => exact ⟨g8, pb, qb, pc, qc, rfl, HRC, HST, hd8⟩
      · skip
        clear hHeld
        have s11 := Lib.hid (OwnSt.allocI s1.out)
        go_simp
        refine hK.out _ _ ⟨s11.out.rp.c1, s11.out.rp.c2⟩ (fun hHeld => ?_)
        clear hK K
        (try simp only [Act.put, List.getElem_toArray, List.getElem_cons_zero, List.getElem_cons_succ, List.setIfInBounds_toArray, List.set_cons_zero, List.set_cons_succ])
        generalize hv11 : Value.slice (some ⟨x1.heap.size, 0, none⟩) 0 0 = y11 at *
        clear hv11
        generalize x1.alloc (.cells #[] 3) = x11 at *
        refine wpAnyH_ready (rs := [3, 9]) (by kernel_rfl) (by simp) ?_
        refine AllReadyH.cons rfl (fun K hK => ?_) (AllReadyH.cons rfl (fun K hK => ?_) AllReadyH.nil)
        · skip
          clear hHeld
          obtain ⟨y12, x12, hrun12, t12, hrw12⟩ := OwnSt.appB s11.out HLA.out (by have := HLN.out; omega) 23
          have s12 := Lib.hid t12
          clear t12 hrw12
          rw [if_pos (by rfl)]
          refine op_app _ _ _ rfl rfl rfl hrun12 ?_
          refine hK.out _ _ ⟨s12.out.rp.c1, s12.out.rp.c2⟩ (fun hHeld => ?_)
          clear hK K hrun12
          (try simp only [Act.put, List.getElem_toArray, List.getElem_cons_zero, List.getElem_cons_succ, List.setIfInBounds_toArray, List.set_cons_zero, List.set_cons_succ])
          refine wpAnyH_ready (rs := [7, 9]) (by kernel_rfl) (by simp) ?_
          refine AllReadyH.cons rfl (fun K hK => ?_) (AllReadyH.cons rfl (fun K hK => ?_) AllReadyH.nil)
          · skip
            clear hHeld
            obtain ⟨y13, x13, hrun13, t13, hrw13⟩ := OwnSt.appI s12.out HRA.out (by have := HLN.out; omega) 24
            have s13 := Lib.hid t13
            clear t13 hrw13
            rw [if_pos (by rfl)]
            refine op_app _ _ _ rfl rfl rfl hrun13 ?_
            refine hK.out _ _ ⟨s13.out.rp.c1, s13.out.rp.c2⟩ (fun hHeld => ?_)
            clear hK K hrun13
            (try simp only [Act.put, List.getElem_toArray, List.getElem_cons_zero, List.getElem_cons_succ, List.setIfInBounds_toArray, List.set_cons_zero, List.set_cons_succ])
            obtain ⟨_, ⟨pb, qb, hpb⟩, ⟨pc, qc, hpc⟩⟩ := s13.out.ow.shapes
            simp only [] at hpb hpc
            subst hpb
            subst hpc
            refine wpAnyH_take (i := 8) (v := ?va8x8) rfl (by kernel_rfl) (by kernel_rfl) (by kernel_rfl) (fun _ _ _ h => h) (Or.inl ⟨by rfl, ?hy8x8⟩) (by assumption) ?rest8x8
            case hy8x8 => (intro w hSw; (try dsimp only at hSw); go_simp; try with_reducible rfl)
            (try simp only [Act.put, List.getElem_toArray, List.getElem_cons_zero, List.getElem_cons_succ, List.setIfInBounds_toArray, List.set_cons_zero, List.set_cons_succ])
            refine wpAnyH_ready (rs := [9]) (by kernel_rfl) (by simp) ?_
            refine AllReadyH.cons rfl (fun K hK => ?_) AllReadyH.nil
            clear hHeld
            have s14 := Lib.hid (OwnSt.allocC s13.out)
            have hc14 := Lib.hid (show RowH (x13.alloc (.cells (c3 (.slice none 0 0) (.slice none 0 0) (.slice none 0 0)) 32)) x13.heap.size (.slice none 0 0) (.slice none 0 0) (.slice none 0 0) from Row.new x13 _ _)
            go_simp
            refine hK.out _ _ ⟨s14.out.rp.c1, s14.out.rp.c2⟩ (fun hHeld => ?_)
            clear hK K
            (try simp only [Act.put, List.getElem_toArray, List.getElem_cons_zero, List.getElem_cons_succ, List.setIfInBounds_toArray, List.set_cons_zero, List.set_cons_succ])
            have hd14 : Hid (w.heap.size + 2 ≤ x13.heap.size) := s13.out.sz
            generalize x13.heap.size = g14 at *
            generalize x13.alloc (.cells (c3 (.slice none 0 0) (.slice none 0 0) (.slice none 0 0)) 32) = x14 at *
            have z0 := hc14.out.c0
            have z1 := hc14.out.c1
            have z2 := hc14.out.c2
            have f0 := Row.frozen hc14.out 0
            have f1 := Row.frozen hc14.out 1
            have f2 := Row.frozen hc14.out 2
            have hne : w.heap.size ≠ g14 := by have := hd14.out; omega
            have hne1 : w.heap.size + 1 ≠ g14 := by have := hd14.out; omega
            have HST : Hid (OwnSt w (((x14.setCell ⟨g14, 0, none⟩ (.slice none 0 0)).setCell ⟨g14, 1, none⟩ (.slice pb h.l.length qb)).setCell ⟨g14, 2, none⟩ (.slice pc h.r.length qc)) (.slice fa h.f.length fc) (.slice la h.l.length lc) (.slice ra h.r.length rc) (.slice pb h.l.length qb) (.slice pc h.r.length qc) h.l h.r) := own_store s14.out hc14.out hd14.out _ _ _
            have HRC := Lib.hid (hc14.out.set3 (.slice none 0 0) (.slice pb h.l.length qb) (.slice pc h.r.length qc))
            clear hHeld
            refine wpAnyH_ready (rs := [10]) (by kernel_rfl) (by simp) ?_
            refine AllReadyH.cons rfl (fun K hK => ?_) AllReadyH.nil
            go_simp
            refine hK.out _ _ ⟨HST.out.rp.c1, HST.out.rp.c2⟩ (fun hHeld => ?_)
            clear hK K z0 z1 z2 f0 f1 f2
            (try simp only [Act.put, List.getElem_toArray, List.getElem_cons_zero, List.getElem_cons_succ, List.setIfInBounds_toArray, List.set_cons_zero, List.set_cons_succ])
            refine wpAnyH_done (by kernel_rfl) ?_ _
            go_wp2_with fail
            go_meet
            case rel => exact ⟨g14, pb, qb, pc, qc, rfl, HRC, HST, hd14⟩
          · skip
            clear hHeld
            have s15 := Lib.hid (OwnSt.allocC s12.out)
            have hc15 := Lib.hid (show RowH (x12.alloc (.cells (c3 (.slice none 0 0) (.slice none 0 0) (.slice none 0 0)) 32)) x12.heap.size (.slice none 0 0) (.slice none 0 0) (.slice none 0 0) from Row.new x12 _ _)
            go_simp
            refine hK.out _ _ ⟨s15.out.rp.c1, s15.out.rp.c2⟩ (fun hHeld => ?_)
            clear hK K
            (try simp only [Act.put, List.getElem_toArray, List.getElem_cons_zero, List.getElem_cons_succ, List.setIfInBounds_toArray, List.set_cons_zero, List.set_cons_succ])
            have hd15 : Hid (w.heap.size + 2 ≤ x12.heap.size) := s12.out.sz
            generalize x12.heap.size = g15 at *
            generalize x12.alloc (.cells (c3 (.slice none 0 0) (.slice none 0 0) (.slice none 0 0)) 32) = x15 at *
            refine wpAnyH_ready (rs := [7]) (by kernel_rfl) (by simp) ?_
            refine AllReadyH.cons rfl (fun K hK => ?_) AllReadyH.nil
            clear hHeld
            obtain ⟨y16, x16, hrun16, t16, hrw16⟩ := OwnSt.appI s15.out HRA.out (by have := HLN.out; omega) 24
            have hc16 := Lib.hid (hrw16 _ _ _ _ hc15.out)
            have s16 := Lib.hid t16
            clear t16 hrw16
            rw [if_pos (by rfl)]
            refine op_app _ _ _ rfl rfl rfl hrun16 ?_
            refine hK.out _ _ ⟨s16.out.rp.c1, s16.out.rp.c2⟩ (fun hHeld => ?_)
            clear hK K hrun16
            (try simp only [Act.put, List.getElem_toArray, List.getElem_cons_zero, List.getElem_cons_succ, List.setIfInBounds_toArray, List.set_cons_zero, List.set_cons_succ])
            obtain ⟨_, ⟨pb, qb, hpb⟩, ⟨pc, qc, hpc⟩⟩ := s16.out.ow.shapes
            simp only [] at hpb hpc
            subst hpb
            subst hpc
            refine wpAnyH_take (i := 8) (v := ?va8x9) rfl (by kernel_rfl) (by kernel_rfl) (by kernel_rfl) (fun _ _ _ h => h) (Or.inl ⟨by rfl, ?hy8x9⟩) (by assumption) ?rest8x9
            case hy8x9 => (intro w hSw; (try dsimp only at hSw); go_simp; try with_reducible rfl)
            (try simp only [Act.put, List.getElem_toArray, List.getElem_cons_zero, List.getElem_cons_succ, List.setIfInBounds_toArray, List.set_cons_zero, List.set_cons_succ])
            have z0 := hc16.out.c0
            have z1 := hc16.out.c1
            have z2 := hc16.out.c2
            have f0 := Row.frozen hc16.out 0
            have f1 := Row.frozen hc16.out 1
            have f2 := Row.frozen hc16.out 2
            have hne : w.heap.size ≠ g15 := by have := hd15.out; omega
            have hne1 : w.heap.size + 1 ≠ g15 := by have := hd15.out; omega
            have HST : Hid (OwnSt w (((x16.setCell ⟨g15, 0, none⟩ (.slice none 0 0)).setCell ⟨g15, 1, none⟩ (.slice pb h.l.length qb)).setCell ⟨g15, 2, none⟩ (.slice pc h.r.length qc)) (.slice fa h.f.length fc) (.slice la h.l.length lc) (.slice ra h.r.length rc) (.slice pb h.l.length qb) (.slice pc h.r.length qc) h.l h.r) := own_store s16.out hc16.out hd15.out _ _ _
            have HRC := Lib.hid (hc16.out.set3 (.slice none 0 0) (.slice pb h.l.length qb) (.slice pc h.r.length qc))
            clear hHeld
            refine wpAnyH_ready (rs := [10]) (by kernel_rfl) (by simp) ?_
            refine AllReadyH.cons rfl (fun K hK => ?_) AllReadyH.nil
            go_simp
            refine hK.out _ _ ⟨HST.out.rp.c1, HST.out.rp.c2⟩ (fun hHeld => ?_)
            clear hK K z0 z1 z2 f0 f1 f2
            (try simp only [Act.put, List.getElem_toArray, List.getElem_cons_zero, List.getElem_cons_succ, List.setIfInBounds_toArray, List.set_cons_zero, List.set_cons_succ])
            refine wpAnyH_done (by kernel_rfl) ?_ _
            go_wp2_with fail
            go_meet
            case rel => exact ⟨g15, pb, qb, pc, qc, rfl, HRC, HST, hd15⟩
        · skip
          clear hHeld
          have s17 := Lib.hid (OwnSt.allocC s11.out)
          have hc17 := Lib.hid (show RowH (x11.alloc (.cells (c3 (.slice none 0 0) (.slice none 0 0) (.slice none 0 0)) 32)) x11.heap.size (.slice none 0 0) (.slice none 0 0) (.slice none 0 0) from Row.new x11 _ _)
          go_simp
          refine hK.out _ _ ⟨s17.out.rp.c1, s17.out.rp.c2⟩ (fun hHeld => ?_)
          clear hK K
          (try simp only [Act.put, List.getElem_toArray, List.getElem_cons_zero, List.getElem_cons_succ, List.setIfInBounds_toArray, List.set_cons_zero, List.set_cons_succ])
          have hd17 : Hid (w.heap.size + 2 ≤ x11.heap.size) := s11.out.sz
          generalize x11.heap.size = g17 at *
          generalize x11.alloc (.cells (c3 (.slice none 0 0) (.slice none 0 0) (.slice none 0 0)) 32) = x17 at *
          refine wpAnyH_ready (rs := [3]) (by kernel_rfl) (by simp) ?_
          refine AllReadyH.cons rfl (fun K hK => ?_) AllReadyH.nil
          clear hHeld
          obtain ⟨y18, x18, hrun18, t18, hrw18⟩ := OwnSt.appB s17.out HLA.out (by have := HLN.out; omega) 23
          have hc18 := Lib.hid (hrw18 _ _ _ _ hc17.out)
          have s18 := Lib.hid t18
          clear t18 hrw18
          rw [if_pos (by rfl)]
          refine op_app _ _ _ rfl rfl rfl hrun18 ?_
          refine hK.out _ _ ⟨s18.out.rp.c1, s18.out.rp.c2⟩ (fun hHeld => ?_)
          clear hK K hrun18
          (try simp only [Act.put, List.getElem_toArray, List.getElem_cons_zero, List.getElem_cons_succ, List.setIfInBounds_toArray, List.set_cons_zero, List.set_cons_succ])
          refine wpAnyH_ready (rs := [7]) (by kernel_rfl) (by simp) ?_
          refine AllReadyH.cons rfl (fun K hK => ?_) AllReadyH.nil
          clear hHeld
          obtain ⟨y19, x19, hrun19, t19, hrw19⟩ := OwnSt.appI s18.out HRA.out (by have := HLN.out; omega) 24
          have hc19 := Lib.hid (hrw19 _ _ _ _ hc18.out)
          have s19 := Lib.hid t19
          clear t19 hrw19
          rw [if_pos (by rfl)]
          refine op_app _ _ _ rfl rfl rfl hrun19 ?_
          refine hK.out _ _ ⟨s19.out.rp.c1, s19.out.rp.c2⟩ (fun hHeld => ?_)
          clear hK K hrun19
          (try simp only [Act.put, List.getElem_toArray, List.getElem_cons_zero, List.getElem_cons_succ, List.setIfInBounds_toArray, List.set_cons_zero, List.set_cons_succ])
          obtain ⟨_, ⟨pb, qb, hpb⟩, ⟨pc, qc, hpc⟩⟩ := s19.out.ow.shapes
          simp only [] at hpb hpc
          subst hpb
          subst hpc
          refine wpAnyH_take (i := 8) (v := ?va8x10) rfl (by kernel_rfl) (by kernel_rfl) (by kernel_rfl) (fun _ _ _ h => h) (Or.inl ⟨by rfl, ?hy8x10⟩) (by assumption) ?rest8x10
          case hy8x10 => (intro w hSw; (try dsimp only at hSw); go_simp; try with_reducible rfl)
          (try simp only [Act.put, List.getElem_toArray, List.getElem_cons_zero, List.getElem_cons_succ, List.setIfInBounds_toArray, List.set_cons_zero, List.set_cons_succ])
          have z0 := hc19.out.c0
          have z1 := hc19.out.c1
          have z2 := hc19.out.c2
          have f0 := Row.frozen hc19.out 0
          have f1 := Row.frozen hc19.out 1
          have f2 := Row.frozen hc19.out 2
          have hne : w.heap.size ≠ g17 := by have := hd17.out; omega
          have hne1 : w.heap.size + 1 ≠ g17 := by have := hd17.out; omega
          have HST : Hid (OwnSt w (((x19.setCell ⟨g17, 0, none⟩ (.slice none 0 0)).setCell ⟨g17, 1, none⟩ (.slice pb h.l.length qb)).setCell ⟨g17, 2, none⟩ (.slice pc h.r.length qc)) (.slice fa h.f.length fc) (.slice la h.l.length lc) (.slice ra h.r.length rc) (.slice pb h.l.length qb) (.slice pc h.r.length qc) h.l h.r) := own_store s19.out hc19.out hd17.out _ _ _
          have HRC := Lib.hid (hc19.out.set3 (.slice none 0 0) (.slice pb h.l.length qb) (.slice pc h.r.length qc))
          clear hHeld
          refine wpAnyH_ready (rs := [10]) (by kernel_rfl) (by simp) ?_
          refine AllReadyH.cons rfl (fun K hK => ?_) AllReadyH.nil
          go_simp
          refine hK.out _ _ ⟨HST.out.rp.c1, HST.out.rp.c2⟩ (fun hHeld => ?_)
          clear hK K z0 z1 z2 f0 f1 f2
          (try simp only [Act.put, List.getElem_toArray, List.getElem_cons_zero, List.getElem_cons_succ, List.setIfInBounds_toArray, List.set_cons_zero, List.set_cons_succ])
          refine wpAnyH_done (by kernel_rfl) ?_ _
          go_wp2_with fail
          go_meet
          case rel => exact ⟨g17, pb, qb, pc, qc, rfl, HRC, HST, hd17⟩
      · skip
        clear hHeld
        have s20 := Lib.hid (OwnSt.allocC s1.out)
        have hc20 := Lib.hid (show RowH (x1.alloc (.cells (c3 (.slice none 0 0) (.slice none 0 0) (.slice none 0 0)) 32)) x1.heap.size (.slice none 0 0) (.slice none 0 0) (.slice none 0 0) from Row.new x1 _ _)
        go_simp
        refine hK.out _ _ ⟨s20.out.rp.c1, s20.out.rp.c2⟩ (fun hHeld => ?_)
        clear hK K
        (try simp only [Act.put, List.getElem_toArray, List.getElem_cons_zero, List.getElem_cons_succ, List.setIfInBounds_toArray, List.set_cons_zero, List.set_cons_succ])
        have hd20 : Hid (w.heap.size + 2 ≤ x1.heap.size) := s1.out.sz
        generalize x1.heap.size = g20 at *
        generalize x1.alloc (.cells (c3 (.slice none 0 0) (.slice none 0 0) (.slice none 0 0)) 32) = x20 at *
        refine wpAnyH_ready (rs := [3, 4]) (by kernel_rfl) (by simp) ?_
        refine AllReadyH.cons rfl (fun K hK => ?_) (AllReadyH.cons rfl (fun K hK => ?_) AllReadyH.nil)
        · skip
          clear hHeld
          obtain ⟨y21, x21, hrun21, t21, hrw21⟩ := OwnSt.appB s20.out HLA.out (by have := HLN.out; omega) 23
          have hc21 := Lib.hid (hrw21 _ _ _ _ hc20.out)
          have s21 := Lib.hid t21
          clear t21 hrw21
          rw [if_pos (by rfl)]
          refine op_app _ _ _ rfl rfl rfl hrun21 ?_
          refine hK.out _ _ ⟨s21.out.rp.c1, s21.out.rp.c2⟩ (fun hHeld => ?_)
          clear hK K hrun21
          (try simp only [Act.put, List.getElem_toArray, List.getElem_cons_zero, List.getElem_cons_succ, List.setIfInBounds_toArray, List.set_cons_zero, List.set_cons_succ])
          refine wpAnyH_ready (rs := [4]) (by kernel_rfl) (by simp) ?_
          refine AllReadyH.cons rfl (fun K hK => ?_) AllReadyH.nil
          clear hHeld
          have s22 := Lib.hid (OwnSt.allocI s21.out)
          have hc22 := Lib.hid (show RowH _ _ (.slice none 0 0) (.slice none 0 0) (.slice none 0 0) from Row.alloc hc21.out (.cells #[] 3))
          go_simp
          refine hK.out _ _ ⟨s22.out.rp.c1, s22.out.rp.c2⟩ (fun hHeld => ?_)
          clear hK K
          (try simp only [Act.put, List.getElem_toArray, List.getElem_cons_zero, List.getElem_cons_succ, List.setIfInBounds_toArray, List.set_cons_zero, List.set_cons_succ])
          generalize hv22 : Value.slice (some ⟨x21.heap.size, 0, none⟩) 0 0 = y22 at *
          clear hv22
          generalize x21.alloc (.cells #[] 3) = x22 at *
          refine wpAnyH_ready (rs := [7]) (by kernel_rfl) (by simp) ?_
          refine AllReadyH.cons rfl (fun K hK => ?_) AllReadyH.nil
          clear hHeld
          obtain ⟨y23, x23, hrun23, t23, hrw23⟩ := OwnSt.appI s22.out HRA.out (by have := HLN.out; omega) 24
          have hc23 := Lib.hid (hrw23 _ _ _ _ hc22.out)
          have s23 := Lib.hid t23
          clear t23 hrw23
          rw [if_pos (by rfl)]
          refine op_app _ _ _ rfl rfl rfl hrun23 ?_
          refine hK.out _ _ ⟨s23.out.rp.c1, s23.out.rp.c2⟩ (fun hHeld => ?_)
          clear hK K hrun23
          (try simp only [Act.put, List.getElem_toArray, List.getElem_cons_zero, List.getElem_cons_succ, List.setIfInBounds_toArray, List.set_cons_zero, List.set_cons_succ])
          obtain ⟨_, ⟨pb, qb, hpb⟩, ⟨pc, qc, hpc⟩⟩ := s23.out.ow.shapes
          simp only [] at hpb hpc
          subst hpb
          subst hpc
          refine wpAnyH_take (i := 8) (v := ?va8x11) rfl (by kernel_rfl) (by kernel_rfl) (by kernel_rfl) (fun _ _ _ h => h) (Or.inl ⟨by rfl, ?hy8x11⟩) (by assumption) ?rest8x11
          case hy8x11 => (intro w hSw; (try dsimp only at hSw); go_simp; try with_reducible rfl)
          (try simp only [Act.put, List.getElem_toArray, List.getElem_cons_zero, List.getElem_cons_succ, List.setIfInBounds_toArray, List.set_cons_zero, List.set_cons_succ])
          have z0 := hc23.out.c0
          have z1 := hc23.out.c1
          have z2 := hc23.out.c2
          have f0 := Row.frozen hc23.out 0
          have f1 := Row.frozen hc23.out 1
          have f2 := Row.frozen hc23.out 2
          have hne : w.heap.size ≠ g20 := by have := hd20.out; omega
          have hne1 : w.heap.size + 1 ≠ g20 := by have := hd20.out; omega
          have HST : Hid (OwnSt w (((x23.setCell ⟨g20, 0, none⟩ (.slice none 0 0)).setCell ⟨g20, 1, none⟩ (.slice pb h.l.length qb)).setCell ⟨g20, 2, none⟩ (.slice pc h.r.length qc)) (.slice fa h.f.length fc) (.slice la h.l.length lc) (.slice ra h.r.length rc) (.slice pb h.l.length qb) (.slice pc h.r.length qc) h.l h.r) := own_store s23.out hc23.out hd20.out _ _ _
          have HRC := Lib.hid (hc23.out.set3 (.slice none 0 0) (.slice pb h.l.length qb) (.slice pc h.r.length qc))
          clear hHeld
          refine wpAnyH_ready (rs := [10]) (by kernel_rfl) (by simp) ?_
          refine AllReadyH.cons rfl (fun K hK => ?_) AllReadyH.nil
          go_simp
          refine hK.out _ _ ⟨HST.out.rp.c1, HST.out.rp.c2⟩ (fun hHeld => ?_)
          clear hK K z0 z1 z2 f0 f1 f2
          (try simp only [Act.put, List.getElem_toArray, List.getElem_cons_zero, List.getElem_cons_succ, List.setIfInBounds_toArray, List.set_cons_zero, List.set_cons_succ])
          refine wpAnyH_done (by kernel_rfl) ?_ _
          go_wp2_with fail
          go_meet
          case rel => exact ⟨g20, pb, qb, pc, qc, rfl, HRC, HST, hd20⟩
        · skip
          clear hHeld
          have s24 := Lib.hid (OwnSt.allocI s20.out)
          have hc24 := Lib.hid (show RowH _ _ (.slice none 0 0) (.slice none 0 0) (.slice none 0 0) from Row.alloc hc20.out (.cells #[] 3))
          go_simp
          refine hK.out _ _ ⟨s24.out.rp.c1, s24.out.rp.c2⟩ (fun hHeld => ?_)
          clear hK K
          (try simp only [Act.put, List.getElem_toArray, List.getElem_cons_zero, List.getElem_cons_succ, List.setIfInBounds_toArray, List.set_cons_zero, List.set_cons_succ])
          generalize hv24 : Value.slice (some ⟨x20.heap.size, 0, none⟩) 0 0 = y24 at *
          clear hv24
          generalize x20.alloc (.cells #[] 3) = x24 at *
          refine wpAnyH_ready (rs := [3]) (by kernel_rfl) (by simp) ?_
          refine AllReadyH.cons rfl (fun K hK => ?_) AllReadyH.nil
          clear hHeld
          obtain ⟨y25, x25, hrun25, t25, hrw25⟩ := OwnSt.appB s24.out HLA.out (by have := HLN.out; omega) 23
          have hc25 := Lib.hid (hrw25 _ _ _ _ hc24.out)
          have s25 := Lib.hid t25
          clear t25 hrw25
          rw [if_pos (by rfl)]
          refine op_app _ _ _ rfl rfl rfl hrun25 ?_
          refine hK.out _ _ ⟨s25.out.rp.c1, s25.out.rp.c2⟩ (fun hHeld => ?_)
          clear hK K hrun25
          (try simp only [Act.put, List.getElem_toArray, List.getElem_cons_zero, List.getElem_cons_succ, List.setIfInBounds_toArray, List.set_cons_zero, List.set_cons_succ])
          refine wpAnyH_ready (rs := [7]) (by kernel_rfl) (by simp) ?_
          refine AllReadyH.cons rfl (fun K hK => ?_) AllReadyH.nil
          clear hHeld
          obtain ⟨y26, x26, hrun26, t26, hrw26⟩ := OwnSt.appI s25.out HRA.out (by have := HLN.out; omega) 24
          have hc26 := Lib.hid (hrw26 _ _ _ _ hc25.out)
          have s26 := Lib.hid t26
          clear t26 hrw26
          rw [if_pos (by rfl)]
          refine op_app _ _ _ rfl rfl rfl hrun26 ?_
          refine hK.out _ _ ⟨s26.out.rp.c1, s26.out.rp.c2⟩ (fun hHeld => ?_)
          clear hK K hrun26
          (try simp only [Act.put, List.getElem_toArray, List.getElem_cons_zero, List.getElem_cons_succ, List.setIfInBounds_toArray, List.set_cons_zero, List.set_cons_succ])
          obtain ⟨_, ⟨pb, qb, hpb⟩, ⟨pc, qc, hpc⟩⟩ := s26.out.ow.shapes
          simp only [] at hpb hpc
          subst hpb
          subst hpc
          refine wpAnyH_take (i := 8) (v := ?va8x12) rfl (by kernel_rfl) (by kernel_rfl) (by kernel_rfl) (fun _ _ _ h => h) (Or.inl ⟨by rfl, ?hy8x12⟩) (by assumption) ?rest8x12
          case hy8x12 => (intro w hSw; (try dsimp only at hSw); go_simp; try with_reducible rfl)
          (try simp only [Act.put, List.getElem_toArray, List.getElem_cons_zero, List.getElem_cons_succ, List.setIfInBounds_toArray, List.set_cons_zero, List.set_cons_succ])
          have z0 := hc26.out.c0
          have z1 := hc26.out.c1
          have z2 := hc26.out.c2
          have f0 := Row.frozen hc26.out 0
          have f1 := Row.frozen hc26.out 1
          have f2 := Row.frozen hc26.out 2
          have hne : w.heap.size ≠ g20 := by have := hd20.out; omega
          have hne1 : w.heap.size + 1 ≠ g20 := by have := hd20.out; omega
          have HST : Hid (OwnSt w (((x26.setCell ⟨g20, 0, none⟩ (.slice none 0 0)).setCell ⟨g20, 1, none⟩ (.slice pb h.l.length qb)).setCell ⟨g20, 2, none⟩ (.slice pc h.r.length qc)) (.slice fa h.f.length fc) (.slice la h.l.length lc) (.slice ra h.r.length rc) (.slice pb h.l.length qb) (.slice pc h.r.length qc) h.l h.r) := own_store s26.out hc26.out hd20.out _ _ _
          have HRC := Lib.hid (hc26.out.set3 (.slice none 0 0) (.slice pb h.l.length qb) (.slice pc h.r.length qc))
          clear hHeld
          refine wpAnyH_ready (rs := [10]) (by kernel_rfl) (by simp) ?_
          refine AllReadyH.cons rfl (fun K hK => ?_) AllReadyH.nil
          go_simp
          refine hK.out _ _ ⟨HST.out.rp.c1, HST.out.rp.c2⟩ (fun hHeld => ?_)
          clear hK K z0 z1 z2 f0 f1 f2
          (try simp only [Act.put, List.getElem_toArray, List.getElem_cons_zero, List.getElem_cons_succ, List.setIfInBounds_toArray, List.set_cons_zero, List.set_cons_succ])
          refine wpAnyH_done (by kernel_rfl) ?_ _
          go_wp2_with fail
          go_meet
          case rel => exact ⟨g20, pb, qb, pc, qc, rfl, HRC, HST, hd20⟩
    · skip
      clear hHeld
      have s27 := Lib.hid (OwnSt.allocI s0.out)
      go_simp
      refine hK.out _ _ ⟨s27.out.rp.c1, s27.out.rp.c2⟩ (fun hHeld => ?_)
      clear hK K
      (try simp only [Act.put, List.getElem_toArray, List.getElem_cons_zero, List.getElem_cons_succ, List.setIfInBounds_toArray, List.set_cons_zero, List.set_cons_succ])
      generalize hv27 : Value.slice (some ⟨x0.heap.size, 0, none⟩) 0 0 = y27 at *
      clear hv27
      generalize x0.alloc (.cells #[] 3) = x27 at *
      refine wpAnyH_ready (rs := [0, 9]) (by kernel_rfl) (by simp) ?_
      refine AllReadyH.cons rfl (fun K hK => ?_) (AllReadyH.cons rfl (fun K hK => ?_) AllReadyH.nil)
      · skip
        clear hHeld
        have s28 := Lib.hid (OwnSt.allocB s27.out)
        go_simp
        refine hK.out _ _ ⟨s28.out.rp.c1, s28.out.rp.c2⟩ (fun hHeld => ?_)
        clear hK K
        (try simp only [Act.put, List.getElem_toArray, List.getElem_cons_zero, List.setIfInBounds_toArray, List.set_cons_zero, List.set_cons_succ])
        generalize hv28 : Value.slice (some ⟨x27.heap.size, 0, none⟩) 0 0 = y28 at *
        clear hv28
        generalize x27.alloc (.cells #[] 4) = x28 at *
        refine wpAnyH_ready (rs := [3, 9]) (by kernel_rfl) (by simp) ?_
        refine AllReadyH.cons rfl (fun K hK => ?_) (AllReadyH.cons rfl (fun K hK => ?_) AllReadyH.nil)
        · skip
          clear hHeld
          obtain ⟨y29, x29, hrun29, t29, hrw29⟩ := OwnSt.appB s28.out HLA.out (by have := HLN.out; omega) 23
          have s29 := Lib.hid t29
          clear t29 hrw29
          rw [if_pos (by rfl)]
          refine op_app _ _ _ rfl rfl rfl hrun29 ?_
          refine hK.out _ _ ⟨s29.out.rp.c1, s29.out.rp.c2⟩ (fun hHeld => ?_)
          clear hK K hrun29
          (try simp only [Act.put, List.getElem_toArray, List.getElem_cons_zero, List.getElem_cons_succ, List.setIfInBounds_toArray, List.set_cons_zero, List.set_cons_succ])
          refine wpAnyH_ready (rs := [7, 9]) (by kernel_rfl) (by simp) ?_
          refine AllReadyH.cons rfl (fun K hK => ?_) (AllReadyH.cons rfl (fun K hK => ?_) AllReadyH.nil)
          · skip
            clear hHeld
            obtain ⟨y30, x30, hrun30, t30, hrw30⟩ := OwnSt.appI s29.out HRA.out (by have := HLN.out; omega) 24
            have s30 := Lib.hid t30
            clear t30 hrw30
            rw [if_pos (by rfl)]
            refine op_app _ _ _ rfl rfl rfl hrun30 ?_
            refine hK.out _ _ ⟨s30.out.rp.c1, s30.out.rp.c2⟩ (fun hHeld => ?_)
            clear hK K hrun30
            (try simp only [Act.put, List.getElem_toArray, List.getElem_cons_zero, List.getElem_cons_succ, List.setIfInBounds_toArray, List.set_cons_zero, List.set_cons_succ])
            obtain ⟨_, ⟨pb, qb, hpb⟩, ⟨pc, qc, hpc⟩⟩ := s30.out.ow.shapes
            simp only [] at hpb hpc
            subst hpb
            subst hpc
            refine wpAnyH_take (i := 8) (v := ?va8x13) rfl (by kernel_rfl) (by kernel_rfl) (by kernel_rfl) (fun _ _ _ h => h) (Or.inl ⟨by rfl, ?hy8x13⟩) (by assumption) ?rest8x13
            case hy8x13 => (intro w hSw; (try dsimp only at hSw); go_simp; try with_reducible rfl)
            (try simp only [Act.put, List.getElem_toArray, List.getElem_cons_zero, List.getElem_cons_succ, List.setIfInBounds_toArray, List.set_cons_zero, List.set_cons_succ])
            refine wpAnyH_ready (rs := [9]) (by kernel_rfl) (by simp) ?_
            refine AllReadyH.cons rfl (fun K hK => ?_) AllReadyH.nil
            clear hHeld
            have s31 := Lib.hid (OwnSt.allocC s30.out)
            have hc31 := Lib.hid (show RowH (x30.alloc (.cells (c3 (.slice none 0 0) (.slice none 0 0) (.slice none 0 0)) 32)) x30.heap.size (.slice none 0 0) (.slice none 0 0) (.slice none 0 0) from Row.new x30 _ _)
            go_simp
            refine hK.out _ _ ⟨s31.out.rp.c1, s31.out.rp.c2⟩ (fun hHeld => ?_)
            clear hK K
            (try simp only [Act.put, List.getElem_toArray, List.getElem_cons_zero, List.getElem_cons_succ, List.setIfInBounds_toArray, List.set_cons_zero, List.set_cons_succ])
            have hd31 : Hid (w.heap.size + 2 ≤ x30.heap.size) := s30.out.sz
            generalize x30.heap.size = g31 at *
            generalize x30.alloc (.cells (c3 (.slice none 0 0) (.slice none 0 0) (.slice none 0 0)) 32) = x31 at *
            have z0 := hc31.out.c0
            have z1 := hc31.out.c1
            have z2 := hc31.out.c2
            have f0 := Row.frozen hc31.out 0
            have f1 := Row.frozen hc31.out 1
            have f2 := Row.frozen hc31.out 2
            have hne : w.heap.size ≠ g31 := by have := hd31.out; omega
            have hne1 : w.heap.size + 1 ≠ g31 := by have := hd31.out; omega
            have HST : Hid (OwnSt w (((x31.setCell ⟨g31, 0, none⟩ (.slice none 0 0)).setCell ⟨g31, 1, none⟩ (.slice pb h.l.length qb)).setCell ⟨g31, 2, none⟩ (.slice pc h.r.length qc)) (.slice fa h.f.length fc) (.slice la h.l.length lc) (.slice ra h.r.length rc) (.slice pb h.l.length qb) (.slice pc h.r.length qc) h.l h.r) := own_store s31.out hc31.out hd31.out _ _ _
            have HRC := Lib.hid (hc31.out.set3 (.slice none 0 0) (.slice pb h.l.length qb) (.slice pc h.r.length qc))
            clear hHeld
            refine wpAnyH_ready (rs := [10]) (by kernel_rfl) (by simp) ?_
            refine AllReadyH.cons rfl (fun K hK => ?_) AllReadyH.nil
            go_simp
            refine hK.out _ _ ⟨HST.out.rp.c1, HST.out.rp.c2⟩ (fun hHeld => ?_)
            clear hK K z0 z1 z2 f0 f1 f2
            (try simp only [Act.put, List.getElem_toArray, List.getElem_cons_zero, List.getElem_cons_succ, List.setIfInBounds_toArray, List.set_cons_zero, List.set_cons_succ])
            refine wpAnyH_done (by kernel_rfl) ?_ _
            go_wp2_with fail
            go_meet
            case rel => exact ⟨g31, pb, qb, pc, qc, rfl, HRC, HST, hd31⟩
          · skip
            clear hHeld
            have s32 := Lib.hid (OwnSt.allocC s29.out)
            have hc32 := Lib.hid (show RowH (x29.alloc (.cells (c3 (.slice none 0 0) (.slice none 0 0) (.slice none 0 0)) 32)) x29.heap.size (.slice none 0 0) (.slice none 0 0) (.slice none 0 0) from Row.new x29 _ _)
            go_simp
            refine hK.out _ _ ⟨s32.out.rp.c1, s32.out.rp.c2⟩ (fun hHeld => ?_)
            clear hK K
            (try simp only [Act.put, List.getElem_toArray, List.getElem_cons_zero, List.getElem_cons_succ, List.setIfInBounds_toArray, List.set_cons_zero, List.set_cons_succ])
            have hd32 : Hid (w.heap.size + 2 ≤ x29.heap.size) := s29.out.sz
            generalize x29.heap.size = g32 at *
            generalize x29.alloc (.cells (c3 (.slice none 0 0) (.slice none 0 0) (.slice none 0 0)) 32) = x32 at *
            refine wpAnyH_ready (rs := [7]) (by kernel_rfl) (by simp) ?_
            refine AllReadyH.cons rfl (fun K hK => ?_) AllReadyH.nil
            clear hHeld
            obtain ⟨y33, x33, hrun33, t33, hrw33⟩ := OwnSt.appI s32.out HRA.out (by have := HLN.out; omega) 24
            have hc33 := Lib.hid (hrw33 _ _ _ _ hc32.out)
            have s33 := Lib.hid t33
            clear t33 hrw33
            rw [if_pos (by rfl)]
            refine op_app _ _ _ rfl rfl rfl hrun33 ?_
            refine hK.out _ _ ⟨s33.out.rp.c1, s33.out.rp.c2⟩ (fun hHeld => ?_)
            clear hK K hrun33
            (try simp only [Act.put, List.getElem_toArray, List.getElem_cons_zero, List.getElem_cons_succ, List.setIfInBounds_toArray, List.set_cons_zero, List.set_cons_succ])
            obtain ⟨_, ⟨pb, qb, hpb⟩, ⟨pc, qc, hpc⟩⟩ := s33.out.ow.shapes
            simp only [] at hpb hpc
            subst hpb
            subst hpc
            refine wpAnyH_take (i := 8) (v := ?va8x14) rfl (by kernel_rfl) (by kernel_rfl) (by kernel_rfl) (fun _ _ _ h => h) (Or.inl ⟨by rfl, ?hy8x14⟩) (by assumption) ?rest8x14
            case hy8x14 => (intro w hSw; (try dsimp only at hSw); go_simp; try with_reducible rfl)
            (try simp only [Act.put, List.getElem_toArray, List.getElem_cons_zero, List.getElem_cons_succ, List.setIfInBounds_toArray, List.set_cons_zero, List.set_cons_succ])
            have z0 := hc33.out.c0
            have z1 := hc33.out.c1
            have z2 := hc33.out.c2
            have f0 := Row.frozen hc33.out 0
            have f1 := Row.frozen hc33.out 1
            have f2 := Row.frozen hc33.out 2
            have hne : w.heap.size ≠ g32 := by have := hd32.out; omega
            have hne1 : w.heap.size + 1 ≠ g32 := by have := hd32.out; omega
            have HST : Hid (OwnSt w (((x33.setCell ⟨g32, 0, none⟩ (.slice none 0 0)).setCell ⟨g32, 1, none⟩ (.slice pb h.l.length qb)).setCell ⟨g32, 2, none⟩ (.slice pc h.r.length qc)) (.slice fa h.f.length fc) (.slice la h.l.length lc) (.slice ra h.r.length rc) (.slice pb h.l.length qb) (.slice pc h.r.length qc) h.l h.r) := own_store s33.out hc33.out hd32.out _ _ _
            have HRC := Lib.hid (hc33.out.set3 (.slice none 0 0) (.slice pb h.l.length qb) (.slice pc h.r.length qc))
            clear hHeld
            refine wpAnyH_ready (rs := [10]) (by kernel_rfl) (by simp) ?_
            refine AllReadyH.cons rfl (fun K hK => ?_) AllReadyH.nil
            go_simp
            refine hK.out _ _ ⟨HST.out.rp.c1, HST.out.rp.c2⟩ (fun hHeld => ?_)
            clear hK K z0 z1 z2 f0 f1 f2
            (try simp only [Act.put, List.getElem_toArray, List.getElem_cons_zero, List.getElem_cons_succ, List.setIfInBounds_toArray, List.set_cons_zero, List.set_cons_succ])
            refine wpAnyH_done (by kernel_rfl) ?_ _
            go_wp2_with fail
            go_meet
            case rel => exact ⟨g32, pb, qb, pc, qc, rfl, HRC, HST, hd32⟩
        · skip
          clear hHeld
          have s34 := Lib.hid (OwnSt.allocC s28.out)
          have hc34 := Lib.hid (show RowH (x28.alloc (.cells (c3 (.slice none 0 0) (.slice none 0 0) (.slice none 0 0)) 32)) x28.heap.size (.slice none 0 0) (.slice none 0 0) (.slice none 0 0) from Row.new x28 _ _)
          go_simp
          refine hK.out _ _ ⟨s34.out.rp.c1, s34.out.rp.c2⟩ (fun hHeld => ?_)
          clear hK K
          (try simp only [Act.put, List.getElem_toArray, List.getElem_cons_zero, List.getElem_cons_succ, List.setIfInBounds_toArray, List.set_cons_zero, List.set_cons_succ])
          have hd34 : Hid (w.heap.size + 2 ≤ x28.heap.size) := s28.out.sz
          generalize x28.heap.size = g34 at *
          generalize x28.alloc (.cells (c3 (.slice none 0 0) (.slice none 0 0) (.slice none 0 0)) 32) = x34 at *
          refine wpAnyH_ready (rs := [3]) (by kernel_rfl) (by simp) ?_
          refine AllReadyH.cons rfl (fun K hK => ?_) AllReadyH.nil
          clear hHeld
          obtain ⟨y35, x35, hrun35, t35, hrw35⟩ := OwnSt.appB s34.out HLA.out (by have := HLN.out; omega) 23
          have hc35 := Lib.hid (hrw35 _ _ _ _ hc34.out)
          have s35 := Lib.hid t35
          clear t35 hrw35
          rw [if_pos (by rfl)]
          refine op_app _ _ _ rfl rfl rfl hrun35 ?_
          refine hK.out _ _ ⟨s35.out.rp.c1, s35.out.rp.c2⟩ (fun hHeld => ?_)
          clear hK K hrun35
          (try simp only [Act.put, List.getElem_toArray, List.getElem_cons_zero, List.getElem_cons_succ, List.setIfInBounds_toArray, List.set_cons_zero, List.set_cons_succ])
          refine wpAnyH_ready (rs := [7]) (by kernel_rfl) (by simp) ?_
          refine AllReadyH.cons rfl (fun K hK => ?_) AllReadyH.nil
          clear hHeld
          obtain ⟨y36, x36, hrun36, t36, hrw36⟩ := OwnSt.appI s35.out HRA.out (by have := HLN.out; omega) 24
          have hc36 := Lib.hid (hrw36 _ _ _ _ hc35.out)
          have s36 := Lib.hid t36
          clear t36 hrw36
          rw [if_pos (by rfl)]
          refine op_app _ _ _ rfl rfl rfl hrun36 ?_
          refine hK.out _ _ ⟨s36.out.rp.c1, s36.out.rp.c2⟩ (fun hHeld => ?_)
          clear hK K hrun36
          (try simp only [Act.put, List.getElem_toArray, List.getElem_cons_zero, List.getElem_cons_succ, List.setIfInBounds_toArray, List.set_cons_zero, List.set_cons_succ])
          obtain ⟨_, ⟨pb, qb, hpb⟩, ⟨pc, qc, hpc⟩⟩ := s36.out.ow.shapes
          simp only [] at hpb hpc
          subst hpb
          subst hpc
          refine wpAnyH_take (i := 8) (v := ?va8x15) rfl (by kernel_rfl) (by kernel_rfl) (by kernel_rfl) (fun _ _ _ h => h) (Or.inl ⟨by rfl, ?hy8x15⟩) (by assumption) ?rest8x15
          case hy8x15 => (intro w hSw; (try dsimp only at hSw); go_simp; try with_reducible rfl)
          (try simp only [Act.put, List.getElem_toArray, List.getElem_cons_zero, List.getElem_cons_succ, List.setIfInBounds_toArray, List.set_cons_zero, List.set_cons_succ])
          have z0 := hc36.out.c0
          have z1 := hc36.out.c1
          have z2 := hc36.out.c2
          have f0 := Row.frozen hc36.out 0
          have f1 := Row.frozen hc36.out 1
          have f2 := Row.frozen hc36.out 2
          have hne : w.heap.size ≠ g34 := by have := hd34.out; omega
          have hne1 : w.heap.size + 1 ≠ g34 := by have := hd34.out; omega
          have HST : Hid (OwnSt w (((x36.setCell ⟨g34, 0, none⟩ (.slice none 0 0)).setCell ⟨g34, 1, none⟩ (.slice pb h.l.length qb)).setCell ⟨g34, 2, none⟩ (.slice pc h.r.length qc)) (.slice fa h.f.length fc) (.slice la h.l.length lc) (.slice ra h.r.length rc) (.slice pb h.l.length qb) (.slice pc h.r.length qc) h.l h.r) := own_store s36.out hc36.out hd34.out _ _ _
          have HRC := Lib.hid (hc36.out.set3 (.slice none 0 0) (.slice pb h.l.length qb) (.slice pc h.r.length qc))
          clear hHeld
          refine wpAnyH_ready (rs := [10]) (by kernel_rfl) (by simp) ?_
          refine AllReadyH.cons rfl (fun K hK => ?_) AllReadyH.nil
          go_simp
          refine hK.out _ _ ⟨HST.out.rp.c1, HST.out.rp.c2⟩ (fun hHeld => ?_)
          clear hK K z0 z1 z2 f0 f1 f2
          (try simp only [Act.put, List.getElem_toArray, List.getElem_cons_zero, List.getElem_cons_succ, List.setIfInBounds_toArray, List.set_cons_zero, List.set_cons_succ])
          refine wpAnyH_done (by kernel_rfl) ?_ _
          go_wp2_with fail
          go_meet
          case rel => exact ⟨g34, pb, qb, pc, qc, rfl, HRC, HST, hd34⟩
      · skip
        clear hHeld
        have s37 := Lib.hid (OwnSt.allocC s27.out)
        have hc37 := Lib.hid (show RowH (x27.alloc (.cells (c3 (.slice none 0 0) (.slice none 0 0) (.slice none 0 0)) 32)) x27.heap.size (.slice none 0 0) (.slice none 0 0) (.slice none 0 0) from Row.new x27 _ _)
        go_simp
        refine hK.out _ _ ⟨s37.out.rp.c1, s37.out.rp.c2⟩ (fun hHeld => ?_)
        clear hK K
        (try simp only [Act.put, List.getElem_toArray, List.getElem_cons_zero, List.getElem_cons_succ, List.setIfInBounds_toArray, List.set_cons_zero, List.set_cons_succ])
        have hd37 : Hid (w.heap.size + 2 ≤ x27.heap.size) := s27.out.sz
        generalize x27.heap.size = g37 at *
        generalize x27.alloc (.cells (c3 (.slice none 0 0) (.slice none 0 0) (.slice none 0 0)) 32) = x37 at *
        refine wpAnyH_ready (rs := [0]) (by kernel_rfl) (by simp) ?_
        refine AllReadyH.cons rfl (fun K hK => ?_) AllReadyH.nil
        clear hHeld
        have s38 := Lib.hid (OwnSt.allocB s37.out)
        have hc38 := Lib.hid (show RowH _ _ (.slice none 0 0) (.slice none 0 0) (.slice none 0 0) from Row.alloc hc37.out (.cells #[] 4))
        go_simp
        refine hK.out _ _ ⟨s38.out.rp.c1, s38.out.rp.c2⟩ (fun hHeld => ?_)
        clear hK K
        (try simp only [Act.put, List.getElem_toArray, List.getElem_cons_zero, List.setIfInBounds_toArray, List.set_cons_zero, List.set_cons_succ])
        generalize hv38 : Value.slice (some ⟨x37.heap.size, 0, none⟩) 0 0 = y38 at *
        clear hv38
        generalize x37.alloc (.cells #[] 4) = x38 at *
        refine wpAnyH_ready (rs := [3]) (by kernel_rfl) (by simp) ?_
        refine AllReadyH.cons rfl (fun K hK => ?_) AllReadyH.nil
        clear hHeld
        obtain ⟨y39, x39, hrun39, t39, hrw39⟩ := OwnSt.appB s38.out HLA.out (by have := HLN.out; omega) 23
        have hc39 := Lib.hid (hrw39 _ _ _ _ hc38.out)
        have s39 := Lib.hid t39
        clear t39 hrw39
        rw [if_pos (by rfl)]
        refine op_app _ _ _ rfl rfl rfl hrun39 ?_
        refine hK.out _ _ ⟨s39.out.rp.c1, s39.out.rp.c2⟩ (fun hHeld => ?_)
        clear hK K hrun39
        (try simp only [Act.put, List.getElem_toArray, List.getElem_cons_zero, List.getElem_cons_succ, List.setIfInBounds_toArray, List.set_cons_zero, List.set_cons_succ])
        refine wpAnyH_ready (rs := [7]) (by kernel_rfl) (by simp) ?_
        refine AllReadyH.cons rfl (fun K hK => ?_) AllReadyH.nil
        clear hHeld
        obtain ⟨y40, x40, hrun40, t40, hrw40⟩ := OwnSt.appI s39.out HRA.out (by have := HLN.out; omega) 24
        have hc40 := Lib.hid (hrw40 _ _ _ _ hc39.out)
        have s40 := Lib.hid t40
        clear t40 hrw40
        rw [if_pos (by rfl)]
        refine op_app _ _ _ rfl rfl rfl hrun40 ?_
        refine hK.out _ _ ⟨s40.out.rp.c1, s40.out.rp.c2⟩ (fun hHeld => ?_)
        clear hK K hrun40
        (try simp only [Act.put, List.getElem_toArray, List.getElem_cons_zero, List.getElem_cons_succ, List.setIfInBounds_toArray, List.set_cons_zero, List.set_cons_succ])
        obtain ⟨_, ⟨pb, qb, hpb⟩, ⟨pc, qc, hpc⟩⟩ := s40.out.ow.shapes
        simp only [] at hpb hpc
        subst hpb
        subst hpc
        refine wpAnyH_take (i := 8) (v := ?va8x16) rfl (by kernel_rfl) (by kernel_rfl) (by kernel_rfl) (fun _ _ _ h => h) (Or.inl ⟨by rfl, ?hy8x16⟩) (by assumption) ?rest8x16
        case hy8x16 => (intro w hSw; (try dsimp only at hSw); go_simp; try with_reducible rfl)
        (try simp only [Act.put, List.getElem_toArray, List.getElem_cons_zero, List.getElem_cons_succ, List.setIfInBounds_toArray, List.set_cons_zero, List.set_cons_succ])
        have z0 := hc40.out.c0
        have z1 := hc40.out.c1
        have z2 := hc40.out.c2
        have f0 := Row.frozen hc40.out 0
        have f1 := Row.frozen hc40.out 1
        have f2 := Row.frozen hc40.out 2
        have hne : w.heap.size ≠ g37 := by have := hd37.out; omega
        have hne1 : w.heap.size + 1 ≠ g37 := by have := hd37.out; omega
        have HST : Hid (OwnSt w (((x40.setCell ⟨g37, 0, none⟩ (.slice none 0 0)).setCell ⟨g37, 1, none⟩ (.slice pb h.l.length qb)).setCell ⟨g37, 2, none⟩ (.slice pc h.r.length qc)) (.slice fa h.f.length fc) (.slice la h.l.length lc) (.slice ra h.r.length rc) (.slice pb h.l.length qb) (.slice pc h.r.length qc) h.l h.r) := own_store s40.out hc40.out hd37.out _ _ _
        have HRC := Lib.hid (hc40.out.set3 (.slice none 0 0) (.slice pb h.l.length qb) (.slice pc h.r.length qc))
        clear hHeld
        refine wpAnyH_ready (rs := [10]) (by kernel_rfl) (by simp) ?_
        refine AllReadyH.cons rfl (fun K hK => ?_) AllReadyH.nil
        go_simp
        refine hK.out _ _ ⟨HST.out.rp.c1, HST.out.rp.c2⟩ (fun hHeld => ?_)
        clear hK K z0 z1 z2 f0 f1 f2
        (try simp only [Act.put, List.getElem_toArray, List.getElem_cons_zero, List.getElem_cons_succ, List.setIfInBounds_toArray, List.set_cons_zero, List.set_cons_succ])
        refine wpAnyH_done (by kernel_rfl) ?_ _
        go_wp2_with fail
        go_meet
        case rel => exact ⟨g37, pb, qb, pc, qc, rfl, HRC, HST, hd37⟩
    · skip
      clear hHeld
      have s41 := Lib.hid (OwnSt.allocC s0.out)
      have hc41 := Lib.hid (show RowH (x0.alloc (.cells (c3 (.slice none 0 0) (.slice none 0 0) (.slice none 0 0)) 32)) x0.heap.size (.slice none 0 0) (.slice none 0 0) (.slice none 0 0) from Row.new x0 _ _)
      go_simp
      refine hK.out _ _ ⟨s41.out.rp.c1, s41.out.rp.c2⟩ (fun hHeld => ?_)
      clear hK K
      (try simp only [Act.put, List.getElem_toArray, List.getElem_cons_zero, List.getElem_cons_succ, List.setIfInBounds_toArray, List.set_cons_zero, List.set_cons_succ])
      have hd41 : Hid (w.heap.size + 2 ≤ x0.heap.size) := s0.out.sz
      generalize x0.heap.size = g41 at *
      generalize x0.alloc (.cells (c3 (.slice none 0 0) (.slice none 0 0) (.slice none 0 0)) 32) = x41 at *
      refine wpAnyH_ready (rs := [0, 4]) (by kernel_rfl) (by simp) ?_
      refine AllReadyH.cons rfl (fun K hK => ?_) (AllReadyH.cons rfl (fun K hK => ?_) AllReadyH.nil)
      · skip
        clear hHeld
        have s42 := Lib.hid (OwnSt.allocB s41.out)
        have hc42 := Lib.hid (show RowH _ _ (.slice none 0 0) (.slice none 0 0) (.slice none 0 0) from Row.alloc hc41.out (.cells #[] 4))
        go_simp
        refine hK.out _ _ ⟨s42.out.rp.c1, s42.out.rp.c2⟩ (fun hHeld => ?_)
        clear hK K
        (try simp only [Act.put, List.getElem_toArray, List.getElem_cons_zero, List.setIfInBounds_toArray, List.set_cons_zero, List.set_cons_succ])
        generalize hv42 : Value.slice (some ⟨x41.heap.size, 0, none⟩) 0 0 = y42 at *
        clear hv42
        generalize x41.alloc (.cells #[] 4) = x42 at *
        refine wpAnyH_ready (rs := [3, 4]) (by kernel_rfl) (by simp) ?_
        refine AllReadyH.cons rfl (fun K hK => ?_) (AllReadyH.cons rfl (fun K hK => ?_) AllReadyH.nil)
        · skip
          clear hHeld
          obtain ⟨y43, x43, hrun43, t43, hrw43⟩ := OwnSt.appB s42.out HLA.out (by have := HLN.out; omega) 23
          have hc43 := Lib.hid (hrw43 _ _ _ _ hc42.out)
          have s43 := Lib.hid t43
          clear t43 hrw43
          rw [if_pos (by rfl)]
          refine op_app _ _ _ rfl rfl rfl hrun43 ?_
          refine hK.out _ _ ⟨s43.out.rp.c1, s43.out.rp.c2⟩ (fun hHeld => ?_)
          clear hK K hrun43
          (try simp only [Act.put, List.getElem_toArray, List.getElem_cons_zero, List.getElem_cons_succ, List.setIfInBounds_toArray, List.set_cons_zero, List.set_cons_succ])
          refine wpAnyH_ready (rs := [4]) (by kernel_rfl) (by simp) ?_
          refine AllReadyH.cons rfl (fun K hK => ?_) AllReadyH.nil
          clear hHeld
          have s44 := Lib.hid (OwnSt.allocI s43.out)
          have hc44 := Lib.hid (show RowH _ _ (.slice none 0 0) (.slice none 0 0) (.slice none 0 0) from Row.alloc hc43.out (.cells #[] 3))
          go_simp
          refine hK.out _ _ ⟨s44.out.rp.c1, s44.out.rp.c2⟩ (fun hHeld => ?_)
          clear hK K
          (try simp only [Act.put, List.getElem_toArray, List.getElem_cons_zero, List.getElem_cons_succ, List.setIfInBounds_toArray, List.set_cons_zero, List.set_cons_succ])
          generalize hv44 : Value.slice (some ⟨x43.heap.size, 0, none⟩) 0 0 = y44 at *
          clear hv44
          generalize x43.alloc (.cells #[] 3) = x44 at *
          refine wpAnyH_ready (rs := [7]) (by kernel_rfl) (by simp) ?_
          refine AllReadyH.cons rfl (fun K hK => ?_) AllReadyH.nil
          clear hHeld
          obtain ⟨y45, x45, hrun45, t45, hrw45⟩ := OwnSt.appI s44.out HRA.out (by have := HLN.out; omega) 24
          have hc45 := Lib.hid (hrw45 _ _ _ _ hc44.out)
          have s45 := Lib.hid t45
          clear t45 hrw45
          rw [if_pos (by rfl)]
          refine op_app _ _ _ rfl rfl rfl hrun45 ?_
          refine hK.out _ _ ⟨s45.out.rp.c1, s45.out.rp.c2⟩ (fun hHeld => ?_)
          clear hK K hrun45
          (try simp only [Act.put, List.getElem_toArray, List.getElem_cons_zero, List.getElem_cons_succ, List.setIfInBounds_toArray, List.set_cons_zero, List.set_cons_succ])
          obtain ⟨_, ⟨pb, qb, hpb⟩, ⟨pc, qc, hpc⟩⟩ := s45.out.ow.shapes
          simp only [] at hpb hpc
          subst hpb
          subst hpc
          refine wpAnyH_take (i := 8) (v := ?va8x17) rfl (by kernel_rfl) (by kernel_rfl) (by kernel_rfl) (fun _ _ _ h => h) (Or.inl ⟨by rfl, ?hy8x17⟩) (by assumption) ?rest8x17
          case hy8x17 => (intro w hSw; (try dsimp only at hSw); go_simp; try with_reducible rfl)
          (try simp only [Act.put, List.getElem_toArray, List.getElem_cons_zero, List.getElem_cons_succ, List.setIfInBounds_toArray, List.set_cons_zero, List.set_cons_succ])
          have z0 := hc45.out.c0
          have z1 := hc45.out.c1
          have z2 := hc45.out.c2
          have f0 := Row.frozen hc45.out 0
          have f1 := Row.frozen hc45.out 1
          have f2 := Row.frozen hc45.out 2
          have hne : w.heap.size ≠ g41 := by have := hd41.out; omega
          have hne1 : w.heap.size + 1 ≠ g41 := by have := hd41.out; omega
          have HST : Hid (OwnSt w (((x45.setCell ⟨g41, 0, none⟩ (.slice none 0 0)).setCell ⟨g41, 1, none⟩ (.slice pb h.l.length qb)).setCell ⟨g41, 2, none⟩ (.slice pc h.r.length qc)) (.slice fa h.f.length fc) (.slice la h.l.length lc) (.slice ra h.r.length rc) (.slice pb h.l.length qb) (.slice pc h.r.length qc) h.l h.r) := own_store s45.out hc45.out hd41.out _ _ _
          have HRC := Lib.hid (hc45.out.set3 (.slice none 0 0) (.slice pb h.l.length qb) (.slice pc h.r.length qc))
          clear hHeld
          refine wpAnyH_ready (rs := [10]) (by kernel_rfl) (by simp) ?_
          refine AllReadyH.cons rfl (fun K hK => ?_) AllReadyH.nil
          go_simp
          refine hK.out _ _ ⟨HST.out.rp.c1, HST.out.rp.c2⟩ (fun hHeld => ?_)
          clear hK K z0 z1 z2 f0 f1 f2
          (try simp only [Act.put, List.getElem_toArray, List.getElem_cons_zero, List.getElem_cons_succ, List.setIfInBounds_toArray, List.set_cons_zero, List.set_cons_succ])
          refine wpAnyH_done (by kernel_rfl) ?_ _
          go_wp2_with fail
          go_meet
          case rel => exact ⟨g41, pb, qb, pc, qc, rfl, HRC, HST, hd41⟩
        · skip
          clear hHeld
          have s46 := Lib.hid (OwnSt.allocI s42.out)
          have hc46 := Lib.hid (show RowH _ _ (.slice none 0 0) (.slice none 0 0) (.slice none 0 0) from Row.alloc hc42.out (.cells #[] 3))
          go_simp
          refine hK.out _ _ ⟨s46.out.rp.c1, s46.out.rp.c2⟩ (fun hHeld => ?_)
          clear hK K
          (try simp only [Act.put, List.getElem_toArray, List.getElem_cons_zero, List.getElem_cons_succ, List.setIfInBounds_toArray, List.set_cons_zero, List.set_cons_succ])
          generalize hv46 : Value.slice (some ⟨x42.heap.size, 0, none⟩) 0 0 = y46 at *
          clear hv46
          generalize x42.alloc (.cells #[] 3) = x46 at *
          refine wpAnyH_ready (rs := [3]) (by kernel_rfl) (by simp) ?_
          refine AllReadyH.cons rfl (fun K hK => ?_) AllReadyH.nil
          clear hHeld
          obtain ⟨y47, x47, hrun47, t47, hrw47⟩ := OwnSt.appB s46.out HLA.out (by have := HLN.out; omega) 23
          have hc47 := Lib.hid (hrw47 _ _ _ _ hc46.out)
          have s47 := Lib.hid t47
          clear t47 hrw47
          rw [if_pos (by rfl)]
          refine op_app _ _ _ rfl rfl rfl hrun47 ?_
          refine hK.out _ _ ⟨s47.out.rp.c1, s47.out.rp.c2⟩ (fun hHeld => ?_)
          clear hK K hrun47
          (try simp only [Act.put, List.getElem_toArray, List.getElem_cons_zero, List.getElem_cons_succ, List.setIfInBounds_toArray, List.set_cons_zero, List.set_cons_succ])
          refine wpAnyH_ready (rs := [7]) (by kernel_rfl) (by simp) ?_
          refine AllReadyH.cons rfl (fun K hK => ?_) AllReadyH.nil
          clear hHeld
          obtain ⟨y48, x48, hrun48, t48, hrw48⟩ := OwnSt.appI s47.out HRA.out (by have := HLN.out; omega) 24
          have hc48 := Lib.hid (hrw48 _ _ _ _ hc47.out)
          have s48 := Lib.hid t48
          clear t48 hrw48
          rw [if_pos (by rfl)]
          refine op_app _ _ _ rfl rfl rfl hrun48 ?_
          refine hK.out _ _ ⟨s48.out.rp.c1, s48.out.rp.c2⟩ (fun hHeld => ?_)
          clear hK K hrun48
          (try simp only [Act.put, List.getElem_toArray, List.getElem_cons_zero, List.getElem_cons_succ, List.setIfInBounds_toArray, List.set_cons_zero, List.set_cons_succ])
          obtain ⟨_, ⟨pb, qb, hpb⟩, ⟨pc, qc, hpc⟩⟩ := s48.out.ow.shapes
          simp only [] at hpb hpc
          subst hpb
          subst hpc
          refine wpAnyH_take (i := 8) (v := ?va8x18) rfl (by kernel_rfl) (by kernel_rfl) (by kernel_rfl) (fun _ _ _ h => h) (Or.inl ⟨by rfl, ?hy8x18⟩) (by assumption) ?rest8x18
          case hy8x18 => (intro w hSw; (try dsimp only at hSw); go_simp; try with_reducible rfl)
          (try simp only [Act.put, List.getElem_toArray, List.getElem_cons_zero, List.getElem_cons_succ, List.setIfInBounds_toArray, List.set_cons_zero, List.set_cons_succ])
          have z0 := hc48.out.c0
          have z1 := hc48.out.c1
          have z2 := hc48.out.c2
          have f0 := Row.frozen hc48.out 0
          have f1 := Row.frozen hc48.out 1
          have f2 := Row.frozen hc48.out 2
          have hne : w.heap.size ≠ g41 := by have := hd41.out; omega
          have hne1 : w.heap.size + 1 ≠ g41 := by have := hd41.out; omega
          have HST : Hid (OwnSt w (((x48.setCell ⟨g41, 0, none⟩ (.slice none 0 0)).setCell ⟨g41, 1, none⟩ (.slice pb h.l.length qb)).setCell ⟨g41, 2, none⟩ (.slice pc h.r.length qc)) (.slice fa h.f.length fc) (.slice la h.l.length lc) (.slice ra h.r.length rc) (.slice pb h.l.length qb) (.slice pc h.r.length qc) h.l h.r) := own_store s48.out hc48.out hd41.out _ _ _
          have HRC := Lib.hid (hc48.out.set3 (.slice none 0 0) (.slice pb h.l.length qb) (.slice pc h.r.length qc))
          clear hHeld
          refine wpAnyH_ready (rs := [10]) (by kernel_rfl) (by simp) ?_
          refine AllReadyH.cons rfl (fun K hK => ?_) AllReadyH.nil
          go_simp
          refine hK.out _ _ ⟨HST.out.rp.c1, HST.out.rp.c2⟩ (fun hHeld => ?_)
          clear hK K z0 z1 z2 f0 f1 f2
          (try simp only [Act.put, List.getElem_toArray, List.getElem_cons_zero, List.getElem_cons_succ, List.setIfInBounds_toArray, List.set_cons_zero, List.set_cons_succ])
          refine wpAnyH_done (by kernel_rfl) ?_ _
          go_wp2_with fail
          go_meet
          case rel => exact ⟨g41, pb, qb, pc, qc, rfl, HRC, HST, hd41⟩
      · skip
        clear hHeld
        have s49 := Lib.hid (OwnSt.allocI s41.out)
        have hc49 := Lib.hid (show RowH _ _ (.slice none 0 0) (.slice none 0 0) (.slice none 0 0) from Row.alloc hc41.out (.cells #[] 3))
        go_simp
        refine hK.out _ _ ⟨s49.out.rp.c1, s49.out.rp.c2⟩ (fun hHeld => ?_)
        clear hK K
        (try simp only [Act.put, List.getElem_toArray, List.getElem_cons_zero, List.getElem_cons_succ, List.setIfInBounds_toArray, List.set_cons_zero, List.set_cons_succ])
        generalize hv49 : Value.slice (some ⟨x41.heap.size, 0, none⟩) 0 0 = y49 at *
        clear hv49
        generalize x41.alloc (.cells #[] 3) = x49 at *
        refine wpAnyH_ready (rs := [0]) (by kernel_rfl) (by simp) ?_
        refine AllReadyH.cons rfl (fun K hK => ?_) AllReadyH.nil
        clear hHeld
        have s50 := Lib.hid (OwnSt.allocB s49.out)
        have hc50 := Lib.hid (show RowH _ _ (.slice none 0 0) (.slice none 0 0) (.slice none 0 0) from Row.alloc hc49.out (.cells #[] 4))
        go_simp
        refine hK.out _ _ ⟨s50.out.rp.c1, s50.out.rp.c2⟩ (fun hHeld => ?_)
        clear hK K
        (try simp only [Act.put, List.getElem_toArray, List.getElem_cons_zero, List.setIfInBounds_toArray, List.set_cons_zero, List.set_cons_succ])
        generalize hv50 : Value.slice (some ⟨x49.heap.size, 0, none⟩) 0 0 = y50 at *
        clear hv50
        generalize x49.alloc (.cells #[] 4) = x50 at *
        refine wpAnyH_ready (rs := [3]) (by kernel_rfl) (by simp) ?_
        refine AllReadyH.cons rfl (fun K hK => ?_) AllReadyH.nil
        clear hHeld
        obtain ⟨y51, x51, hrun51, t51, hrw51⟩ := OwnSt.appB s50.out HLA.out (by have := HLN.out; omega) 23
        have hc51 := Lib.hid (hrw51 _ _ _ _ hc50.out)
        have s51 := Lib.hid t51
        clear t51 hrw51
        rw [if_pos (by rfl)]
        refine op_app _ _ _ rfl rfl rfl hrun51 ?_
        refine hK.out _ _ ⟨s51.out.rp.c1, s51.out.rp.c2⟩ (fun hHeld => ?_)
        clear hK K hrun51
        (try simp only [Act.put, List.getElem_toArray, List.getElem_cons_zero, List.getElem_cons_succ, List.setIfInBounds_toArray, List.set_cons_zero, List.set_cons_succ])
        refine wpAnyH_ready (rs := [7]) (by kernel_rfl) (by simp) ?_
        refine AllReadyH.cons rfl (fun K hK => ?_) AllReadyH.nil
        clear hHeld
        obtain ⟨y52, x52, hrun52, t52, hrw52⟩ := OwnSt.appI s51.out HRA.out (by have := HLN.out; omega) 24
        have hc52 := Lib.hid (hrw52 _ _ _ _ hc51.out)
        have s52 := Lib.hid t52
        clear t52 hrw52
        rw [if_pos (by rfl)]
        refine op_app _ _ _ rfl rfl rfl hrun52 ?_
        refine hK.out _ _ ⟨s52.out.rp.c1, s52.out.rp.c2⟩ (fun hHeld => ?_)
        clear hK K hrun52
        (try simp only [Act.put, List.getElem_toArray, List.getElem_cons_zero, List.getElem_cons_succ, List.setIfInBounds_toArray, List.set_cons_zero, List.set_cons_succ])
        obtain ⟨_, ⟨pb, qb, hpb⟩, ⟨pc, qc, hpc⟩⟩ := s52.out.ow.shapes
        simp only [] at hpb hpc
        subst hpb
        subst hpc
        refine wpAnyH_take (i := 8) (v := ?va8x19) rfl (by kernel_rfl) (by kernel_rfl) (by kernel_rfl) (fun _ _ _ h => h) (Or.inl ⟨by rfl, ?hy8x19⟩) (by assumption) ?rest8x19
        case hy8x19 => (intro w hSw; (try dsimp only at hSw); go_simp; try with_reducible rfl)
        (try simp only [Act.put, List.getElem_toArray, List.getElem_cons_zero, List.getElem_cons_succ, List.setIfInBounds_toArray, List.set_cons_zero, List.set_cons_succ])
        have z0 := hc52.out.c0
        have z1 := hc52.out.c1
        have z2 := hc52.out.c2
        have f0 := Row.frozen hc52.out 0
        have f1 := Row.frozen hc52.out 1
        have f2 := Row.frozen hc52.out 2
        have hne : w.heap.size ≠ g41 := by have := hd41.out; omega
        have hne1 : w.heap.size + 1 ≠ g41 := by have := hd41.out; omega
        have HST : Hid (OwnSt w (((x52.setCell ⟨g41, 0, none⟩ (.slice none 0 0)).setCell ⟨g41, 1, none⟩ (.slice pb h.l.length qb)).setCell ⟨g41, 2, none⟩ (.slice pc h.r.length qc)) (.slice fa h.f.length fc) (.slice la h.l.length lc) (.slice ra h.r.length rc) (.slice pb h.l.length qb) (.slice pc h.r.length qc) h.l h.r) := own_store s52.out hc52.out hd41.out _ _ _
        have HRC := Lib.hid (hc52.out.set3 (.slice none 0 0) (.slice pb h.l.length qb) (.slice pc h.r.length qc))
        clear hHeld
        refine wpAnyH_ready (rs := [10]) (by kernel_rfl) (by simp) ?_
        refine AllReadyH.cons rfl (fun K hK => ?_) AllReadyH.nil
        go_simp
        refine hK.out _ _ ⟨HST.out.rp.c1, HST.out.rp.c2⟩ (fun hHeld => ?_)
        clear hK K z0 z1 z2 f0 f1 f2
        (try simp only [Act.put, List.getElem_toArray, List.getElem_cons_zero, List.getElem_cons_succ, List.setIfInBounds_toArray, List.set_cons_zero, List.set_cons_succ])
        refine wpAnyH_done (by kernel_rfl) ?_ _
        go_wp2_with fail
        go_meet
        case rel => exact ⟨g41, pb, qb, pc, qc, rfl, HRC, HST, hd41⟩
  case rest =>
    clear s0
    obtain ⟨gC, pb, qb, pc, qc, rfl, hrc, hst, hgc⟩ := hcut
    have HST2 := Lib.hid hst.out
    have cp := hst.out.rp.c0
    generalize hn : h.f.length = n at *
    have HN := Lib.hid hn
    clear hn
    go_wp2_with fail
    clear cp
    go_loopw [18] (fun i wr => ∃ j : Nat, j ≤ n ∧ i = .int .i64 j ∧ ∃ (pa : Option Addr) (qa : Nat), Hid (RowH wr gC (.slice pa j qa) (.slice pb h.l.length qb) (.slice pc h.r.length qc)) ∧ Hid (OwnH wr w.heap.size wr.heap.size (.slice pa j qa) (.slice pb h.l.length qb) (.slice pc h.r.length qc) ⟨h.f.take j, h.l, h.r⟩) ∧ Hid (RowH wr (w.heap.size + 1) (.slice none 0 0) (.slice none 0 0) (.slice none 0 0)) ∧ Hid (Below w.heap.size w wr) ∧ Hid (w.heap.size + 2 ≤ wr.heap.size)) (fun i _ => n - (intOf i).toNat)
    case atStart => exact ⟨0, Nat.zero_le _, rfl, none, 0, hrc, hst.out.ow, hst.out.r2, hst.out.l, hst.out.sz⟩
    case round =>
      obtain ⟨j, hj, rfl, pa, qa, hrw, how, hr2, hbw, hsz⟩ := hrel
      by_cases hlt : j < n
      · obtain ⟨fb, fo, rfl, hcf⟩ := HFA.out.at' (by omega)
        obtain ⟨u, hq, hu⟩ := hcf j hlt
        have q := cellBelow hbw.out (Nat.le_refl _) hq
        have i1 : (j : Int) < (n : Int) := by omega
        obtain ⟨ua, uc, hus⟩ := hu.shape
        have HU := Lib.hid hu
        subst hus
        have HL3 := Lib.hid (HR3.out j hlt)
        clear hcf hq hu
        have hjl : j < h.f.length := by rw [HN.out]; exact hlt
        have htk : h.f.take (j + 1) = h.f.take j ++ [h.f.getD j []] := by
          rw [List.take_succ_eq_append_getElem hjl]; simp [List.getD, List.getElem?_eq_getElem hjl]
        have hlt1 : (h.f.take j).length = j := by rw [List.length_take]; omega
        have HTK := Lib.hid htk; have HLT := Lib.hid hlt1
        have K0 : Hid (Lp w wr gC wr.heap.size (.slice pa j qa) (.slice pb h.l.length qb) (.slice pc h.r.length qc) ⟨h.f.take j, h.l, h.r⟩) := ⟨hrw.out, how.out, hr2.out, hbw.out, Nat.le_refl _, hsz.out⟩
        clear htk hlt1 hjl
        generalize h.f.getD j [] = zs at *
        have HLZ : Hid (zs.length ≤ 1048576) := by unfold Hid; have := HL3.out; omega
        generalize hzl : zs.length = zl at *
        have HZL := Lib.hid hzl
        have hn12 : n ≤ 12 := HLN.out.2.2
        clear hzl hrw how hr2 hbw
        go_wp2_with fail
        replace K0 : Hid (Lp w wr.drew gC wr.heap.size (.slice pa j qa) (.slice pb h.l.length qb) (.slice pc h.r.length qc) ⟨h.f.take j, h.l, h.r⟩) := ⟨K0.out.rw', K0.out.ow.below (below_drew (Below.refl _ _)), K0.out.r2, below_drew K0.out.l, K0.out.hi, K0.out.lo⟩
        clear q
        generalize wr.heap.size = hi0 at *
        refine wp_region_held_drew (S := (fun _ => True)) (by kernel_rfl) (trivial) (fun hHeld => ?_)
        refine wpAnyH_take (i := 0) (v := ?va0x20) rfl (by kernel_rfl) (by kernel_rfl) (by kernel_rfl) (fun _ _ _ h => h) (Or.inl ⟨by rfl, ?hy0x20⟩) (by assumption) ?rest0x20
        case hy0x20 => (intro w hSw; (try dsimp only at hSw); go_simp; try with_reducible rfl)
        (try simp only [Act.put, List.getElem_toArray, List.getElem_cons_zero, List.setIfInBounds_toArray, List.set_cons_zero, List.set_cons_succ])
        refine wpAnyH_take (i := 3) (v := ?va3x21) rfl (by kernel_rfl) (by kernel_rfl) (by kernel_rfl) (fun _ _ _ h => h) (Or.inl ⟨by rfl, ?hy3x21⟩) (by assumption) ?rest3x21
        case hy3x21 => (intro w hSw; (try dsimp only at hSw); go_simp; try with_reducible rfl)
        (try simp only [Act.put, List.getElem_toArray, List.getElem_cons_zero, List.getElem_cons_succ, List.setIfInBounds_toArray, List.set_cons_zero, List.set_cons_succ])
        generalize wr.drew = x0 at *
        refine wpAnyH_ready (rs := [1, 2]) (by kernel_rfl) (by simp) ?_
        refine AllReadyH.cons rfl (fun K hK => ?_) (AllReadyH.cons rfl (fun K hK => ?_) AllReadyH.nil)
        · skip
          clear hHeld
          have c1 := K0.out.rw'.c0
          go_simp
          refine hK.out _ _ trivial (fun hHeld => ?_)
          clear hK K c1
          (try simp only [Act.put, List.getElem_toArray, List.getElem_cons_zero, List.getElem_cons_succ, List.setIfInBounds_toArray, List.set_cons_zero, List.set_cons_succ])
          refine wpAnyH_ready (rs := [2]) (by kernel_rfl) (by simp) ?_
          refine AllReadyH.cons rfl (fun K hK => ?_) AllReadyH.nil
          clear hHeld
          have k2 := Lib.hid (K0.out.alloc (.cells #[] 3))
          have e2 := Lib.hid (show (x0.alloc (.cells #[] 3)).ownsRow hi0 3 1 (.slice (some ⟨x0.heap.size, 0, none⟩) 0 0) 0 [] from owns_mono (own_empty x0 3) (fun g hg => by cases hg; exact K0.out.hi))
          go_simp
          refine hK.out _ _ trivial (fun hHeld => ?_)
          clear hK K
          (try simp only [Act.put, List.getElem_toArray, List.getElem_cons_zero, List.getElem_cons_succ, List.setIfInBounds_toArray, List.set_cons_zero, List.set_cons_succ])
          generalize Value.slice (some ⟨x0.heap.size, 0, none⟩) 0 0 = y2 at *
          generalize x0.alloc (.cells #[] 3) = x2 at *
          clear K0
          refine wpAnyH_ready (rs := [4]) (by kernel_rfl) (by simp) ?_
          refine AllReadyH.cons rfl (fun K hK => ?_) AllReadyH.nil
          clear hHeld
          obtain ⟨y3, x3, hrun3, kk, ee⟩ := k2.out.app e2.out HU.out (by rw [HZL.out]; exact HLZ.out) 24
          have k3 := Lib.hid kk; have e3 := Lib.hid ee
          clear kk ee k2 e2
          rw [if_pos (by rfl)]
          refine op_app _ _ _ rfl rfl rfl hrun3 ?_
          refine hK.out _ _ trivial (fun hHeld => ?_)
          clear hK K hrun3
          (try simp only [Act.put, List.getElem_toArray, List.getElem_cons_zero, List.getElem_cons_succ, List.setIfInBounds_toArray, List.set_cons_zero, List.set_cons_succ])
          obtain ⟨pu3, qu3, hpu⟩ := e3.out.ints.shape
          subst hpu
          refine wpAnyH_ready (rs := [5]) (by kernel_rfl) (by simp) ?_
          refine AllReadyH.cons rfl (fun K hK => ?_) AllReadyH.nil
          clear hHeld
          have k4 := Lib.hid (k3.out.alloc (.cells #[.slice pu3 zs.length qu3] 24))
          have e4 := Lib.hid (Own.below e3.out (below1 x3 (.cells #[.slice pu3 zs.length qu3] 24)))
          have z4 : Hid (SrcAt (x3.alloc (.cells #[.slice pu3 zs.length qu3] 24)) (.slice (some ⟨x3.heap.size, 0, none⟩) 1 1) [.slice pu3 zs.length qu3]) := src_one x3 _ rfl
          go_simp
          refine hK.out _ _ trivial (fun hHeld => ?_)
          clear hK K
          (try simp only [Act.put, List.getElem_toArray, List.getElem_cons_zero, List.getElem_cons_succ, List.setIfInBounds_toArray, List.set_cons_zero, List.set_cons_succ])
          generalize Value.slice (some ⟨x3.heap.size, 0, none⟩) 1 1 = v4 at *
          generalize x3.alloc (.cells #[.slice pu3 zs.length qu3] 24) = x4 at *
          clear k3 e3
          refine wpAnyH_ready (rs := [6]) (by kernel_rfl) (by simp) ?_
          refine AllReadyH.cons rfl (fun K hK => ?_) AllReadyH.nil
          clear hHeld
          obtain ⟨y5, x5, hrun5, t1, t2, t3, t4, t5, ⟨pn, qn, hpn⟩⟩ := k4.out.grow e4.out z4.out (by simp only [HLT.out]; have := HLN.out.2.2; omega) 22
          simp only [HLT.out] at hpn
          subst hpn
          have w1 := Lib.hid t1; have w2 := Lib.hid t2; have w3 := Lib.hid t3; have w4 := Lib.hid t4; have w5 := Lib.hid t5
          clear t1 t2 t3 t4 t5 k4 e4 z4
          rw [if_pos (by rfl)]
          refine op_app _ _ _ rfl rfl rfl hrun5 ?_
          refine hK.out _ _ trivial (fun hHeld => ?_)
          clear hK K hrun5
          (try simp only [Act.put, List.getElem_toArray, List.getElem_cons_zero, List.getElem_cons_succ, List.setIfInBounds_toArray, List.set_cons_zero, List.set_cons_succ])
          refine wpAnyH_take (i := 7) (v := ?va7x22) rfl (by kernel_rfl) (by kernel_rfl) (by kernel_rfl) (fun _ _ _ h => h) (Or.inl ⟨by rfl, ?hy7x22⟩) (by assumption) ?rest7x22
          case hy7x22 => (intro w hSw; (try dsimp only at hSw); go_simp; try with_reducible rfl)
          (try simp only [Act.put, List.getElem_toArray, List.getElem_cons_zero, List.getElem_cons_succ, List.setIfInBounds_toArray, List.set_cons_zero, List.set_cons_succ])
          refine wpAnyH_ready (rs := [8]) (by kernel_rfl) (by simp) ?_
          refine AllReadyH.cons rfl (fun K hK => ?_) AllReadyH.nil
          clear hHeld
          have z0 := w1.out.c0
          have f0 := Row.frozen w1.out 0
          have v1 := Lib.hid (w1.out.set0 (.slice pn (j + 1) qn))
          have v2 := Lib.hid (w2.out.cellRow w1.out 0 (.slice pn (j + 1) qn))
          have v3 : Hid (RowH _ _ (.slice none 0 0) (.slice none 0 0) (.slice none 0 0)) := Row.other w3.out ⟨gC, 0, none⟩ (by have := hgc.out; simp; omega) (.slice pn (j + 1) qn)
          have v4 := Lib.hid (w4.out.setCell (p := ⟨gC, 0, none⟩) (by have := hgc.out; simp only; omega) (.slice pn (j + 1) qn))
          have v5 : Hid (w.heap.size + 2 ≤ (x5.setCell ⟨gC, 0, none⟩ (.slice pn (j + 1) qn)).heap.size) := by unfold Hid; rw [World.size_setCell]; exact w5.out
          go_simp
          refine hK.out _ _ trivial (fun hHeld => ?_)
          clear hK K z0 f0
          (try simp only [Act.put, List.getElem_toArray, List.getElem_cons_zero, List.getElem_cons_succ, List.setIfInBounds_toArray, List.set_cons_zero, List.set_cons_succ])
          refine wpAnyH_done (by kernel_rfl) ?_ _
          go_wp2_with fail
          go_roundw
          case rel => exact ⟨j + 1, by omega, by go_num, pn, qn, v1, (by unfold Hid; rw [HTK.out, World.size_setCell]; exact v2.out), v3, v4, v5⟩
          case measure => simp [intOf]; omega
        · skip
          clear hHeld
          have k7 := Lib.hid (K0.out.alloc (.cells #[] 3))
          have e7 := Lib.hid (show (x0.alloc (.cells #[] 3)).ownsRow hi0 3 1 (.slice (some ⟨x0.heap.size, 0, none⟩) 0 0) 0 [] from owns_mono (own_empty x0 3) (fun g hg => by cases hg; exact K0.out.hi))
          go_simp
          refine hK.out _ _ trivial (fun hHeld => ?_)
          clear hK K
          (try simp only [Act.put, List.getElem_toArray, List.getElem_cons_zero, List.getElem_cons_succ, List.setIfInBounds_toArray, List.set_cons_zero, List.set_cons_succ])
          generalize Value.slice (some ⟨x0.heap.size, 0, none⟩) 0 0 = y7 at *
          generalize x0.alloc (.cells #[] 3) = x7 at *
          clear K0
          refine wpAnyH_ready (rs := [1, 4]) (by kernel_rfl) (by simp) ?_
          refine AllReadyH.cons rfl (fun K hK => ?_) (AllReadyH.cons rfl (fun K hK => ?_) AllReadyH.nil)
          · skip
            clear hHeld
            have c8 := k7.out.rw'.c0
            go_simp
            refine hK.out _ _ trivial (fun hHeld => ?_)
            clear hK K c8
            (try simp only [Act.put, List.getElem_toArray, List.getElem_cons_zero, List.getElem_cons_succ, List.setIfInBounds_toArray, List.set_cons_zero, List.set_cons_succ])
            refine wpAnyH_ready (rs := [4]) (by kernel_rfl) (by simp) ?_
            refine AllReadyH.cons rfl (fun K hK => ?_) AllReadyH.nil
            clear hHeld
            obtain ⟨y9, x9, hrun9, kk, ee⟩ := k7.out.app e7.out HU.out (by rw [HZL.out]; exact HLZ.out) 24
            have k9 := Lib.hid kk; have e9 := Lib.hid ee
            clear kk ee k7 e7
            rw [if_pos (by rfl)]
            refine op_app _ _ _ rfl rfl rfl hrun9 ?_
            refine hK.out _ _ trivial (fun hHeld => ?_)
            clear hK K hrun9
            (try simp only [Act.put, List.getElem_toArray, List.getElem_cons_zero, List.getElem_cons_succ, List.setIfInBounds_toArray, List.set_cons_zero, List.set_cons_succ])
            obtain ⟨pu9, qu9, hpu⟩ := e9.out.ints.shape
            subst hpu
            refine wpAnyH_ready (rs := [5]) (by kernel_rfl) (by simp) ?_
            refine AllReadyH.cons rfl (fun K hK => ?_) AllReadyH.nil
            clear hHeld
            have k10 := Lib.hid (k9.out.alloc (.cells #[.slice pu9 zs.length qu9] 24))
            have e10 := Lib.hid (Own.below e9.out (below1 x9 (.cells #[.slice pu9 zs.length qu9] 24)))
            have z10 : Hid (SrcAt (x9.alloc (.cells #[.slice pu9 zs.length qu9] 24)) (.slice (some ⟨x9.heap.size, 0, none⟩) 1 1) [.slice pu9 zs.length qu9]) := src_one x9 _ rfl
            go_simp
            refine hK.out _ _ trivial (fun hHeld => ?_)
            clear hK K
            (try simp only [Act.put, List.getElem_toArray, List.getElem_cons_zero, List.getElem_cons_succ, List.setIfInBounds_toArray, List.set_cons_zero, List.set_cons_succ])
            generalize Value.slice (some ⟨x9.heap.size, 0, none⟩) 1 1 = v10 at *
            generalize x9.alloc (.cells #[.slice pu9 zs.length qu9] 24) = x10 at *
            clear k9 e9
            refine wpAnyH_ready (rs := [6]) (by kernel_rfl) (by simp) ?_
            refine AllReadyH.cons rfl (fun K hK => ?_) AllReadyH.nil
            clear hHeld
            obtain ⟨y11, x11, hrun11, t1, t2, t3, t4, t5, ⟨pn, qn, hpn⟩⟩ := k10.out.grow e10.out z10.out (by simp only [HLT.out]; have := HLN.out.2.2; omega) 22
            simp only [HLT.out] at hpn
            subst hpn
            have w1 := Lib.hid t1; have w2 := Lib.hid t2; have w3 := Lib.hid t3; have w4 := Lib.hid t4; have w5 := Lib.hid t5
            clear t1 t2 t3 t4 t5 k10 e10 z10
            rw [if_pos (by rfl)]
            refine op_app _ _ _ rfl rfl rfl hrun11 ?_
            refine hK.out _ _ trivial (fun hHeld => ?_)
            clear hK K hrun11
            (try simp only [Act.put, List.getElem_toArray, List.getElem_cons_zero, List.getElem_cons_succ, List.setIfInBounds_toArray, List.set_cons_zero, List.set_cons_succ])
            refine wpAnyH_take (i := 7) (v := ?va7x23) rfl (by kernel_rfl) (by kernel_rfl) (by kernel_rfl) (fun _ _ _ h => h) (Or.inl ⟨by rfl, ?hy7x23⟩) (by assumption) ?rest7x23
            case hy7x23 => (intro w hSw; (try dsimp only at hSw); go_simp; try with_reducible rfl)
            (try simp only [Act.put, List.getElem_toArray, List.getElem_cons_zero, List.getElem_cons_succ, List.setIfInBounds_toArray, List.set_cons_zero, List.set_cons_succ])
            refine wpAnyH_ready (rs := [8]) (by kernel_rfl) (by simp) ?_
            refine AllReadyH.cons rfl (fun K hK => ?_) AllReadyH.nil
            clear hHeld
            have z0 := w1.out.c0
            have f0 := Row.frozen w1.out 0
            have v1 := Lib.hid (w1.out.set0 (.slice pn (j + 1) qn))
            have v2 := Lib.hid (w2.out.cellRow w1.out 0 (.slice pn (j + 1) qn))
            have v3 : Hid (RowH _ _ (.slice none 0 0) (.slice none 0 0) (.slice none 0 0)) := Row.other w3.out ⟨gC, 0, none⟩ (by have := hgc.out; simp; omega) (.slice pn (j + 1) qn)
            have v4 := Lib.hid (w4.out.setCell (p := ⟨gC, 0, none⟩) (by have := hgc.out; simp only; omega) (.slice pn (j + 1) qn))
            have v5 : Hid (w.heap.size + 2 ≤ (x11.setCell ⟨gC, 0, none⟩ (.slice pn (j + 1) qn)).heap.size) := by unfold Hid; rw [World.size_setCell]; exact w5.out
            go_simp
            refine hK.out _ _ trivial (fun hHeld => ?_)
            clear hK K z0 f0
            (try simp only [Act.put, List.getElem_toArray, List.getElem_cons_zero, List.getElem_cons_succ, List.setIfInBounds_toArray, List.set_cons_zero, List.set_cons_succ])
            refine wpAnyH_done (by kernel_rfl) ?_ _
            go_wp2_with fail
            go_roundw
            case rel => exact ⟨j + 1, by omega, by go_num, pn, qn, v1, (by unfold Hid; rw [HTK.out, World.size_setCell]; exact v2.out), v3, v4, v5⟩
            case measure => simp [intOf]; omega
          · skip
            clear hHeld
            obtain ⟨y13, x13, hrun13, kk, ee⟩ := k7.out.app e7.out HU.out (by rw [HZL.out]; exact HLZ.out) 24
            have k13 := Lib.hid kk; have e13 := Lib.hid ee
            clear kk ee k7 e7
            rw [if_pos (by rfl)]
            refine op_app _ _ _ rfl rfl rfl hrun13 ?_
            refine hK.out _ _ trivial (fun hHeld => ?_)
            clear hK K hrun13
            (try simp only [Act.put, List.getElem_toArray, List.getElem_cons_zero, List.getElem_cons_succ, List.setIfInBounds_toArray, List.set_cons_zero, List.set_cons_succ])
            obtain ⟨pu13, qu13, hpu⟩ := e13.out.ints.shape
            subst hpu
            refine wpAnyH_ready (rs := [1, 5]) (by kernel_rfl) (by simp) ?_
            refine AllReadyH.cons rfl (fun K hK => ?_) (AllReadyH.cons rfl (fun K hK => ?_) AllReadyH.nil)
            · skip
              clear hHeld
              have c14 := k13.out.rw'.c0
              go_simp
              refine hK.out _ _ trivial (fun hHeld => ?_)
              clear hK K c14
              (try simp only [Act.put, List.getElem_toArray, List.getElem_cons_zero, List.getElem_cons_succ, List.setIfInBounds_toArray, List.set_cons_zero, List.set_cons_succ])
              refine wpAnyH_ready (rs := [5]) (by kernel_rfl) (by simp) ?_
              refine AllReadyH.cons rfl (fun K hK => ?_) AllReadyH.nil
              clear hHeld
              have k15 := Lib.hid (k13.out.alloc (.cells #[.slice pu13 zs.length qu13] 24))
              have e15 := Lib.hid (Own.below e13.out (below1 x13 (.cells #[.slice pu13 zs.length qu13] 24)))
              have z15 : Hid (SrcAt (x13.alloc (.cells #[.slice pu13 zs.length qu13] 24)) (.slice (some ⟨x13.heap.size, 0, none⟩) 1 1) [.slice pu13 zs.length qu13]) := src_one x13 _ rfl
              go_simp
              refine hK.out _ _ trivial (fun hHeld => ?_)
              clear hK K
              (try simp only [Act.put, List.getElem_toArray, List.getElem_cons_zero, List.getElem_cons_succ, List.setIfInBounds_toArray, List.set_cons_zero, List.set_cons_succ])
              generalize Value.slice (some ⟨x13.heap.size, 0, none⟩) 1 1 = v15 at *
              generalize x13.alloc (.cells #[.slice pu13 zs.length qu13] 24) = x15 at *
              clear k13 e13
              refine wpAnyH_ready (rs := [6]) (by kernel_rfl) (by simp) ?_
              refine AllReadyH.cons rfl (fun K hK => ?_) AllReadyH.nil
              clear hHeld
              obtain ⟨y16, x16, hrun16, t1, t2, t3, t4, t5, ⟨pn, qn, hpn⟩⟩ := k15.out.grow e15.out z15.out (by simp only [HLT.out]; have := HLN.out.2.2; omega) 22
              simp only [HLT.out] at hpn
              subst hpn
              have w1 := Lib.hid t1; have w2 := Lib.hid t2; have w3 := Lib.hid t3; have w4 := Lib.hid t4; have w5 := Lib.hid t5
              clear t1 t2 t3 t4 t5 k15 e15 z15
              rw [if_pos (by rfl)]
              refine op_app _ _ _ rfl rfl rfl hrun16 ?_
              refine hK.out _ _ trivial (fun hHeld => ?_)
              clear hK K hrun16
              (try simp only [Act.put, List.getElem_toArray, List.getElem_cons_zero, List.getElem_cons_succ, List.setIfInBounds_toArray, List.set_cons_zero, List.set_cons_succ])
              refine wpAnyH_take (i := 7) (v := ?va7x24) rfl (by kernel_rfl) (by kernel_rfl) (by kernel_rfl) (fun _ _ _ h => h) (Or.inl ⟨by rfl, ?hy7x24⟩) (by assumption) ?rest7x24
              case hy7x24 => (intro w hSw; (try dsimp only at hSw); go_simp; try with_reducible rfl)
              (try simp only [Act.put, List.getElem_toArray, List.getElem_cons_zero, List.getElem_cons_succ, List.setIfInBounds_toArray, List.set_cons_zero, List.set_cons_succ])
              refine wpAnyH_ready (rs := [8]) (by kernel_rfl) (by simp) ?_
              refine AllReadyH.cons rfl (fun K hK => ?_) AllReadyH.nil
              clear hHeld
              have z0 := w1.out.c0
              have f0 := Row.frozen w1.out 0
              have v1 := Lib.hid (w1.out.set0 (.slice pn (j + 1) qn))
              have v2 := Lib.hid (w2.out.cellRow w1.out 0 (.slice pn (j + 1) qn))
              have v3 : Hid (RowH _ _ (.slice none 0 0) (.slice none 0 0) (.slice none 0 0)) := Row.other w3.out ⟨gC, 0, none⟩ (by have := hgc.out; simp; omega) (.slice pn (j + 1) qn)
              have v4 := Lib.hid (w4.out.setCell (p := ⟨gC, 0, none⟩) (by have := hgc.out; simp only; omega) (.slice pn (j + 1) qn))
              have v5 : Hid (w.heap.size + 2 ≤ (x16.setCell ⟨gC, 0, none⟩ (.slice pn (j + 1) qn)).heap.size) := by unfold Hid; rw [World.size_setCell]; exact w5.out
              go_simp
              refine hK.out _ _ trivial (fun hHeld => ?_)
              clear hK K z0 f0
              (try simp only [Act.put, List.getElem_toArray, List.getElem_cons_zero, List.getElem_cons_succ, List.setIfInBounds_toArray, List.set_cons_zero, List.set_cons_succ])
              refine wpAnyH_done (by kernel_rfl) ?_ _
              go_wp2_with fail
              go_roundw
              case rel => exact ⟨j + 1, by omega, by go_num, pn, qn, v1, (by unfold Hid; rw [HTK.out, World.size_setCell]; exact v2.out), v3, v4, v5⟩
              case measure => simp [intOf]; omega
            · skip
              clear hHeld
              have k18 := Lib.hid (k13.out.alloc (.cells #[.slice pu13 zs.length qu13] 24))
              have e18 := Lib.hid (Own.below e13.out (below1 x13 (.cells #[.slice pu13 zs.length qu13] 24)))
              have z18 : Hid (SrcAt (x13.alloc (.cells #[.slice pu13 zs.length qu13] 24)) (.slice (some ⟨x13.heap.size, 0, none⟩) 1 1) [.slice pu13 zs.length qu13]) := src_one x13 _ rfl
              go_simp
              refine hK.out _ _ trivial (fun hHeld => ?_)
              clear hK K
              (try simp only [Act.put, List.getElem_toArray, List.getElem_cons_zero, List.getElem_cons_succ, List.setIfInBounds_toArray, List.set_cons_zero, List.set_cons_succ])
              generalize Value.slice (some ⟨x13.heap.size, 0, none⟩) 1 1 = v18 at *
              generalize x13.alloc (.cells #[.slice pu13 zs.length qu13] 24) = x18 at *
              clear k13 e13
              refine wpAnyH_ready (rs := [1]) (by kernel_rfl) (by simp) ?_
              refine AllReadyH.cons rfl (fun K hK => ?_) AllReadyH.nil
              clear hHeld
              have c19 := k18.out.rw'.c0
              go_simp
              refine hK.out _ _ trivial (fun hHeld => ?_)
              clear hK K c19
              (try simp only [Act.put, List.getElem_toArray, List.getElem_cons_zero, List.getElem_cons_succ, List.setIfInBounds_toArray, List.set_cons_zero, List.set_cons_succ])
              refine wpAnyH_ready (rs := [6]) (by kernel_rfl) (by simp) ?_
              refine AllReadyH.cons rfl (fun K hK => ?_) AllReadyH.nil
              clear hHeld
              obtain ⟨y20, x20, hrun20, t1, t2, t3, t4, t5, ⟨pn, qn, hpn⟩⟩ := k18.out.grow e18.out z18.out (by simp only [HLT.out]; have := HLN.out.2.2; omega) 22
              simp only [HLT.out] at hpn
              subst hpn
              have w1 := Lib.hid t1; have w2 := Lib.hid t2; have w3 := Lib.hid t3; have w4 := Lib.hid t4; have w5 := Lib.hid t5
              clear t1 t2 t3 t4 t5 k18 e18 z18
              rw [if_pos (by rfl)]
              refine op_app _ _ _ rfl rfl rfl hrun20 ?_
              refine hK.out _ _ trivial (fun hHeld => ?_)
              clear hK K hrun20
              (try simp only [Act.put, List.getElem_toArray, List.getElem_cons_zero, List.getElem_cons_succ, List.setIfInBounds_toArray, List.set_cons_zero, List.set_cons_succ])
              refine wpAnyH_take (i := 7) (v := ?va7x25) rfl (by kernel_rfl) (by kernel_rfl) (by kernel_rfl) (fun _ _ _ h => h) (Or.inl ⟨by rfl, ?hy7x25⟩) (by assumption) ?rest7x25
              case hy7x25 => (intro w hSw; (try dsimp only at hSw); go_simp; try with_reducible rfl)
              (try simp only [Act.put, List.getElem_toArray, List.getElem_cons_zero, List.getElem_cons_succ, List.setIfInBounds_toArray, List.set_cons_zero, List.set_cons_succ])
              refine wpAnyH_ready (rs := [8]) (by kernel_rfl) (by simp) ?_
              refine AllReadyH.cons rfl (fun K hK => ?_) AllReadyH.nil
              clear hHeld
              have z0 := w1.out.c0
              have f0 := Row.frozen w1.out 0
              have v1 := Lib.hid (w1.out.set0 (.slice pn (j + 1) qn))
              have v2 := Lib.hid (w2.out.cellRow w1.out 0 (.slice pn (j + 1) qn))
              have v3 : Hid (RowH _ _ (.slice none 0 0) (.slice none 0 0) (.slice none 0 0)) := Row.other w3.out ⟨gC, 0, none⟩ (by have := hgc.out; simp; omega) (.slice pn (j + 1) qn)
              have v4 := Lib.hid (w4.out.setCell (p := ⟨gC, 0, none⟩) (by have := hgc.out; simp only; omega) (.slice pn (j + 1) qn))
              have v5 : Hid (w.heap.size + 2 ≤ (x20.setCell ⟨gC, 0, none⟩ (.slice pn (j + 1) qn)).heap.size) := by unfold Hid; rw [World.size_setCell]; exact w5.out
              go_simp
              refine hK.out _ _ trivial (fun hHeld => ?_)
              clear hK K z0 f0
              (try simp only [Act.put, List.getElem_toArray, List.getElem_cons_zero, List.getElem_cons_succ, List.setIfInBounds_toArray, List.set_cons_zero, List.set_cons_succ])
              refine wpAnyH_done (by kernel_rfl) ?_ _
              go_wp2_with fail
              go_roundw
              case rel => exact ⟨j + 1, by omega, by go_num, pn, qn, v1, (by unfold Hid; rw [HTK.out, World.size_setCell]; exact v2.out), v3, v4, v5⟩
              case measure => simp [intOf]; omega
      · obtain rfl : j = n := by omega
        have HE : Hid (h.f.take j = h.f) := List.take_of_length_le (by rw [HN.out]; exact Nat.le_refl _)
        have H2 : Hid (OwnH wr w.heap.size wr.heap.size (.slice pa j qa) (.slice pb h.l.length qb) (.slice pc h.r.length qc) h) := by
          have := how.out
          rw [HE.out] at this
          exact this
        clear how
        generalize h.l.length = nl at *
        generalize h.r.length = nr at *
        go_wp2_with (first
          | (refine wl_loadH rfl _ rfl gC _ _ _ hrw.out rfl ?_)
          | (refine wl_storeH rfl _ _ rfl (w.heap.size + 1) (.slice pa j qa) (.slice pb nl qb) (.slice pc nr qc) _ _ _ hr2.out rfl rfl rfl rfl rfl ?_))
        refine bodyPost_ret (res_row Try.results105 (Row.put hr2.out (c3 (.slice pa j qa) (.slice pb nl qb) (.slice pc nr qc))) rfl Try.underlying32 rfl info_heap) rfl ⟨_, _, _, rfl, ?_, below_setRow hbw.out (by omega) _⟩
        rw [size_setRow]
        exact H2.out.wholeRow hr2.out _
end Go.Proofs.Ytbmfkgfmibpkjaa
namespace Go.Proofs.Ytbmfkgfmibpkjaa
open Go.RowKit Ph
theorem s_l5Own (a b c : Value) (h : H) (w : World) (hA : HeapAt w a b c h) (hG : Ph.Good h) : Calls Try.prog 105 #[hv a b c] w fun e w' => ∃ a' b' c', e = .returned (hv a' b' c') ∧ OwnH w' w.heap.size w'.heap.size a' b' c' h ∧ Below w.heap.size w w' :=
  s_l5OwnS a b c h w hA (by obtain ⟨_, h1, h2, h3, h4⟩ := good_wt hG; exact ⟨h1, h2, h3, h4⟩)
end Go.Proofs.Ytbmfkgfmibpkjaa
namespace Go.Proofs.Ytbmfkgfmibpkjaa.Ph
theorem set_last {α : Type} (l : List α) (x y : α) : (l ++ [x]).set l.length y = l ++ [y] := by
  rw [List.set_append_right _ _ (Nat.le_refl _), Nat.sub_self, List.set_cons_zero]
theorem newS_yes {h : H} {m : Nat} (g : Good h) (hok : newOk h (m : Int) = true) : newS h m = ((newP h (m : Int)).1, (((newP h (m : Int)).2 : Nat) : Int)) := by
  rw [newP_yes hok, Int.toNat_natCast]
  have hle := place_le h.l
  have hll := g.ll
  unfold newOk at hok
  simp only [Bool.and_eq_true, decide_eq_true_eq] at hok
  have h12 := hok.2
  unfold newS grown1
  by_cases hp : placeOf h.l < h.l.length
  · rw [if_pos hp, if_pos hp]
  · have hpe : placeOf h.l = h.l.length := by omega
    rw [if_neg hp, if_neg hp, if_neg (by omega)]
    unfold put1
    simp only
    have e1 : (h.f ++ [[]]).set (placeOf h.l) (List.replicate m (-1)) = h.f ++ [List.replicate m (-1)] := by rw [hpe, hll]; exact set_last _ _ _
    have e2 : (h.l ++ [false]).set (placeOf h.l) true = h.l ++ [true] := by rw [hpe]; exact set_last _ _ _
    rw [e1, e2, hpe, hll]
theorem newS_no {h : H} {m : Nat} (g : Good h) (hm : m ≤ 3) (hok : newOk h (m : Int) = false) : (newS h m).2 = -1 := by
  have hle := place_le h.l
  have hll := g.ll
  have hn := g.n
  have h12 : ¬ placeOf h.l < 12 := fun q => by
    have : newOk h (m : Int) = true := by
      unfold newOk
      rw [good_iff.2 g, decide_eq_true (show (0 : Int) ≤ (m : Int) by omega), decide_eq_true (show (m : Int) ≤ 3 by omega), decide_eq_true q]; rfl
    rw [hok] at this; cases this
  unfold newS
  rw [if_neg (by omega), if_pos (by omega)]
end Go.Proofs.Ytbmfkgfmibpkjaa.Ph
namespace Go.Proofs.Ytbmfkgfmibpkjaa.Ph
theorem setF_facts {h : H} {t f z : Int} (hok : setFOk h t f z = true) : ∃ tn fn : Nat, t = tn ∧ f = fn ∧ tn < h.f.length ∧ fn < (h.f.getD tn []).length ∧ (setF h t f z).f.length = h.f.length ∧ (setF h t f z).l.length = h.l.length ∧ (setF h t f z).r.length = h.r.length ∧ (∀ k, (setF h t f z).f.getD k [] = if k = tn then (h.f.getD tn []).set fn z else h.f.getD k []) ∧ good h = true := by
  have hok' := hok
  unfold setFOk at hok'
  simp only [Bool.and_eq_true] at hok'
  obtain ⟨⟨hg, hb⟩, _⟩ := hok'
  obtain ⟨tn, fn, rfl, rfl, h1, h2⟩ := hasFB_iff hb (good_iff.1 hg)
  refine ⟨tn, fn, rfl, rfl, h1, h2, ?_⟩
  rw [setF_yes hok, Int.toNat_natCast, Int.toNat_natCast]
  exact ⟨by simp only [List.length_set], rfl, rfl, fun k => by simp only; rw [getD_setL h1], hg⟩
/-- The place that a new object takes was none's. -/
theorem place_dead (l : List Bool) : l.getD (placeOf l) false = false := by
  by_cases hp : placeOf l < l.length
  · have : (fun b => !b) l[placeOf l] = true := List.findIdx_getElem (w := hp)
    simp only [Bool.not_eq_true'] at this
    simp [List.getD, List.getElem?_eq_getElem hp, this]
  · simp [List.getD, List.getElem?_eq_none (Nat.le_of_not_lt hp)]
structure New (h N : H) (p m : Nat) : Prop where
  n : N.f.length = N.l.length ∧ N.f.length ≤ 12 ∧ p < N.f.length
  f : ∀ i, N.f.getD i [] = if i = p then List.replicate m (-1) else h.f.getD i []
  l : ∀ i, N.l.getD i false = if i = p then true else h.l.getD i false
  r : N.r = h.r
  d : h.l.getD p false = false
theorem New.of {h : H} {m : Int} (hok : newOk h m = true) : New h (newP h m).1 (newP h m).2 m.toNat := by
  have hok' := hok
  unfold newOk at hok'
  simp only [Bool.and_eq_true, decide_eq_true_eq] at hok'
  have g := good_iff.1 hok'.1.1.1
  have h12 := hok'.2
  have hle := place_le h.l
  have hll := g.ll
  have hn := g.n
  rw [newP_yes hok]
  simp only
  have hd := place_dead h.l
  unfold put1 grown1
  by_cases hp : placeOf h.l < h.l.length
  · rw [if_pos hp]
    refine ⟨by simp only [List.length_set]; omega, fun i => ?_, fun i => ?_, rfl, hd⟩
    · simp only; rw [getD_setL (by omega)]
    · simp only; rw [getD_set (by omega)]
  · rw [if_neg hp]
    have hpe : placeOf h.l = h.l.length := by omega
    refine ⟨by simp; omega, fun i => ?_, fun i => ?_, rfl, hd⟩
    · simp only
      rw [getD_setL (by simp; omega)]
      by_cases e : i = placeOf h.l
      · rw [if_pos e, if_pos e]
      · rw [if_neg e, if_neg e]
        by_cases hi : i < h.f.length
        · simp [List.getD, List.getElem?_append_left hi]
        · have h1 : (h.f ++ [([] : List Int)])[i]? = none := List.getElem?_eq_none (by simp; omega)
          have h2 : h.f[i]? = none := List.getElem?_eq_none (by omega)
          simp [List.getD, h1, h2]
    · simp only
      rw [getD_set (by simp; omega)]
      by_cases e : i = placeOf h.l
      · rw [if_pos e, if_pos e]
      · rw [if_neg e, if_neg e]
        by_cases hi : i < h.l.length
        · simp [List.getD, List.getElem?_append_left hi]
        · have h1 : (h.l ++ [false])[i]? = none := List.getElem?_eq_none (by simp; omega)
          have h2 : h.l[i]? = none := List.getElem?_eq_none (by omega)
          simp [List.getD, h1, h2]
theorem New.ref {h N : H} {p m : Nat} (k : New h N p m) {zs : List Int} (hz : refsB h.l zs = true) : refsB N.l zs = true := by
  rw [refsB_iff] at hz ⊢
  intro z q
  rcases refB_iff.1 (hz z q) with e | e
  · exact refB_iff.2 (.inl e)
  · obtain ⟨e1, e2⟩ := liveB_iff.1 e
    refine refB_iff.2 (.inr (liveB_iff.2 ⟨e1, ?_⟩))
    rw [k.l]
    split
    · rfl
    · exact e2
theorem New.good {h N : H} {p m : Nat} (g : Good h) (hm : m ≤ 3) (k : New h N p m) : Good N := by
  refine ⟨k.n.2.1, k.n.1.symm, fun i hi => ?_, by rw [k.r]; exact g.rn, by rw [k.r]; exact k.ref g.rr⟩
  rw [k.f, k.l]
  by_cases e : i = p
  · rw [if_pos e, if_pos e]
    refine ⟨by simp; omega, .inl rfl, ?_⟩
    rw [refsB_iff]
    intro z hz
    exact refB_iff.2 (.inl (List.eq_of_mem_replicate hz))
  · rw [if_neg e, if_neg e]
    by_cases hi2 : i < h.f.length
    · exact ⟨(g.row i hi2).1, (g.row i hi2).2.1, k.ref (g.row i hi2).2.2⟩
    · have : h.f.getD i [] = [] := by simp [List.getD, List.getElem?_eq_none (Nat.le_of_not_lt hi2)]
      rw [this]
      exact ⟨by simp, .inr rfl, rfl⟩
end Go.Proofs.Ytbmfkgfmibpkjaa.Ph
namespace Go.Proofs.Ytbmfkgfmibpkjaa.Ph
structure Mv where
  k : Int
  a : Int
  b : Int
  t : Int
noncomputable def stepOk (h : H) (cs : List Int) (v : Mv) : Bool :=
  if v.k = 1 then decide (v.b = 0) && decide (v.t = 0) && decide (0 ≤ v.a) && decide (v.a ≤ 100) && !(ofC cs 1).isEmpty
  else if v.k = 2 then liveB (reachL h.f h.r) v.a && refB (reachL h.f h.r) v.t && setFOk h v.a v.b v.t
  else if v.k = 3 then decide (v.b = 0) && refB (reachL h.f h.r) v.t && setROk h v.a v.t
  else if v.k = 4 then decide (v.t = 0) && hasRB h v.b && newOk h v.a
  else false
def greyN (cs : List Int) (a : Int) : Nat := ((ofC cs 1).getD (a.toNat % (ofC cs 1).length) 0).toNat
def newC (cs : List Int) (p : Nat) (fresh : Int) : List Int := (if p = cs.length then cs ++ [0] else cs).set p fresh
def newH (h : H) (a b : Int) : H := ⟨(newP h a).1.f, (newP h a).1.l, (newP h a).1.r.set b.toNat ((newP h a).2 : Int)⟩
def stepH (h : H) (v : Mv) : H :=
  if v.k = 2 then setF h v.a v.b v.t else if v.k = 3 then setR h v.a v.t else if v.k = 4 then newH h v.a v.b else h
def wasOf (h : H) (v : Mv) : Int := if v.k = 2 then (h.f.getD v.a.toNat []).getD v.b.toNat 0 else if v.k = 3 then h.r.getD v.a.toNat 0 else h.r.getD v.b.toNat 0
def stepC (h : H) (cs : List Int) (v : Mv) (put : Bool) : List Int :=
  if v.k = 1 then scan cs (h.f.getD (greyN cs v.a) []) (greyN cs v.a)
  else if v.k = 4 then (if put = true then newC cs (newP h v.a).2 1 else shade (newC cs (newP h v.a).2 2) (wasOf h v))
  else shade cs (if put = true then v.t else wasOf h v)
/-- A scan of the chosen Grey object, where there is one. -/
def scanAt (h : H) (cs : List Int) (a : Int) : List Int := if ofC cs 1 = [] then cs else scan cs (h.f.getD (greyN cs a) []) (greyN cs a)
theorem scanAt_no {h : H} {cs : List Int} {a : Int} (e : ofC cs 1 = []) : scanAt h cs a = cs := by unfold scanAt; rw [if_pos e]
theorem scanAt_yes {h : H} {cs : List Int} {a : Int} (e : ofC cs 1 ≠ []) : scanAt h cs a = scan cs (h.f.getD (greyN cs a) []) (greyN cs a) := by unfold scanAt; rw [if_neg e]
theorem greyN_is {cs : List Int} (hn : ofC cs 1 ≠ []) (a : Int) : greyN cs a < cs.length ∧ cs.getD (greyN cs a) 0 = 1 := by
  have h0 : 0 < (ofC cs 1).length := List.length_pos_iff.2 hn
  have hm : (ofC cs 1).getD (a.toNat % (ofC cs 1).length) 0 ∈ ofC cs 1 := getD_memI (Nat.mod_lt _ h0)
  obtain ⟨i, hi, h1, e⟩ := mem_ofC.1 hm
  unfold greyN
  rw [e, Int.toNat_natCast]
  exact ⟨hi, h1⟩
theorem newC_len (cs : List Int) (p : Nat) (x : Int) : (newC cs p x).length = if p = cs.length then cs.length + 1 else cs.length := by
  unfold newC
  split <;> simp
theorem newC_get {cs : List Int} {p : Nat} (hp : p ≤ cs.length) (x : Int) (i : Nat) : (newC cs p x).getD i 0 = if i = p then x else cs.getD i 0 := by
  unfold newC
  by_cases e : p = cs.length
  · rw [if_pos e, getD_setI (by simp; omega)]
    by_cases q : i = p
    · rw [if_pos q, if_pos q]
    · rw [if_neg q, if_neg q]
      by_cases r : i < cs.length
      · simp [List.getD, List.getElem?_append_left r]
      · rw [getD_outI r, getD_outI (by simp; omega)]
  · rw [if_neg e, getD_setI (by omega)]
end Go.Proofs.Ytbmfkgfmibpkjaa.Ph
namespace Go.Proofs.Ytbmfkgfmibpkjaa
open Go.RowKit Ph
abbrev mo (v : Mv) : Value := .agg #[.int .i64 v.k, .int .i64 v.a, .int .i64 v.b, .int .i64 v.t]
abbrev mo4 (v : Mv) : Array Value := #[.int .i64 v.k, .int .i64 v.a, .int .i64 v.b, .int .i64 v.t]
abbrev i64M (v : Mv) : Prop := (-9223372036854775808 ≤ v.k ∧ v.k ≤ 9223372036854775807) ∧ (-9223372036854775808 ≤ v.a ∧ v.a ≤ 9223372036854775807) ∧ (-9223372036854775808 ≤ v.b ∧ v.b ≤ 9223372036854775807) ∧ (-9223372036854775808 ≤ v.t ∧ v.t ≤ 9223372036854775807)
end Go.Proofs.Ytbmfkgfmibpkjaa
namespace Go.Proofs.Ytbmfkgfmibpkjaa
open Go.ChangeShapes Go.WideShapes Go.ChangeAt Go.RowKit Ph

def MovesAt (w : World) (v : Value) (ms : List Mv) : Prop :=
  ∃ a cap, v = .slice a ms.length cap ∧ (0 < ms.length → ∃ b off, a = some ⟨b, off, none⟩ ∧ ∀ i, i < ms.length → w.cell? ⟨b, off + i * 4, none⟩ = some (.int .i64 (ms.getD i ⟨0, 0, 0, 0⟩).k) ∧ w.cell? ⟨b, off + i * 4 + 1, none⟩ = some (.int .i64 (ms.getD i ⟨0, 0, 0, 0⟩).a) ∧ w.cell? ⟨b, off + i * 4 + 2, none⟩ = some (.int .i64 (ms.getD i ⟨0, 0, 0, 0⟩).b) ∧ w.cell? ⟨b, off + i * 4 + 3, none⟩ = some (.int .i64 (ms.getD i ⟨0, 0, 0, 0⟩).t))
theorem cellsMove : Try.prog.cellsOf 30 = 4 := by kernel_rfl
theorem cellsIntM : Try.prog.cellsOf 3 = 1 := by kernel_rfl
set_option maxRecDepth 100000 in
theorem moves_of_arg {H : Type} {enc : TypeId × Value → H} {W : World} {base : Nat} {v : Value} {d : DataW H} {p : List MemPlace} (hval : Value.okWide Try.prog W .any base 43 v)
    (h : DataW.Trod enc Try.prog W 0 (fun _ => true) true 43 v d p) : ∃ ms, MovesAt W v ms ∧ (∀ m ∈ ms, i64M m) ∧ ms.length ≤ 9223372036854775807 := by
  obtain ⟨a0, len, cap, rfl⟩ := okWide_slice Try.underlying43 hval
  obtain ⟨fuel, hf⟩ := h
  rcases Deep.open_slice Try.underlying43 hf with ⟨hcs, hx⟩ | ⟨a, len', cap', m, n, D, Pl, hcs, hb, hl, hm, hmm, hx0, hx⟩
  · simp [Value.cells] at hcs
    obtain ⟨rfl, rfl, rfl⟩ := hcs
    exact ⟨[], ⟨none, 0, rfl, fun h => absurd h (by simp)⟩, fun r hr => by simp at hr, by simp⟩
  · simp [Value.cells] at hcs
    obtain ⟨rfl, rfl, rfl⟩ := hcs
    simp only [if_true] at hmm
    subst hmm
    have each : ∀ i, i < len → ∃ q : Mv, W.cell? (a.add (i * 4)) = some (.int .i64 q.k) ∧ W.cell? (a.add (i * 4 + 1)) = some (.int .i64 q.a) ∧ W.cell? (a.add (i * 4 + 2)) = some (.int .i64 q.b) ∧ W.cell? (a.add (i * 4 + 3)) = some (.int .i64 q.t) ∧ i64M q := fun i hi => by
      obtain ⟨cs', h1, h2⟩ := hx i (by omega)
      rw [cellsMove] at h1
      obtain ⟨_, hlen, hcell⟩ := World.cells?_some h1
      obtain ⟨xs, k, hk, hxy, _, hxl, hf⟩ := DataW.trod_struct Try.underlying30 h2
      match xs, hxl, cs', hlen with
      | [y0, y1, y2, y3], _, [v0, v1, v2, v3], _ =>
        have g0 := hf 0 _ rfl
        have g1 := hf 1 _ rfl
        have g2 := hf 2 _ rfl
        have g3 := hf 3 _ rfl
        simp [cellsIntM] at g0 g1 g2 g3
        have e0 := hcell 0 (by omega)
        have e1 := hcell 1 (by omega)
        have e2 := hcell 2 (by omega)
        have e3 := hcell 3 (by omega)
        rw [Deep.add_add] at e0 e1 e2 e3
        obtain ⟨x, f0, _, w0⟩ := DataW.trod_int Try.underlying3 g0
        obtain ⟨y, f1, _, w1⟩ := DataW.trod_int Try.underlying3 g1
        obtain ⟨z, f2, _, w2⟩ := DataW.trod_int Try.underlying3 g2
        obtain ⟨u, f3, _, w3⟩ := DataW.trod_int Try.underlying3 g3
        simp only [List.cons.injEq, and_true] at f0 f1 f2 f3
        subst f0; subst f1; subst f2; subst f3
        exact ⟨⟨x, y, z, u⟩, by simpa using e0, by simpa using e1, by simpa using e2, by simpa using e3, bounds_i64 w0, bounds_i64 w1, bounds_i64 w2, bounds_i64 w3⟩
    haveI : Inhabited Mv := ⟨⟨0, 0, 0, 0⟩⟩
    obtain ⟨f, hf⟩ := Deep.choose_lt each
    have hln : ((List.range len).map f).length = len := by simp
    have hgd : ∀ i, i < len → ((List.range len).map f).getD i ⟨0, 0, 0, 0⟩ = f i := fun i hi => by simp [List.getD, hi]
    refine ⟨(List.range len).map f, ⟨some a, _, by rw [hln], fun h0 => ?_⟩, fun r hr => ?_, by rw [hln]; unfold maxLen at hm; omega⟩
    · rw [hln] at h0 ⊢
      obtain ⟨b, off, spot⟩ := a
      have hspot : spot = none := by simpa [Addr.add] using World.cell?_spot (hf 0 h0).1
      subst hspot
      refine ⟨b, off, rfl, fun i hi => ?_⟩
      rw [hgd i hi]
      obtain ⟨q0, q1, q2, q3, _⟩ := hf i hi
      rw [Go.WideShapes.add_plain] at q0 q1 q2 q3
      exact ⟨q0, by rw [Nat.add_assoc]; exact q1, by rw [Nat.add_assoc]; exact q2, by rw [Nat.add_assoc]; exact q3⟩
    · simp only [List.mem_map, List.mem_range] at hr
      obtain ⟨i, hi, rfl⟩ := hr
      exact (hf i hi).2.2.2.2
end Go.Proofs.Ytbmfkgfmibpkjaa
namespace Go.Proofs.Ytbmfkgfmibpkjaa.Ph
theorem greyAt {cs : List Int} (r : Nat) (h : r < (ofC cs 1).length) : ∃ k : Nat, (ofC cs 1).getD r 0 = k ∧ k < cs.length ∧ cs.getD k 0 = 1 := by
  have := mem_ofC.1 (getD_memI h)
  obtain ⟨i, h1, h2, h3⟩ := this
  exact ⟨i, h3, h1, h2⟩
end Go.Proofs.Ytbmfkgfmibpkjaa.Ph
namespace Go.Proofs.Ytbmfkgfmibpkjaa.Ph
theorem mem_setI {zs : List Int} {k : Nat} {x z : Int} (h : z ∈ zs.set k x) : z ∈ zs ∨ z = x := List.mem_or_eq_of_mem_set h
theorem liveR_iff {h : H} {z : Int} : liveB (reachL h.f h.r) z = true ↔ 0 ≤ z ∧ z.toNat < h.f.length ∧ Reach h.f h.r z.toNat := by
  rw [liveB_iff, reachL_getD]
theorem refR_iff {h : H} {z : Int} : refB (reachL h.f h.r) z = true ↔ z = -1 ∨ (0 ≤ z ∧ z.toNat < h.f.length ∧ Reach h.f h.r z.toNat) := by
  rw [refB_iff, liveR_iff]
/-- What a field is set to leaves a heap good. -/
theorem setF_good {h : H} {t f z : Int} (hok : setFOk h t f z = true) : Good (setF h t f z) := by
  obtain ⟨tn, fn, rfl, rfl, h1, h2, e1, e2, e3, ef, hg⟩ := setF_facts hok
  have g := good_iff.1 hg
  have hok' := hok
  unfold setFOk at hok'
  simp only [Bool.and_eq_true] at hok'
  have hz := hok'.2
  have hl : (setF h tn fn z).l = h.l := by rw [setF_yes hok]
  have hr : (setF h tn fn z).r = h.r := by rw [setF_yes hok]
  refine ⟨by rw [e1]; exact g.n, by rw [e1, e2]; exact g.ll, fun i hi => ?_, by rw [hr]; exact g.rn, by rw [hl, hr]; exact g.rr⟩
  rw [e1] at hi
  rw [ef, hl]
  by_cases e : i = tn
  · rw [if_pos e]
    have r := g.row tn h1
    refine ⟨by rw [List.length_set]; exact r.1, ?_, ?_⟩
    · rcases r.2.1 with q | q
      · left; rw [e]; exact q
      · rw [q] at h2; simp at h2
    · rw [refsB_iff]
      intro y hy
      rcases mem_setI hy with q | q
      · exact (refsB_iff.1 r.2.2) y q
      · rw [q]; exact hz
  · rw [if_neg e]; exact g.row i hi
theorem setR_good {h : H} {k z : Int} (hok : setROk h k z = true) : Good (setR h k z) ∧ 0 ≤ k ∧ k.toNat < h.r.length ∧ Good h := by
  have hok' := hok
  unfold setROk hasRB at hok'
  simp only [Bool.and_eq_true, decide_eq_true_eq] at hok'
  have g := good_iff.1 hok'.1.1
  rw [setR_yes hok]
  refine ⟨⟨g.n, g.ll, g.row, by simp only [List.length_set]; exact g.rn, ?_⟩, hok'.1.2.1, by omega, g⟩
  simp only
  rw [refsB_iff]
  intro y hy
  rcases mem_setI hy with q | q
  · exact (refsB_iff.1 g.rr) y q
  · rw [q]; exact hok'.2
theorem New.goodR {h N : H} {p m : Nat} (g : Good h) (hm : m ≤ 3) (k : New h N p m) (b : Nat) : Good ⟨N.f, N.l, N.r.set b (p : Int)⟩ := by
  have q := k.good g hm
  refine ⟨q.n, q.ll, q.row, by simp only [List.length_set]; exact q.rn, ?_⟩
  simp only
  rw [refsB_iff]
  intro y hy
  rcases mem_setI hy with e | e
  · exact (refsB_iff.1 q.rr) y e
  · rw [e]
    refine refB_iff.2 (.inr (liveB_iff.2 ⟨by omega, ?_⟩))
    rw [Int.toNat_natCast, k.l, if_pos rfl]
theorem newOk_iff {h : H} {m : Int} (hok : newOk h m = true) : Good h ∧ 0 ≤ m ∧ m ≤ 3 := by
  unfold newOk at hok
  simp only [Bool.and_eq_true, decide_eq_true_eq] at hok
  exact ⟨good_iff.1 hok.1.1.1, hok.1.1.2, hok.1.2⟩
theorem newP_place {h : H} {m : Int} (hok : newOk h m = true) : (newP h m).2 ≤ h.f.length ∧ (newP h m).1.f.length = if (newP h m).2 = h.f.length then h.f.length + 1 else h.f.length := by
  have g := (newOk_iff hok).1
  have hle := place_le h.l
  have hll := g.ll
  rw [newP_yes hok]
  simp only
  refine ⟨by omega, ?_⟩
  unfold put1 grown1
  by_cases hp : placeOf h.l < h.l.length
  · rw [if_pos hp, if_neg (by omega)]; simp
  · rw [if_neg hp, if_pos (by omega)]; simp
/-- Kinds of moves, as cases. -/
theorem step_cases {h : H} {cs : List Int} {v : Mv} (hok : stepOk h cs v = true) :
    (v.k = 1 ∧ v.b = 0 ∧ v.t = 0 ∧ 0 ≤ v.a ∧ v.a ≤ 100 ∧ ofC cs 1 ≠ []) ∨ (v.k = 2 ∧ liveB (reachL h.f h.r) v.a = true ∧ refB (reachL h.f h.r) v.t = true ∧ setFOk h v.a v.b v.t = true) ∨ (v.k = 3 ∧ v.b = 0 ∧ refB (reachL h.f h.r) v.t = true ∧ setROk h v.a v.t = true) ∨ (v.k = 4 ∧ v.t = 0 ∧ hasRB h v.b = true ∧ newOk h v.a = true) := by
  unfold stepOk at hok
  split at hok
  · next e =>
    simp only [Bool.and_eq_true, decide_eq_true_eq, Bool.not_eq_true', List.isEmpty_eq_false_iff] at hok
    exact .inl ⟨e, hok.1.1.1.1, hok.1.1.1.2, hok.1.1.2, hok.1.2, hok.2⟩
  · split at hok
    · next e =>
      simp only [Bool.and_eq_true] at hok
      exact .inr (.inl ⟨e, hok.1.1, hok.1.2, hok.2⟩)
    · split at hok
      · next e =>
        simp only [Bool.and_eq_true, decide_eq_true_eq] at hok
        exact .inr (.inr (.inl ⟨e, hok.1.1, hok.1.2, hok.2⟩))
      · split at hok
        · next e =>
          simp only [Bool.and_eq_true, decide_eq_true_eq] at hok
          exact .inr (.inr (.inr ⟨e, hok.1.1, hok.1.2, hok.2⟩))
        · cases hok
theorem stepH1 {h : H} {v : Mv} (e : v.k = 1) : stepH h v = h := by unfold stepH; rw [if_neg (by omega), if_neg (by omega), if_neg (by omega)]
theorem stepH2 {h : H} {v : Mv} (e : v.k = 2) : stepH h v = setF h v.a v.b v.t := by unfold stepH; rw [if_pos e]
theorem stepH3 {h : H} {v : Mv} (e : v.k = 3) : stepH h v = setR h v.a v.t := by unfold stepH; rw [if_neg (by omega), if_pos e]
theorem stepH4 {h : H} {v : Mv} (e : v.k = 4) : stepH h v = newH h v.a v.b := by unfold stepH; rw [if_neg (by omega), if_neg (by omega), if_pos e]
theorem stepC1 {h : H} {cs : List Int} {v : Mv} {put : Bool} (e : v.k = 1) : stepC h cs v put = scan cs (h.f.getD (greyN cs v.a) []) (greyN cs v.a) := by unfold stepC; rw [if_pos e]
theorem stepC23 {h : H} {cs : List Int} {v : Mv} {put : Bool} (e : v.k = 2 ∨ v.k = 3) : stepC h cs v put = shade cs (if put = true then v.t else wasOf h v) := by unfold stepC; rw [if_neg (by omega), if_neg (by omega)]
theorem stepC4 {h : H} {cs : List Int} {v : Mv} {put : Bool} (e : v.k = 4) : stepC h cs v put = (if put = true then newC cs (newP h v.a).2 1 else shade (newC cs (newP h v.a).2 2) (wasOf h v)) := by unfold stepC; rw [if_neg (by omega), if_pos e]
theorem Col.newC {cs : List Int} (hc : Col cs) {p : Nat} (hp : p ≤ cs.length) {x : Int} (h0 : 0 ≤ x) (h2 : x ≤ 2) : Col (newC cs p x) := fun i => by
  rw [newC_get hp]
  split
  · exact ⟨h0, h2⟩
  · exact hc i
/-- A move leaves a good marking good. -/
theorem step_good {h : H} {cs : List Int} {v : Mv} (put : Bool) (hb : bothB h cs = true) (hok : stepOk h cs v = true) : bothB (stepH h v) (stepC h cs v put) = true := by
  obtain ⟨g, hl, hc⟩ := bothB_iff.1 hb
  rw [bothB_iff]
  rcases step_cases hok with ⟨e, _⟩ | ⟨e, _, _, q⟩ | ⟨e, _, _, q⟩ | ⟨e, _, _, q⟩
  · rw [stepH1 e, stepC1 e]; exact ⟨g, by rw [scan_len, hl], hc.scan _ _⟩
  · rw [stepH2 e, stepC23 (.inl e)]; exact ⟨setF_good q, by rw [shade_len, hl]; obtain ⟨_, _, _, _, _, _, e1, _⟩ := setF_facts q; exact e1.symm, hc.shade _⟩
  · rw [stepH3 e, stepC23 (.inr e)]; exact ⟨(setR_good q).1, by rw [shade_len, hl, setR_yes q], hc.shade _⟩
  · have k := New.of q
    obtain ⟨_, m0, m3⟩ := newOk_iff q
    obtain ⟨p1, p2⟩ := newP_place q
    rw [stepH4 e, stepC4 e]
    refine ⟨k.goodR g (by omega) _, ?_, ?_⟩
    · have : (newH h v.a v.b).f.length = if (newP h v.a).2 = h.f.length then h.f.length + 1 else h.f.length := p2
      rw [this]
      split
      · rw [newC_len, hl]
      · rw [shade_len, newC_len, hl]
    · split
      · exact hc.newC (by omega) (by omega) (by omega)
      · exact (hc.newC (by omega) (by omega) (by omega)).shade _
end Go.Proofs.Ytbmfkgfmibpkjaa.Ph
namespace Go.Proofs.Ytbmfkgfmibpkjaa
open Go.RowKit Ph

abbrev mv (a b c d : Value) : Value := .agg #[a, b, c, d]
abbrev m4 (a b c d : Value) : Array Value := #[a, b, c, d]
abbrev nilS : Value := .slice none 0 0
/-- A list of ints in blocks between lo and hi. -/
def OwnC (w : World) (lo hi : Nat) (d : Value) (cs : List Int) : Prop := OwnH w lo hi (.slice none 0 0) (.slice none 0 0) d ⟨[], [], cs⟩
theorem OwnC.reads {w : World} {lo hi : Nat} {d : Value} {cs : List Int} (k : OwnC w lo hi d cs) : IntsAt w d cs := (OwnH.reads k).r
theorem OwnC.own {w : World} {lo hi : Nat} {d : Value} {cs : List Int} (k : OwnC w lo hi d cs) : Own w lo d cs := by obtain ⟨us, k⟩ := k; exact FamH.roots k
theorem OwnC.of {w : World} {lo hi : Nat} {d : Value} {cs : List Int} (ho : Own w lo d cs) (hh : ∀ g, d.ownBlock = some g → g < hi) (hl : lo ≤ hi) : OwnC w lo hi d cs := by
  obtain ⟨us, k⟩ := OwnH.nil w lo lo
  exact ⟨us, k.putRoots ho hl fun g hg => .inl ⟨(owns_lt ho hg).1, hh g hg⟩⟩
theorem OwnC.set {w w' : World} {lo hi : Nat} {d : Value} {cs cs' : List Int} (k : OwnC w lo hi d cs) (ho : Own w' lo d cs') (hg : w.grownBy w' d.ownBlock) : OwnC w' lo hi d cs' ∧ Chg lo hi w w' := by
  obtain ⟨us, k⟩ := k
  exact ⟨⟨us, FamH.setRoots k hg ho⟩, Chg.of_grown hg fun g' hg' => by have := Fam.blk k (k := 2) (g := g') (by simp) hg'; exact ⟨this.1, this.2.1⟩⟩
theorem Chg.wide {lo hi lo' hi' : Nat} {w w' : World} (h : Chg lo hi w w') (h1 : lo' ≤ lo) (h2 : hi ≤ hi') : Chg lo' hi' w w' := ⟨h.os, h.tape, h.output, h.size, fun i hi hr => h.block i hi (by omega)⟩
/-- What a call owns of a marking: the heap's blocks and the colours' lie in two stretches. -/
def OwnM (w : World) (lo hi : Nat) (a b c d : Value) (h : H) (cs : List Int) : Prop :=
  ∃ l1 h1 l2 h2, OwnH w l1 h1 a b c h ∧ OwnC w l2 h2 d cs ∧ lo ≤ l1 ∧ h1 ≤ hi ∧ lo ≤ l2 ∧ h2 ≤ hi ∧ (h1 ≤ l2 ∨ h2 ≤ l1)
section
variable {w w' : World} {lo hi : Nat} {a b c d : Value} {h : H} {cs : List Int}
theorem OwnM.heap (k : OwnM w lo hi a b c d h cs) : HeapAt w a b c h := by obtain ⟨_, _, _, _, k, _⟩ := k; exact k.reads
theorem OwnM.cols (k : OwnM w lo hi a b c d h cs) : IntsAt w d cs := by obtain ⟨_, _, _, _, _, k, _⟩ := k; exact k.reads
theorem OwnM.below (k : OwnM w lo hi a b c d h cs) (hb : Below w.heap.size w w') : OwnM w' lo hi a b c d h cs := by
  obtain ⟨l1, h1, l2, h2, k1, k2, r⟩ := k
  exact ⟨l1, h1, l2, h2, k1.below hb, OwnH.below k2 hb, r⟩
theorem OwnM.chg {lo' hi' : Nat} (k : OwnM w lo hi a b c d h cs) (hc : Chg lo' hi' w w') (hd : hi ≤ lo' ∨ hi' ≤ lo) : OwnM w' lo hi a b c d h cs := by
  obtain ⟨l1, h1, l2, h2, k1, k2, r⟩ := k
  exact ⟨l1, h1, l2, h2, k1.chg hc (by omega), OwnH.chg k2 hc (by omega), r⟩
theorem OwnM.wide (k : OwnM w lo hi a b c d h cs) {lo' hi' : Nat} (e1 : lo' ≤ lo) (e2 : hi ≤ hi') : OwnM w lo' hi' a b c d h cs := by
  obtain ⟨l1, h1, l2, h2, k1, k2, r⟩ := k
  exact ⟨l1, h1, l2, h2, k1, k2, by omega⟩
theorem OwnM.out (k : OwnM w lo hi a b c d h cs) (hb : ∀ i, lo ≤ i → w'.heap[i]? = w.heap[i]?) : OwnM w' lo hi a b c d h cs := by
  obtain ⟨l1, h1, l2, h2, k1, k2, r⟩ := k
  exact ⟨l1, h1, l2, h2, k1.out fun i hi => hb i (by omega), OwnH.out k2 fun i hi => hb i (by omega), r⟩
theorem OwnM.whole (k : OwnM w lo hi a b c d h cs) (g : Nat) (hp : g < lo) (xs : Array Value) : OwnM (w.setRow g xs) lo hi a b c d h cs := k.out fun i hi => setRow_other w g i xs (by omega)
theorem OwnM.shapes (k : OwnM w lo hi a b c d h cs) : (∃ p q, a = .slice p h.f.length q) ∧ (∃ p q, b = .slice p h.l.length q) ∧ (∃ p q, c = .slice p h.r.length q) ∧ (∃ p q, d = .slice p cs.length q) := ⟨k.heap.f.shape, k.heap.l.shape, k.heap.r.shape, k.cols.shape⟩
theorem OwnM.nil (w : World) (lo hi : Nat) (hl : lo ≤ hi) : OwnM w lo hi nilS nilS nilS nilS ⟨[], [], []⟩ [] := ⟨lo, hi, hi, hi, OwnH.nil _ _ _, OwnH.nil _ _ _, by omega, by omega, by omega, by omega, by omega⟩
/-- The heap first, the colours behind it. -/
theorem OwnM.hc {mid : Nat} (k : OwnH w lo mid a b c h) (o : OwnC w mid hi d cs) (h1 : lo ≤ mid) (h2 : mid ≤ hi) : OwnM w lo hi a b c d h cs := ⟨lo, mid, mid, hi, k, o, by omega, by omega, by omega, by omega, by omega⟩
theorem OwnM.ch {mid : Nat} (k : OwnH w mid hi a b c h) (o : OwnC w lo mid d cs) (h1 : lo ≤ mid) (h2 : mid ≤ hi) : OwnM w lo hi a b c d h cs := ⟨mid, hi, lo, mid, k, o, by omega, by omega, by omega, by omega, by omega⟩
end
theorem OwnC.ofOwn {w : World} {lo : Nat} {d : Value} {cs : List Int} (ho : Own w lo d cs) (hs : lo ≤ w.heap.size) : OwnC w lo w.heap.size d cs := OwnC.of ho (fun _ hg => (owns_lt ho hg).2) hs
theorem info_marking : (Try.prog.info? 34).map (·.size) = some 4 := by kernel_rfl
def RowM (w : World) (g : Nat) (a b c d : Value) : Prop := Row w g 34 (m4 a b c d)
theorem wl_loadM {ops : Array Oper} {rest : List Oper} {o : Oper} {q : Act} {w : World} {Q : Exit → Act → World → Prop} (hgd : o.guard = none) (x : Operand) (ho : o.op = .load 34 x) (g : Nat) (a b c d : Value) (hg : RowM w g a b c d)
    (hx : q.eval x = .pointer (some ⟨g, 0, none⟩)) (h : wpList Try.prog ops Q rest (q.put o.dst (mv a b c d)) w) : wpList Try.prog ops Q (o :: rest) q w :=
  wpList_load_row hgd 34 x ho g hx 34 (m4 a b c d) (0, 0) _ hg Try.underlying34 rfl info_marking h
theorem wl_storeM {ops : Array Oper} {rest : List Oper} {o : Oper} {q : Act} {w : World} {Q : Exit → Act → World → Prop} (hgd : o.guard = none) (x y : Operand) (ho : o.op = .store 34 x y) (g : Nat) (a b c d a0 b0 c0 d0 : Value) (hg : RowM w g a0 b0 c0 d0)
    (hx : q.eval x = .pointer (some ⟨g, 0, none⟩)) (hy : q.eval y = mv a b c d) (h1 : a.oneCell' = true) (h2 : b.oneCell' = true) (h3 : c.oneCell' = true) (h4 : d.oneCell' = true) (h : wpList Try.prog ops Q rest (q.put o.dst undef) (w.setRow g (m4 a b c d))) : wpList Try.prog ops Q (o :: rest) q w :=
  wpList_store_row hgd 34 x y ho g (m4 a b c d) hx hy 34 (m4 a0 b0 c0 d0) hg info_marking rfl (by simp [Value.oneCell']; exact ⟨h1, h2, h3, h4⟩) h


set_option maxHeartbeats 1600000 in
theorem c_eqMarking (a b c d a' b' c' d' : Value) (h : H) (cs : List Int) (w : World) (hA : HeapAt w a b c h) (hC : IntsAt w d cs) (hA' : HeapAt w a' b' c' h) (hC' : IntsAt w d' cs) (hm : wtH h ≤ 1048576) (hn : cs.length ≤ 1048576) : Calls Try.prog 20 #[mv a b c d, mv a' b' c' d'] w fun e w' => e = .returned (.bool true) ∧ Below w.heap.size w w' := by
  have hB := (below1 w (.cells (m4 a b c d) 34)).alloc (by simp) (.cells (m4 a' b' c' d') 34)
  have HA := Lib.hid (hA.below hB); have HA' := Lib.hid (hA'.below hB); have HC := Lib.hid (hC.below hB); have HC' := Lib.hid (hC'.below hB)
  have HB := Lib.hid hB
  have R1 := Lib.hid (Row.alloc (Row.new w 34 (m4 a b c d)) (.cells (m4 a' b' c' d') 34))
  have R2 := Lib.hid (Row.new1 w (.cells (m4 a b c d) 34) 34 (m4 a' b' c' d'))
  clear hA hC hA' hC' hB
  have HM := Lib.hid hm; have HN := Lib.hid hn
  clear hm hn
  go_enter Try.func20, Try.ntmps20
  go_wp2_with fail
  refine (c_eqHeap a b c a' b' c' h _ HA.out HA'.out HM.out).mono ?_
  rintro e w1 ⟨rfl, hb1⟩
  have B1 := Lib.hid (bst HB.out hb1 HB.out.size)
  have q1 := Row.cell (Row.below R1.out hb1) 3
  have q2 := Row.cell (Row.below R2.out hb1) 3
  have D1 := Lib.hid (HC.out.below hb1); have D2 := Lib.hid (HC'.out.below hb1)
  clear hb1 R1 R2 HB HA HA' HC HC'
  go_wp2_with fail
  refine (c_eqIntS d d' cs cs _ D1.out D2.out (by have := HN.out; omega)).mono ?_
  rintro e w2 ⟨rfl, hw⟩
  rw [decide_eq_true (rfl : cs = cs)]
  have B2 : Hid (Below w.heap.size w w2) := by
    obtain ⟨n, rfl⟩ := hw
    exact below_drewN B1.out _
  clear hw q1 q2
  go_wp2
  go_ret
  exact ⟨rfl, B2.out⟩

set_option maxHeartbeats 1600000 in
theorem c_markMarking (lo hi : Nat) (a b c d : Value) (h : H) (cs : List Int) (k : Int) (w : World) (hown : OwnM w lo hi a b c d h cs) (h0 : 0 ≤ k) (hm : k + szM h + cs.length ≤ 9223372036854775806) (hl : h.f.length ≤ 9223372036854775806) (hs : hi ≤ w.heap.size) :
    Calls Try.prog 21 #[mv a b c d, .int .i64 k] w fun e w' => e = .returned (.int .i64 (k + szM h + cs.length)) ∧ OwnM w' lo hi a b c d (markH k h) (upFrom (k + szM h) cs.length) ∧ Chg lo hi w w' := by
  obtain ⟨l1, h1, l2, h2, k1, k2, e1, e2, e3, e4, e5⟩ := hown
  have hB := below1 w (.cells (m4 a b c d) 34)
  have K1 := Lib.hid (k1.below hB); have K2 := Lib.hid (OwnH.below k2 hB)
  have HB := Lib.hid hB
  have R1 := Lib.hid (Row.new w 34 (m4 a b c d))
  have HM := Lib.hid hm; have HL := Lib.hid hl; have HS := Lib.hid hs
  have E := Lib.hid (And.intro e1 (And.intro e2 (And.intro e3 (And.intro e4 e5))))
  clear k1 k2 hB hm hl hs e1 e2 e3 e4 e5
  go_enter Try.func21, Try.ntmps21
  go_wp2_with fail
  refine (c_markHeap l1 h1 a b c h k _ K1.out h0 (by have := HM.out; omega) HL.out (by have := E.out; have := HS.out; simp; omega)).mono ?_
  rintro e w1 ⟨rfl, ho1, hch1⟩
  have q := Row.cell (Row.chg R1.out hch1 (.inr (by have := E.out; have := HS.out; omega))) 3
  have O1 := Lib.hid ho1
  have C1 := Lib.hid (OwnH.chg K2.out hch1 (by have := E.out; omega))
  have CH := Lib.hid ((Chg.of_below (lo := lo) (hi := hi) HB.out).trans (hch1.wide (by have := E.out; omega) (by have := E.out; omega)))
  clear ho1 hch1 R1 HB K1 K2
  go_wp2_with fail
  have hr : Own _ l2 d cs := OwnC.own C1.out
  refine (c_markIntS d cs l2 (k + szM h) _ hr (by omega) (by have := HM.out; omega)).mono ?_
  rintro e w2 ⟨rfl, ho2, hg2⟩
  obtain ⟨o2, ch2⟩ := OwnC.set C1.out ho2 hg2
  have O2 := Lib.hid o2
  have O3 := Lib.hid (O1.out.chg ch2 (by have := E.out; omega))
  have CH2 := Lib.hid (CH.out.trans (ch2.wide (by have := E.out; omega) (by have := E.out; omega)))
  clear ho2 hg2 o2 ch2 q hr O1 C1 CH
  go_wp2
  go_ret
  exact ⟨rfl, ⟨l1, h1, l2, h2, O3.out, O2.out, E.out⟩, CH2.out⟩

set_option maxHeartbeats 1600000 in
theorem c_heldMarking (a b c d : Value) (h : H) (n : Nat) (k : Int) (w : World) (hA : HeapAt w a b c (markH k h)) (hC : IntsAt w d (upFrom (k + szM h) n)) (h0 : 0 ≤ k) (hm : k + szM h + n ≤ 9223372036854775806) (hl : h.f.length ≤ 9223372036854775806) :
    Calls Try.prog 22 #[mv a b c d, .int .i64 k] w fun e w' => e = .returned (.int .i64 (k + szM h + n)) ∧ Below w.heap.size w w' := by
  have hB := below1 w (.cells (m4 a b c d) 34)
  have HA := Lib.hid (hA.below hB); have HC := Lib.hid (hC.below hB)
  have HB := Lib.hid hB
  have R1 := Lib.hid (Row.new w 34 (m4 a b c d))
  have HM := Lib.hid hm; have HL := Lib.hid hl
  have i1 : ¬ k + (szM h : Int) < 0 := by omega
  have i2 : ¬ k + (szM h : Int) + (n : Int) < 0 := by omega
  clear hA hC hB hm hl
  go_enter Try.func22, Try.ntmps22
  go_wp2_with fail
  refine (c_heldHeap a b c h k _ HA.out h0 (by have := HM.out; omega) HL.out).mono ?_
  rintro e w1 ⟨rfl, hb1⟩
  have B1 := Lib.hid (bst HB.out hb1 HB.out.size)
  have q := Row.cell (Row.below R1.out hb1) 3
  have D1 := Lib.hid (HC.out.below hb1)
  have J : Hid (0 ≤ k + (szM h : Int) ∧ k + (szM h : Int) + (n : Int) ≤ 9223372036854775806) := ⟨by omega, HM.out⟩
  clear hb1 R1 HB HA HC
  go_wp2_with (first
    | (go_at_call 58; refine (c_heldIntS d n (k + szM h) _ D1.out J.out.1 J.out.2).mono ?_; rintro e w1 ⟨rfl, rfl⟩))
  go_ret
  exact ⟨rfl, B1.out⟩
end Go.Proofs.Ytbmfkgfmibpkjaa
namespace Go.Proofs.Ytbmfkgfmibpkjaa
open Go.RowKit Ph

def EndM (h : H) (cs : List Int) (ok : Bool) (w : World) (e : Ending) (w' : World) : Prop := ∃ a b c d, e = .returned (.tuple #[mv a b c d, .bool ok]) ∧ OwnM w' w.heap.size w'.heap.size a b c d h cs ∧ Below w.heap.size w w'
theorem endM_none {w w' : World} {h : H} {cs : List Int} {ok : Bool} (hb : Below w.heap.size w w') (h1 : h = ⟨[], [], []⟩) (h2 : cs = []) (h3 : ok = false) : EndM h cs ok w (.returned (.tuple #[mv nilS nilS nilS nilS, .bool false])) w' := by
  subst h1; subst h2; subst h3
  exact ⟨_, _, _, _, rfl, OwnM.nil w' _ _ hb.size, hb⟩
set_option maxHeartbeats 1600000 in
theorem c_GoodMarking (a b c d : Value) (h : H) (cs : List Int) (w : World) (hA : HeapAt w a b c h) (hC : IntsAt w d cs) : Calls Try.prog 67 #[mv a b c d] w fun e w' => e = .returned (.bool (bothB h cs)) ∧ Below w.heap.size w w' := by
  have hb0 := below1 w (.cells (m4 a b c d) 34)
  have A0 := Lib.hid (hA.below hb0); have Z0 := Lib.hid (hC.below hb0)
  have HB := Lib.hid hb0
  clear hA hC hb0
  go_enter Try.func67, Try.ntmps67
  go_wp2_with fail
  refine (c_areColoursOf a b c d h cs _ A0.out Z0.out).mono ?_
  rintro e w1 ⟨rfl, hb1⟩
  have B1 := Lib.hid (bst HB.out hb1 HB.out.size)
  clear hb1
  go_wp2
  go_ret
  exact ⟨rfl, B1.out⟩
end Go.Proofs.Ytbmfkgfmibpkjaa
