/- The project's copy of a heap. -/
import Derived.Test.YtdagkbgobnaijabHw5
import Derived.Test.YtdagkbgobnaijabHe1
import Derived.Test.YtdagkbgobnaijabHw3
namespace Go.Proofs.Ytdagkbgobnaijab
open Go.RowKit Ph

theorem good_wt {h : H} (g : Ph.Good h) : wtH h ≤ 1000 ∧ h.l.length ≤ 12 ∧ h.r.length ≤ 4 ∧ h.f.length ≤ 12 ∧ ∀ i, i < h.f.length → (h.f.getD i []).length ≤ 3 := by
  have h1 : ∀ k, k ≤ h.f.length → sumL h.f k ≤ 3 * k := fun k => by
    induction k with
    | zero => intro _; rw [sumL_zero]; exact Nat.zero_le _
    | succ k ih =>
      intro hk
      rw [sumL_succ (by omega)]
      have := ih (by omega)
      have := (g.row k (by omega)).1
      omega
  have := h1 _ (Nat.le_refl _)
  have h2 := g.n
  have h3 := g.ll
  have h4 := g.rn
  exact ⟨by unfold wtH wt; omega, by omega, h4, h2, fun i hi => (g.row i hi).1⟩
theorem RowH.set3 {w : World} {g : Nat} {a0 b0 c0 : Value} (k : RowH w g a0 b0 c0) (a b c : Value) : RowH (((w.setCell ⟨g, 0, none⟩ a).setCell ⟨g, 1, none⟩ b).setCell ⟨g, 2, none⟩ c) g a b c := ((k.set0 a).set1 b).set2 c
theorem OwnH.set3 {w : World} {lo hi g : Nat} {a b c : Value} {h : H} {a0 b0 c0 : Value} (k : OwnH w lo hi a b c h) (hr : RowH w g a0 b0 c0) (x y z : Value) : OwnH (((w.setCell ⟨g, 0, none⟩ x).setCell ⟨g, 1, none⟩ y).setCell ⟨g, 2, none⟩ z) lo hi a b c h :=
  ((k.cellRow hr 0 x).cellRow (hr.set0 x) 1 y).cellRow ((hr.set0 x).set1 y) 2 z
theorem below_set3 {B g : Nat} {w0 w : World} (hb : Below B w0 w) (hg : B ≤ g) (x y z : Value) : Below B w0 (((w.setCell ⟨g, 0, none⟩ x).setCell ⟨g, 1, none⟩ y).setCell ⟨g, 2, none⟩ z) :=
  ((hb.setCell (p := ⟨g, 0, none⟩) hg x).setCell (p := ⟨g, 1, none⟩) hg y).setCell (p := ⟨g, 2, none⟩) hg z
theorem cell_set3 {w : World} {g g' k : Nat} {v : Value} (hn : g' ≠ g) (h : w.cell? ⟨g', k, none⟩ = some v) (x y z : Value) : (((w.setCell ⟨g, 0, none⟩ x).setCell ⟨g, 1, none⟩ y).setCell ⟨g, 2, none⟩ z).cell? ⟨g', k, none⟩ = some v := by
  rw [World.cell?_setCell_far _ _ _ _ (by simp; omega), World.cell?_setCell_far _ _ _ _ (by simp; omega), World.cell?_setCell_far _ _ _ _ (by simp; omega)]; exact h
set_option maxRecDepth 100000 in
set_option maxHeartbeats 6400000 in
theorem c_copyHeap (a b c : Value) (h : H) (w : World) (hA : HeapAt w a b c h) (hG : Ph.Good h) : Calls Try.prog 84 #[hv a b c] w fun e w' => ∃ a' b' c', e = .returned (hv a' b' c') ∧ OwnH w' w.heap.size w'.heap.size a' b' c' h ∧ Below w.heap.size w w' := by
  obtain ⟨i0, hi, hz0, hz1, hz2⟩ := info_parts info_ints
  obtain ⟨_, hl12, hr4, hf12, hr3⟩ := good_wt hG
  obtain ⟨fa, fc, rfl⟩ := hA.f.shape
  obtain ⟨la, lc, rfl⟩ := hA.l.shape
  obtain ⟨ra, rc, rfl⟩ := hA.r.shape
  have HA := Lib.hid hA
  have HL : Hid (h.l.length ≤ 1048576 ∧ h.r.length ≤ 1048576) := ⟨by omega, by omega⟩
  have HR3 := Lib.hid hr3
  have hb0 := (below1 w (.cells (c3 (.slice fa h.f.length fc) (.slice la h.l.length lc) (.slice ra h.r.length rc)) 27)).alloc (by simp) (.cells (c3 (.slice none 0 0) (.slice none 0 0) (.slice none 0 0)) 27)
  have rp : RowH _ w.heap.size (.slice fa h.f.length fc) (.slice la h.l.length lc) (.slice ra h.r.length rc) := (Row.new w 27 (c3 (.slice fa h.f.length fc) (.slice la h.l.length lc) (.slice ra h.r.length rc))).alloc (.cells (c3 (.slice none 0 0) (.slice none 0 0) (.slice none 0 0)) 27)
  have r2 : RowH _ (w.heap.size + 1) (.slice none 0 0) (.slice none 0 0) (.slice none 0 0) := Row.new1 w (.cells (c3 (.slice fa h.f.length fc) (.slice la h.l.length lc) (.slice ra h.r.length rc)) 27) 27 (c3 (.slice none 0 0) (.slice none 0 0) (.slice none 0 0))
  have HB := Lib.hid hb0; have RP := Lib.hid rp; have R2 := Lib.hid r2
  clear hA hG hr3 hb0 rp r2 hl12 hr4
  generalize hn : h.f.length = n at *
  generalize hnl : h.l.length = nl at *
  generalize hnr : h.r.length = nr at *
  have HN := Lib.hid hn; have HNL := Lib.hid hnl; have HNR := Lib.hid hnr
  clear hn hnl hnr
  go_enter Try.func84, Try.ntmps84
  have cp0 := RP.out.c0
  go_wp2_with (at_make; refine wpList_make_full _ rfl _ _ 23 rfl w.heap.size 25 i0 (.slice none 0 0) 1 Try.underlying23 hi hz0 hz1 .i64 .i64 _ _ n rfl rfl rfl rfl (by rw [hz2]; omega) (by unfold maxLen; omega) (by simp; omega) ?_; intro w1 hown hgr
               rw [Nat.mul_one, show (Value.slice none 0 0).cells = #[.slice none 0 0] from rfl, toList_madeCells_one] at hown
               have hsz0 : ((w.alloc (.cells (c3 (.slice fa n fc) (.slice la nl lc) (.slice ra nr rc)) 27)).alloc (.cells (c3 (.slice none 0 0) (.slice none 0 0) (.slice none 0 0)) 27)).heap.size = w.heap.size + 2 := by simp
               rw [hsz0] at hown
               have hb1 := HB.out.grown hgr HB.out.size (fun k hk => by cases hk)
               have HO := Lib.hid hown; have B1 := Lib.hid hb1; have RP1 := Lib.hid (Row.grown RP.out hgr); have R21 := Lib.hid (Row.grown R2.out hgr)
               have d0 := Row.cell RP1.out 0
               clear hown hgr hb1 hsz0)
  clear cp0 d0
  have W1 : Hid (w.heap.size + 2 < w1.heap.size) := (owns_lt HO.out rfl).2
  go_loopw [12] (fun i wr => ∃ j : Nat, j ≤ n ∧ i = .int .i64 j ∧ Hid (∃ us, FamH wr w.heap.size wr.heap.size (.slice (some ⟨w.heap.size + 2, 0, none⟩) n n) (.slice none 0 0) (.slice none 0 0) us ⟨fillF h.f j, [], []⟩) ∧ Hid (RowH wr w.heap.size (.slice fa n fc) (.slice la nl lc) (.slice ra nr rc)) ∧ Hid (RowH wr (w.heap.size + 1) (.slice none 0 0) (.slice none 0 0) (.slice none 0 0)) ∧ Hid (Below w.heap.size w wr) ∧ Hid (w.heap.size + 2 < wr.heap.size)) (fun i _ => n - (intOf i).toNat)
  case atStart =>
    refine ⟨0, Nat.zero_le _, rfl, ⟨fun _ => .slice none 0 0, ?_⟩, RP1, R21, B1, W1⟩
    rw [fillF_zero, HN.out]
    exact FamH.made HO.out W1.out
  case round =>
    obtain ⟨j, hj, rfl, hfam, hrp, hr2, hbw, hlw⟩ := hrel
    have cp := hrp.out.c0
    by_cases hlt : j < n
    · obtain ⟨us, hf⟩ := hfam.out
      obtain ⟨fb, fo, rfl, hc⟩ := HA.out.f.at' (by omega)
      obtain ⟨u, hq, hu⟩ := hc j hlt
      have q := cellBelow hbw.out (Nat.le_refl _) hq
      have hu' := Lib.hid (hu.below hbw.out)
      have hjl : j < h.f.length := by rw [HN.out]; exact hlt
      have hlu : Hid ((h.f.getD j []).length ≤ 1048576) := by unfold Hid; have := HR3.out j hlt; omega
      have hfl : (fillF h.f j).length = n := by rw [fillF_length h.f (by omega), HN.out]
      have hfs := Lib.hid (fillF_set h.f hjl)
      have HF := Lib.hid hf; have HFL := Lib.hid hfl
      have i1 : (j : Int) < (n : Int) := by omega
      clear hc hq hu hf hjl hfl hfam
      generalize h.f.getD j [] = zs at *
      go_wp2_with fail
      refine (c_copyInts u zs _ hu'.out hlu.out).mono ?_
      rintro e w2 ⟨u2, rfl, ho2, hb2⟩
      have F2 : FamH w2 w.heap.size wr.heap.size (.slice (some ⟨w.heap.size + 2, 0, none⟩) n n) (.slice none 0 0) (.slice none 0 0) us ⟨fillF h.f j, [], []⟩ := Fam.below HF.out hb2
      have hsz : w.heap.size ≤ wr.heap.size := hbw.out.size
      obtain ⟨c1, f1⟩ := F2.cell (g := w.heap.size + 2) (cap := n) (i := j) (by simp only [HFL.out]) (by simp only [HFL.out]; exact hlt)
      obtain ⟨s1, s2⟩ := F2.putRow (i := j) (by simp only [HFL.out]; exact hlt) (ho2.mono hsz) (hi' := w2.heap.size) hb2.size (fun g hg => .inl (owns_lt ho2 hg)) (g := w.heap.size + 2) (cap := n) (by simp only [HFL.out])
      simp only [hfs.out] at s1
      have hszs : (w2.setCell ⟨w.heap.size + 2, j, none⟩ u2).heap.size = w2.heap.size := World.size_setCell _ _ _
      rw [← hszs] at s1
      have S1 := Lib.hid s1
      have S2 := Lib.hid ((bst hbw.out hb2 hbw.out.size).setCell (p := ⟨w.heap.size + 2, j, none⟩) (by simp) u2)
      have S3 : Hid (RowH (w2.setCell ⟨w.heap.size + 2, j, none⟩ u2) w.heap.size (.slice (some ⟨fb, fo, none⟩) n fc) (.slice la nl lc) (.slice ra nr rc)) := Row.other (Row.below hrp.out hb2) ⟨w.heap.size + 2, j, none⟩ (by simp) u2
      have S4 : Hid (RowH (w2.setCell ⟨w.heap.size + 2, j, none⟩ u2) (w.heap.size + 1) (.slice none 0 0) (.slice none 0 0) (.slice none 0 0)) := Row.other (Row.below hr2.out hb2) ⟨w.heap.size + 2, j, none⟩ (by simp) u2
      have S5 : Hid (w.heap.size + 2 < (w2.setCell ⟨w.heap.size + 2, j, none⟩ u2).heap.size) := by unfold Hid; rw [hszs]; have := hlw.out; have := hb2.size; omega
      obtain ⟨ua, uc, rfl⟩ := ho2.ints.shape
      clear s1 s2 F2 ho2 hb2 hszs q cp
      generalize us j = x at *
      generalize zs.length = m at *
      go_wp2_with fail
      go_roundw
      case rel => exact ⟨j + 1, by omega, by go_num, ⟨_, S1.out⟩, S3, S4, S2, S5⟩
      case measure => simp [intOf]; omega
    · obtain rfl : j = n := by omega
      have HOW : Hid (OwnH wr w.heap.size wr.heap.size (.slice (some ⟨w.heap.size + 2, 0, none⟩) j j) (.slice none 0 0) (.slice none 0 0) ⟨h.f, [], []⟩) := by
        obtain ⟨us, hf⟩ := hfam.out
        refine ⟨us, ?_⟩
        have := hf
        rwa [← HN.out, fillF_all, HN.out] at this
      clear hfam
      go_wp2_with fail
      have A1 := Lib.hid (HA.out.below (below_drew hbw.out))
      have cb : wr.drew.cell? ⟨w.heap.size, 1, none⟩ = some (.slice la nl lc) := hrp.out.c1
      have cc : wr.drew.cell? ⟨w.heap.size, 2, none⟩ = some (.slice ra nr rc) := hrp.out.c2
      have BD := below_drew (Below.refl wr.heap.size wr)
      clear cp
      refine wp_region_held_drew (S := (fun w' => w'.cell? ⟨w.heap.size, 1, none⟩ = some (.slice la nl lc) ∧ w'.cell? ⟨w.heap.size, 2, none⟩ = some (.slice ra nr rc) ∧ Below w.heap.size w w')) (by kernel_rfl) (⟨cb, cc, below_drew hbw.out⟩) (fun hHeld => ?_)
      refine wpAnyH_take (i := 0) (v := ?va0x1) rfl (by kernel_rfl) (by kernel_rfl) (by kernel_rfl) (fun _ _ _ h => h) (Or.inl ⟨by rfl, ?hy0x1⟩) (by assumption) ?rest0x1
      case hy0x1 => (intro w hSw; (try dsimp only at hSw); go_simp; try with_reducible rfl)
      (try simp only [Act.put, List.getElem_toArray, List.getElem_cons_zero, List.setIfInBounds_toArray, List.set_cons_zero, List.set_cons_succ])
      refine wpAnyH_take (i := 1) (v := ?va1x2) rfl (by kernel_rfl) (by kernel_rfl) (by kernel_rfl) (fun _ _ _ h => h) (Or.inl ⟨by rfl, ?hy1x2⟩) (by assumption) ?rest1x2
      case hy1x2 => (intro w hSw; (try dsimp only at hSw); go_simp; try with_reducible rfl)
      (try simp only [Act.put, List.getElem_toArray, List.getElem_cons_zero, List.getElem_cons_succ, List.setIfInBounds_toArray, List.set_cons_zero, List.set_cons_succ])
      refine wpAnyH_take (i := 2) (v := ?va2x3) rfl (by kernel_rfl) (by kernel_rfl) (by kernel_rfl) (fun _ _ _ h => h) (Or.inl ⟨by rfl, ?hy2x3⟩) (by assumption) ?rest2x3
      case hy2x3 => (intro w hSw; (try dsimp only at hSw); go_simp; try with_reducible rfl)
      (try simp only [Act.put, List.getElem_toArray, List.getElem_cons_zero, List.getElem_cons_succ, List.setIfInBounds_toArray, List.set_cons_zero, List.set_cons_succ])
      refine wpAnyH_take (i := 4) (v := ?va4x4) rfl (by kernel_rfl) (by kernel_rfl) (by kernel_rfl) (fun _ _ _ h => h) (Or.inl ⟨by rfl, ?hy4x4⟩) (by assumption) ?rest4x4
      case hy4x4 => (intro w hSw; (try dsimp only at hSw); go_simp; try with_reducible rfl)
      (try simp only [Act.put, List.getElem_toArray, List.getElem_cons_zero, List.getElem_cons_succ, List.setIfInBounds_toArray, List.set_cons_zero, List.set_cons_succ])
      refine wpAnyH_take (i := 5) (v := ?va5x5) rfl (by kernel_rfl) (by kernel_rfl) (by kernel_rfl) (fun _ _ _ h => h) (Or.inl ⟨by rfl, ?hy5x5⟩) (by assumption) ?rest5x5
      case hy5x5 => (intro w hSw; (try dsimp only at hSw); go_simp; try with_reducible rfl)
      (try simp only [Act.put, List.getElem_toArray, List.getElem_cons_zero, List.getElem_cons_succ, List.setIfInBounds_toArray, List.set_cons_zero, List.set_cons_succ])
      refine wpAnyH_ready (rs := [3]) (by kernel_rfl) (by simp) ?_
      refine AllReadyH.cons rfl (fun K hK => ?_) AllReadyH.nil
      go_simp
      refine (c_copyBools (.slice la nl lc) h.l _ A1.out.l (by rw [HNL.out]; exact HL.out.1)).mono ?_
      rintro e w2 ⟨vb, rfl, hob, hbb⟩
      have BE := bst BD hbb BD.size
      obtain ⟨pb, qb, hpb⟩ := (owns_bools hob).shape
      rw [HNL.out] at hpb
      subst hpb
      have cb2 := cellBelow hbb (Nat.le_refl _) cb
      have cc2 := cellBelow hbb (Nat.le_refl _) cc
      refine hK.out _ _ ⟨cb2, cc2, bst (below_drew hbw.out) hbb (below_drew hbw.out).size⟩ (fun hHeld => ?_)
      clear hK K
      (try simp only [Act.put, List.getElem_toArray, List.getElem_cons_zero, List.getElem_cons_succ, List.setIfInBounds_toArray, List.set_cons_zero, List.set_cons_succ])
      refine wpAnyH_ready (rs := [6]) (by kernel_rfl) (by simp) ?_
      refine AllReadyH.cons rfl (fun K hK => ?_) AllReadyH.nil
      go_simp
      refine (c_copyInts (.slice ra nr rc) h.r _ (A1.out.r.below hbb) (by rw [HNR.out]; exact HL.out.2)).mono ?_
      rintro e w3 ⟨vc, rfl, hoi, hbi⟩
      have BE2 := bst BE hbi BE.size
      obtain ⟨pc, qc, hpc⟩ := hoi.ints.shape
      rw [HNR.out] at hpc
      subst hpc
      have cb3 := cellBelow hbi (Nat.le_refl _) cb2
      have cc3 := cellBelow hbi (Nat.le_refl _) cc2
      refine hK.out _ _ ⟨cb3, cc3, bst hbw.out BE2 hbw.out.size⟩ (fun hHeld => ?_)
      clear hK K
      (try simp only [Act.put, List.getElem_toArray, List.getElem_cons_zero, List.getElem_cons_succ, List.setIfInBounds_toArray, List.set_cons_zero, List.set_cons_succ])
      have o2 := ((HOW.out.below (below_drew (Below.refl _ _))).below hbb).addLive hob (by have := hbw.out.size; exact this) hbb.size
      have o3 := (o2.below hbi).addRoots hoi (by have := hbw.out.size; have := hbb.size; simp at *; omega) hbi.size
      have r3 := Row.below hr2.out BE2
      have rr3 : RowH w3 (w.heap.size + 1) _ _ _ := r3
      have z0 := rr3.c0
      have z1 := rr3.c1
      have z2 := rr3.c2
      have y0 := Row.frozen r3 0
      have y1 := Row.frozen r3 1
      have y2 := Row.frozen r3 2
      have OO := Lib.hid o3; have RR := Lib.hid rr3; have LL := Lib.hid (bst hbw.out BE2 hbw.out.size)
      clear o2 o3 r3 rr3 hob hoi
      refine wpAnyH_take (i := 7) (v := ?va7x6) rfl (by kernel_rfl) (by kernel_rfl) (by kernel_rfl) (fun _ _ _ h => h) (Or.inl ⟨by rfl, ?hy7x6⟩) (by assumption) ?rest7x6
      case hy7x6 => (intro w hSw; (try dsimp only at hSw); go_simp; try with_reducible rfl)
      (try simp only [Act.put, List.getElem_toArray, List.getElem_cons_zero, List.getElem_cons_succ, List.setIfInBounds_toArray, List.set_cons_zero, List.set_cons_succ])
      refine wpAnyH_ready (rs := [8]) (by kernel_rfl) (by simp) ?_
      refine AllReadyH.cons rfl (fun K hK => ?_) AllReadyH.nil
      go_simp
      have hne : w.heap.size ≠ w.heap.size + 1 := by omega
      refine hK.out _ _ ⟨cell_set3 hne cb3 (.slice (some ⟨w.heap.size + 2, 0, none⟩) j j) (.slice pb nl qb) (.slice pc nr qc), cell_set3 hne cc3 (.slice (some ⟨w.heap.size + 2, 0, none⟩) j j) (.slice pb nl qb) (.slice pc nr qc), below_set3 LL.out (by omega) (.slice (some ⟨w.heap.size + 2, 0, none⟩) j j) (.slice pb nl qb) (.slice pc nr qc)⟩ (fun hHeld => ?_)
      clear hK K
      (try simp only [Act.put, List.getElem_toArray, List.getElem_cons_zero, List.getElem_cons_succ, List.setIfInBounds_toArray, List.set_cons_zero, List.set_cons_succ])
      refine wpAnyH_done (by kernel_rfl) ?_ _
      go_wp2_with fail
      refine bodyPost_ret (res_row Try.results84 (RR.out.set3 (.slice (some ⟨w.heap.size + 2, 0, none⟩) j j) (.slice pb nl qb) (.slice pc nr qc)) rfl Try.underlying27 rfl info_heap) rfl ⟨_, _, _, rfl, ?_, below_set3 LL.out (by omega) (.slice (some ⟨w.heap.size + 2, 0, none⟩) j j) (.slice pb nl qb) (.slice pc nr qc)⟩
      have := OO.out.set3 RR.out (.slice (some ⟨w.heap.size + 2, 0, none⟩) j j) (.slice pb nl qb) (.slice pc nr qc)
      simp only [World.size_setCell]
      exact this
end Go.Proofs.Ytdagkbgobnaijab
