/- The project's NewThing. -/
import Derived.Test.YtdagkbgobnaijabHn3
namespace Go.Proofs.Ytdagkbgobnaijab
open Go.RowKit Ph

theorem OwnH.liveNe {w : World} {lo hi gb n cb g : Nat} {a c : Value} {h : H} {cs : Array Value} (k : OwnH w lo hi a (.slice (some ⟨gb, 0, none⟩) n cb) c h) (hr : Row w g 27 cs) : gb ≠ g := by
  obtain ⟨us, hf⟩ := k
  exact owns_ne_row hf.live hr (by decide) rfl
set_option maxRecDepth 100000 in
set_option maxHeartbeats 6400000 in
theorem c_NewThing (a b c : Value) (h : H) (m : Int) (w : World) (hA : HeapAt w a b c h) : Calls Try.prog 162 #[hv a b c, .int .i64 m] w (EndHI (newP h m).1 ((newP h m).2 : Int) (newOk h m) w) := by
  have hb0 := (below1 w (.cells (c3 a b c) 27)).alloc (by simp) (.cells (c3 (.slice none 0 0) (.slice none 0 0) (.slice none 0 0)) 27)
  have A0 := Lib.hid (hA.below hb0)
  have HB := Lib.hid hb0
  have P0 := Lib.hid (show RowH _ _ a b c from (Row.new w 27 (c3 a b c)).alloc (.cells (c3 (.slice none 0 0) (.slice none 0 0) (.slice none 0 0)) 27))
  have R0 := Lib.hid (show RowH _ (w.heap.size + 1) (.slice none 0 0) (.slice none 0 0) (.slice none 0 0) from Row.new1 w (.cells (c3 a b c) 27) 27 (c3 (.slice none 0 0) (.slice none 0 0) (.slice none 0 0)))
  clear hA hb0
  have HC := Lib.hid (c_GoodHeap a b c h _ A0.out)
  have G1 := Lib.hid (good_iff (h := h)).1
  have E1 := Lib.hid (newP_no (h := h) (m := m))
  have E2 := Lib.hid (newP_yes (h := h) (m := m))
  have hok : newOk h m = (good h && decide (0 ≤ m) && decide (m ≤ 3) && decide (placeOf h.l < 12)) := rfl
  generalize good h = x at *
  generalize newOk h m = ok at *
  have p0 := P0.out.c0
  have p1 := P0.out.c1
  have p2 := P0.out.c2
  cases x
  · have HE : Hid (ok = false) := by unfold Hid; rw [hok]; rfl
    clear hok
    go_enter Try.func162, Try.ntmps162
    go_wp2_with (first
      | (go_at_call 83; refine HC.out.mono ?_; rintro e w1 ⟨rfl, hb1⟩; have B1 := Lib.hid (bst HB.out hb1 HB.out.size); have A1 := Lib.hid (A0.out.below hb1); have P1 := Lib.hid (P0.out.below hb1); have R1 := Lib.hid (R0.out.below hb1); have d10 := P1.out.c0; have d11 := P1.out.c1; have d12 := P1.out.c2; clear hb1)
      | (refine wl_storeH rfl _ _ rfl (w.heap.size + 1) (.slice none 0 0) (.slice none 0 0) (.slice none 0 0) _ _ _ R1.out rfl rfl rfl rfl rfl ?_))
    refine bodyPost_ret (res_row_slot2 Try.results162 (Row.put R1.out (c3 (.slice none 0 0) (.slice none 0 0) (.slice none 0 0))) rfl rfl rfl Try.underlying27 rfl info_heap) rfl (endHI_no (below_setRow B1.out (by omega) _) (by rw [E1.out HE.out]) (by rw [E1.out HE.out]; rfl) HE.out)
  · have G := Lib.hid (G1.out rfl)
    by_cases m0 : m < 0
    · have HE : Hid (ok = false) := by unfold Hid; rw [hok, decide_eq_false (show ¬ 0 ≤ m by omega)]; rfl
      clear hok
      go_enter Try.func162, Try.ntmps162
      go_wp2_with (first
        | (go_at_call 83; refine HC.out.mono ?_; rintro e w1 ⟨rfl, hb1⟩; have B1 := Lib.hid (bst HB.out hb1 HB.out.size); have A1 := Lib.hid (A0.out.below hb1); have P1 := Lib.hid (P0.out.below hb1); have R1 := Lib.hid (R0.out.below hb1); have d10 := P1.out.c0; have d11 := P1.out.c1; have d12 := P1.out.c2; clear hb1)
        | (refine wl_storeH rfl _ _ rfl (w.heap.size + 1) (.slice none 0 0) (.slice none 0 0) (.slice none 0 0) _ _ _ R1.out rfl rfl rfl rfl rfl ?_))
      refine bodyPost_ret (res_row_slot2 Try.results162 (Row.put R1.out (c3 (.slice none 0 0) (.slice none 0 0) (.slice none 0 0))) rfl rfl rfl Try.underlying27 rfl info_heap) rfl (endHI_no (below_setRow B1.out (by omega) _) (by rw [E1.out HE.out]) (by rw [E1.out HE.out]; rfl) HE.out)
    · by_cases m3 : 3 < m
      · have HE : Hid (ok = false) := by unfold Hid; rw [hok, decide_eq_false (show ¬ m ≤ 3 by omega)]; simp
        clear hok
        go_enter Try.func162, Try.ntmps162
        go_wp2_with (first
          | (go_at_call 83; refine HC.out.mono ?_; rintro e w1 ⟨rfl, hb1⟩; have B1 := Lib.hid (bst HB.out hb1 HB.out.size); have A1 := Lib.hid (A0.out.below hb1); have P1 := Lib.hid (P0.out.below hb1); have R1 := Lib.hid (R0.out.below hb1); have d10 := P1.out.c0; have d11 := P1.out.c1; have d12 := P1.out.c2; clear hb1)
          | (refine wl_storeH rfl _ _ rfl (w.heap.size + 1) (.slice none 0 0) (.slice none 0 0) (.slice none 0 0) _ _ _ R1.out rfl rfl rfl rfl rfl ?_))
        refine bodyPost_ret (res_row_slot2 Try.results162 (Row.put R1.out (c3 (.slice none 0 0) (.slice none 0 0) (.slice none 0 0))) rfl rfl rfl Try.underlying27 rfl info_heap) rfl (endHI_no (below_setRow B1.out (by omega) _) (by rw [E1.out HE.out]) (by rw [E1.out HE.out]; rfl) HE.out)
      · obtain ⟨mm, rfl⟩ : ∃ k : Nat, m = k := ⟨m.toNat, by omega⟩
        have hmm : mm ≤ 3 := by omega
        rw [decide_eq_true (show (0 : Int) ≤ (mm : Int) by omega), decide_eq_true (show (mm : Int) ≤ 3 by omega)] at hok
        have hple := place_le h.l
        have hln : h.l.length ≤ 12 := by have := G.out.ll; have := G.out.n; omega
        have HLF : Hid (h.l.length = h.f.length) := G.out.ll
        have n1 : ¬ (mm : Int) < 0 := by omega
        have n2 : ¬ (3 : Int) < (mm : Int) := by omega
        have HFP : Hid (∀ w', HeapAt w' a b c h → Calls Try.prog 165 #[hv a b c] w' fun e w'' => e = .returned (.tuple #[.int .i64 (placeOf h.l : Int), .bool (decide (placeOf h.l < 12))]) ∧ Below w'.heap.size w' w'') := fun w' hh => c_freePlace a b c h w' hh G.out
        by_cases h12 : placeOf h.l < 12
        · have HPL : Hid (decide (placeOf h.l < 12) = true) := decide_eq_true h12
          have HE : Hid (ok = true) := by unfold Hid; rw [hok, HPL.out]; rfl
          have hE2 := E2.out HE.out
          rw [Int.toNat_natCast] at hE2
          have HE1 : Hid ((newP h (mm : Int)).1 = put1 (grown1 h) (placeOf h.l) mm) := by unfold Hid; rw [hE2]
          have HE2 : Hid (((newP h (mm : Int)).2 : Int) = (placeOf h.l : Int)) := by unfold Hid; rw [hE2]
          have HG1 : Hid (placeOf h.l < h.l.length → grown1 h = h) := fun k => by unfold grown1; rw [if_pos k]
          have HG2 : Hid (¬ placeOf h.l < h.l.length → grown1 h = ⟨h.f ++ [[]], h.l ++ [false], h.r⟩) := fun k => by unfold grown1; rw [if_neg k]
          clear hE2 hok
          generalize (newP h (mm : Int)).1 = c1 at *
          generalize (newP h (mm : Int)).2 = c2 at *
          generalize hp : placeOf h.l = p at *
          clear hp
          go_enter Try.func162, Try.ntmps162
          go_wp2_with (first
            | (go_at_call 83; refine HC.out.mono ?_; rintro e w1 ⟨rfl, hb1⟩; have B1 := Lib.hid (bst HB.out hb1 HB.out.size); have A1 := Lib.hid (A0.out.below hb1); have P1 := Lib.hid (P0.out.below hb1); have R1 := Lib.hid (R0.out.below hb1); have d10 := P1.out.c0; have d11 := P1.out.c1; have d12 := P1.out.c2; clear hb1)
            | (go_at_call 165; refine (HFP.out _ A1.out).mono ?_; rintro e w2 ⟨rfl, hb2⟩; rw [HPL.out]; have B2 := Lib.hid (bst B1.out hb2 B1.out.size); have A2 := Lib.hid (A1.out.below hb2); have P2 := Lib.hid (P1.out.below hb2); have R2 := Lib.hid (R1.out.below hb2); have d20 := P2.out.c0; have d21 := P2.out.c1; have d22 := P2.out.c2; clear hb2))
          refine (c_copyHeap a b c h _ A2.out G.out).mono ?_
          rintro e w9 ⟨a', b', c', rfl, ho, hb9⟩
          obtain ⟨⟨pa, qa, rfl⟩, ⟨pb, qb, rfl⟩, ⟨pc, qc, rfl⟩⟩ := ho.shapes
          have hbA := below1 w9 (.cells (c3 (.slice pa h.f.length qa) (.slice pb h.l.length qb) (.slice pc h.r.length qc)) 27)
          have BX := Lib.hid ((bst B2.out hb9 B2.out.size).alloc (bst B2.out hb9 B2.out.size).size (.cells (c3 (.slice pa h.f.length qa) (.slice pb h.l.length qb) (.slice pc h.r.length qc)) 27))
          have RX := Lib.hid (show RowH _ (w.heap.size + 1) (.slice none 0 0) (.slice none 0 0) (.slice none 0 0) from Row.alloc (R2.out.below hb9) (.cells (c3 (.slice pa h.f.length qa) (.slice pb h.l.length qb) (.slice pc h.r.length qc)) 27))
          have VX := Lib.hid (show RowH _ w9.heap.size (.slice pa h.f.length qa) (.slice pb h.l.length qb) (.slice pc h.r.length qc) from Row.new w9 27 (c3 (.slice pa h.f.length qa) (.slice pb h.l.length qb) (.slice pc h.r.length qc)))
          have OX := Lib.hid (ho.below hbA)
          have L2 : Hid (w.heap.size ≤ w2.heap.size) := B2.out.size
          have S9 : Hid (w2.heap.size ≤ w9.heap.size) := hb9.size
          have SX : Hid ((w9.alloc (.cells (c3 (.slice pa h.f.length qa) (.slice pb h.l.length qb) (.slice pc h.r.length qc)) 27)).heap.size = w9.heap.size + 1) := World.size_alloc _ _
          clear ho hb9 hbA d10 d11 d12 d20 d21 d22 p0 p1 p2
          by_cases hpn : p < h.l.length
          · have HGE := Lib.hid (HG1.out hpn)
            have hne : ((p : Int) == (h.l.length : Int)) = false := by simp; omega
            have i1 : (p : Int) < (h.l.length : Int) := by omega
            have i1f : (p : Int) < (h.f.length : Int) := by have := HLF.out; omega
            have i0 : (0 : Int) ≤ (p : Int) := by omega
            obtain ⟨gb, cb, hbv, qb1, fb1, oL, cL⟩ := putLiveB OX.out (j := p) hpn true
            cases hbv
            have V1 := Lib.hid (show RowH _ _ _ _ _ from Row.other VX.out ⟨gb, p, none⟩ (Ne.symm (OwnH.liveNe OX.out VX.out)) (.bool true))
            have R1x := Lib.hid (show RowH _ _ _ _ _ from Row.other RX.out ⟨gb, p, none⟩ (Ne.symm (OwnH.liveNe OX.out RX.out)) (.bool true))
            have SBx := Lib.hid ((by rw [World.size_setCell, World.size_alloc]; omega) : w9.heap.size ≤ ((w9.alloc (.cells (c3 (.slice pa h.f.length qa) (.slice (some ⟨gb, 0, none⟩) h.l.length qb) (.slice pc h.r.length qc)) 27)).setCell ⟨gb, p, none⟩ (.bool true)).heap.size)
            have BL1 := Lib.hid (below_chg BX.out cL L2.out BX.out.size)
            have OL1 := Lib.hid oL
            have VB := VX.out.c1
            clear oL cL
            go_wp2_with fail
            generalize ((w9.alloc (.cells (c3 (.slice pa h.f.length qa) (.slice (some ⟨gb, 0, none⟩) h.l.length qb) (.slice pc h.r.length qc)) 27)).setCell ⟨gb, p, none⟩ (.bool true)) = wb at *
            have cA : wb.drew.cell? ⟨w9.heap.size, 0, none⟩ = some (.slice pa h.f.length qa) := V1.out.c0
            have SB : Hid (w9.heap.size ≤ wb.heap.size) := SBx
            have VD : Hid (RowH wb.drew w9.heap.size (.slice pa h.f.length qa) (.slice (some ⟨gb, 0, none⟩) h.l.length qb) (.slice pc h.r.length qc)) := V1.out
            have RD : Hid (RowH wb.drew (w.heap.size + 1) (.slice none 0 0) (.slice none 0 0) (.slice none 0 0)) := R1x.out
            have BLD := Lib.hid (below_drew BL1.out)
            have OD := Lib.hid (OL1.out.below (below_drew (Below.refl wb.heap.size wb)))
            have SD : Hid (w9.heap.size ≤ wb.drew.heap.size) := SB.out
            clear V1 R1x BL1 OL1
            refine wp_region_held_drew (S := (fun w' => w'.cell? ⟨w9.heap.size, 0, none⟩ = some (.slice pa h.f.length qa))) (by kernel_rfl) (cA) (fun hHeld => ?_)
            refine wpAnyH_take (i := 0) (v := ?va0x1) rfl (by kernel_rfl) (by kernel_rfl) (by kernel_rfl) (fun _ _ _ h => h) (Or.inl ⟨by rfl, ?hy0x1⟩) (by assumption) ?rest0x1
            case hy0x1 => (intro w hSw; (try dsimp only at hSw); go_simp; try with_reducible rfl)
            (try simp only [Act.put, List.getElem_toArray, List.getElem_cons_zero, List.setIfInBounds_toArray, List.set_cons_zero, List.set_cons_succ])
            refine wpAnyH_take (i := 1) (v := ?va1x2) rfl (by kernel_rfl) (by kernel_rfl) (by kernel_rfl) (fun _ _ _ h => h) (Or.inl ⟨by rfl, ?hy1x2⟩) (by assumption) ?rest1x2
            case hy1x2 => (intro w hSw; (try dsimp only at hSw); go_simp; try with_reducible rfl)
            (try simp only [Act.put, List.getElem_toArray, List.getElem_cons_zero, List.getElem_cons_succ, List.setIfInBounds_toArray, List.set_cons_zero, List.set_cons_succ])
            refine wpAnyH_take (i := 2) (v := ?va2x3) rfl (by kernel_rfl) (by kernel_rfl) (by kernel_rfl) (fun _ _ _ h => h) (Or.inl ⟨by rfl, ?hy2x3⟩) (by assumption) ?rest2x3
            case hy2x3 => (intro w hSw; (try dsimp only at hSw); go_simp; try with_reducible rfl)
            (try simp only [Act.put, List.getElem_toArray, List.getElem_cons_zero, List.getElem_cons_succ, List.setIfInBounds_toArray, List.set_cons_zero, List.set_cons_succ])
            refine wpAnyH_take (i := 4) (v := ?va4x4) rfl (by kernel_rfl) (by kernel_rfl) (by kernel_rfl) (fun _ _ _ h => h) (Or.inl ⟨by rfl, ?hy4x4⟩) (by assumption) ?rest4x4
            case hy4x4 => (intro w hSw; (try dsimp only at hSw); go_simp; try with_reducible rfl)
            (try simp only [Act.put, List.getElem_toArray, List.getElem_cons_zero, List.getElem_cons_succ, List.setIfInBounds_toArray, List.set_cons_zero, List.set_cons_succ])
            generalize wb.drew = wc at *
            refine wpAnyH_ready (rs := [3]) (by kernel_rfl) (by simp) ?_
            refine AllReadyH.cons rfl (fun K hK => ?_) AllReadyH.nil
            have hba := below1 wc (.cells #[.int .i64 (-1)] 3)
            have VE := Lib.hid (VD.out.below hba); have RE := Lib.hid (RD.out.below hba); have BLE := Lib.hid (bst BLD.out hba BLD.out.size); have OE := Lib.hid (OD.out.below hba)
            have SE : Hid (w9.heap.size ≤ (wc.alloc (.cells #[.int .i64 (-1)] 3)).heap.size) := Nat.le_trans SD.out hba.size
            have RO := Lib.hid (Row.new wc 3 #[.int .i64 (-1)])
            go_simp
            refine hK.out _ _ VE.out.c0 (fun hHeld => ?_)
            clear hK K hba
            (try simp only [Act.put, List.getElem_toArray, List.getElem_cons_zero, List.getElem_cons_succ, List.setIfInBounds_toArray, List.set_cons_zero, List.set_cons_succ])
            generalize wc.heap.size = go at *
            generalize wc.alloc (.cells #[.int .i64 (-1)] 3) = wd at *
            refine wpAnyH_ready (rs := [5]) (by kernel_rfl) (by simp) ?_
            refine AllReadyH.cons rfl (fun K hK => ?_) AllReadyH.nil
            go_simp
            refine (c_slRepeat mm go hmm _ RO.out).mono ?_
            rintro e we ⟨vn, rfl, hov, hbe⟩
            have VF := Lib.hid (VE.out.below hbe); have RF := Lib.hid (RE.out.below hbe); have BLF := Lib.hid (bst BLE.out hbe BLE.out.size); have OF := Lib.hid (OE.out.below hbe)
            have OVN : Hid (Own we w9.heap.size vn (List.replicate mm (-1))) := hov.mono SE.out
            have SF : Hid (w9.heap.size ≤ we.heap.size) := Nat.le_trans SE.out hbe.size
            obtain ⟨pn, qn, hpnn⟩ := hov.ints.shape
            subst hpnn
            refine hK.out _ _ VF.out.c0 (fun hHeld => ?_)
            clear hK K hbe hov
            (try simp only [Act.put, List.getElem_toArray, List.getElem_cons_zero, List.getElem_cons_succ, List.setIfInBounds_toArray, List.set_cons_zero, List.set_cons_succ])
            obtain ⟨ga, ca, xx, hax, qf1, ff1, hlo, hap, oN⟩ := putRow1 OF.out (j := p) (by simp only; have := HLF.out; omega) OVN.out S9.out SF.out
            cases hax
            have hgA : ga ≠ w9.heap.size := hap _ _ VF.out
            have hgR : ga ≠ w.heap.size + 1 := hap _ _ RF.out
            have VG := Lib.hid (show RowH _ _ _ _ _ from Row.other VF.out ⟨ga, p, none⟩ (by simp; omega) (.slice pn (List.replicate mm (-1 : Int)).length qn))
            have RG := Lib.hid (show RowH _ _ _ _ _ from Row.other RF.out ⟨ga, p, none⟩ (by simp; omega) (.slice pn (List.replicate mm (-1 : Int)).length qn))
            have BG := Lib.hid (BLF.out.setCell (p := ⟨ga, p, none⟩) (by have := L2.out; simp only; omega) (.slice pn (List.replicate mm (-1 : Int)).length qn))
            have OG := Lib.hid oN
            have SG := Lib.hid (World.size_setCell we ⟨ga, p, none⟩ (.slice pn (List.replicate mm (-1 : Int)).length qn))
            clear oN hap
            generalize (List.replicate mm (-1 : Int)).length = lr at *
            refine wpAnyH_take (i := 6) (v := ?va6x5) rfl (by kernel_rfl) (by kernel_rfl) (by kernel_rfl) (fun _ _ _ h => h) (Or.inl ⟨by rfl, ?hy6x5⟩) (by assumption) ?rest6x5
            case hy6x5 => (intro w hSw; (try dsimp only at hSw); go_simp; try with_reducible rfl)
            (try simp only [Act.put, List.getElem_toArray, List.getElem_cons_zero, List.getElem_cons_succ, List.setIfInBounds_toArray, List.set_cons_zero, List.set_cons_succ])
            refine wpAnyH_ready (rs := [7]) (by kernel_rfl) (by simp) ?_
            refine AllReadyH.cons rfl (fun K hK => ?_) AllReadyH.nil
            go_simp
            refine hK.out _ _ VG.out.c0 (fun hHeld => ?_)
            clear hK K
            (try simp only [Act.put, List.getElem_toArray, List.getElem_cons_zero, List.getElem_cons_succ, List.setIfInBounds_toArray, List.set_cons_zero, List.set_cons_succ])
            refine wpAnyH_done (by kernel_rfl) ?_ _
            clear hHeld qf1 ff1
            generalize we.setCell ⟨ga, p, none⟩ (.slice pn lr qn) = wf at *
            have HF1 : Hid (c1 = put1 (h) p mm) := by unfold Hid; rw [HE1.out, HGE.out]
            have HF3 := Lib.hid (show OwnH _ _ _ _ _ _ (put1 (h) p mm) from OG.out)
            generalize put1 (h) p mm = hN at *
            generalize h.f.length = nf at *
            generalize h.l.length = nl at *
            generalize h.r.length = nr at *
            go_wp2_with (first
              | (refine wl_loadH rfl _ rfl w9.heap.size _ _ _ VG.out rfl ?_)
              | (refine wl_storeH rfl _ _ rfl (w.heap.size + 1) (.slice (some ⟨ga, 0, none⟩) nf qa) (.slice (some ⟨gb, 0, none⟩) nl qb) (.slice pc nr qc) _ _ _ RG.out rfl rfl rfl rfl rfl ?_))
            refine bodyPost_ret (res_row_slot2 Try.results162 (Row.put RG.out (c3 (.slice (some ⟨ga, 0, none⟩) nf qa) (.slice (some ⟨gb, 0, none⟩) nl qb) (.slice pc nr qc))) rfl rfl rfl Try.underlying27 rfl info_heap) rfl (endHI_yes (below_setRow BG.out (by omega) _) (HF3.out.wholeRow RG.out _) L2.out (by rw [size_setRow, SG.out]; exact Nat.le_refl _) HF1.out HE2.out HE.out)
          · have hpe : p = h.l.length := by omega
            have heq : ((p : Int) == (h.l.length : Int)) = true := by simp; omega
            have HGE0 := HG2.out hpn
            have s9 := S9.out
            have hlf := HLF.out
            obtain ⟨v1, w1e, hr1, o1, rows1, bel1, sz1, _⟩ := ext_live OX.out s9 (by rw [SX.out]; omega) (by omega) false 24
            rw [SX.out] at hr1 sz1
            have V1e := rows1 _ _ _ _ VX.out
            have R1e := rows1 _ _ _ _ RX.out
            have B1e := bel1 _ _ L2.out BX.out
            have s1c := V1e.c1
            have s1f := Row.frozen V1e 1
            have hvr : w9.heap.size ≠ w.heap.size + 1 := by have := R2.out.lt; omega
            have O2e := o1.cellRow V1e 1 v1
            have V2e := RowH.set1 V1e v1
            have R2e : RowH (w1e.setCell ⟨w9.heap.size, 1, none⟩ v1) (w.heap.size + 1) (.slice none 0 0) (.slice none 0 0) (.slice none 0 0) := Row.other R1e ⟨w9.heap.size, 1, none⟩ (Ne.symm hvr) v1
            have B2e := B1e.setCell (p := ⟨w9.heap.size, 1, none⟩) (by have := L2.out; simp only; omega) v1
            have hsz2 := World.size_setCell w1e ⟨w9.heap.size, 1, none⟩ v1
            obtain ⟨v2, w2e, hr2, o3, rows3, bel3, sz3, _⟩ := ext_rows O2e (by omega) (by rw [hsz2]; exact Nat.le_refl _) (by simp only; omega) 23
            rw [hsz2] at hr2 sz3
            have V3e := rows3 _ _ _ _ V2e
            have R3e := rows3 _ _ _ _ R2e
            have B3e := bel3 _ _ L2.out B2e
            have s2a := V2e.c0
            have s3c := V3e.c0
            have s3f := Row.frozen V3e 0
            have O4e := o3.cellRow V3e 0 v2
            have V4e := RowH.set0 V3e v2
            have R4e : RowH (w2e.setCell ⟨w9.heap.size, 0, none⟩ v2) (w.heap.size + 1) (.slice none 0 0) (.slice none 0 0) (.slice none 0 0) := Row.other R3e ⟨w9.heap.size, 0, none⟩ (Ne.symm hvr) v2
            have B4e := B3e.setCell (p := ⟨w9.heap.size, 0, none⟩) (by have := L2.out; simp only; omega) v2
            have hll2 : (⟨h.f ++ [[]], h.l ++ [false], h.r⟩ : H).l.length = h.l.length + 1 := by simp
            have hfl2 : (⟨h.f ++ [[]], h.l ++ [false], h.r⟩ : H).f.length = h.f.length + 1 := by simp
            have O4h : OwnH (w2e.setCell ⟨w9.heap.size, 0, none⟩ v2) w2.heap.size w2e.heap.size v2 v1 (.slice pc h.r.length qc) ⟨h.f ++ [[]], h.l ++ [false], h.r⟩ := O4e
            clear O4e o3 o1 O2e
            generalize (⟨h.f ++ [[]], h.l ++ [false], h.r⟩ : H) = hh at *
            have hlo3 : Hid (w2.heap.size ≤ w2e.heap.size) := by unfold Hid; omega
            have HGE := Lib.hid HGE0
            have hpl : p < hh.l.length := by omega
            have hpf : Hid (p < hh.f.length) := by unfold Hid; omega
            have i0 : (0 : Int) ≤ (p : Int) := by omega
            have i1 : (p : Int) < (hh.l.length : Int) := by omega
            have i1f : (p : Int) < (hh.f.length : Int) := by omega
            obtain ⟨⟨pa2, qa2, rfl⟩, ⟨pb2, qb2, rfl⟩, _⟩ := O4h.shapes
            have OY := Lib.hid O4h; have VY := Lib.hid V4e; have RY := Lib.hid R4e; have BY := Lib.hid B4e
            have HPE := Lib.hid hpe; have HL2 := Lib.hid hll2; have HF2 := Lib.hid hfl2; have HR1 := Lib.hid hr1; have HR2 := Lib.hid hr2
            have SZ1 := Lib.hid sz1; have SZ3 := Lib.hid sz3
            have a1 := VX.out.c1
            clear O4h V4e R4e B4e V1e R1e B1e V2e R2e B2e V3e R3e B3e rows1 rows3 bel1 bel3 hpe hll2 hfl2 hr1 hr2 HGE0 hsz2 sz1 sz3 hlf s9
            obtain ⟨gb, cb, hbv, qb1, fb1, oL, cL⟩ := putLiveB OY.out (j := p) hpl true
            cases hbv
            have V1 := Lib.hid (show RowH _ _ _ _ _ from Row.other VY.out ⟨gb, p, none⟩ (Ne.symm (OwnH.liveNe OY.out VY.out)) (.bool true))
            have R1x := Lib.hid (show RowH _ _ _ _ _ from Row.other RY.out ⟨gb, p, none⟩ (Ne.symm (OwnH.liveNe OY.out RY.out)) (.bool true))
            have SBx := Lib.hid ((by rw [World.size_setCell, World.size_setCell]; exact Nat.le_refl _) : w2e.heap.size ≤ ((w2e.setCell ⟨w9.heap.size, 0, none⟩ (.slice pa2 hh.f.length qa2)).setCell ⟨gb, p, none⟩ (.bool true)).heap.size)
            have BL1 := Lib.hid (below_chg BY.out cL L2.out BY.out.size)
            have OL1 := Lib.hid oL
            have VB := VY.out.c1
            clear oL cL
            go_wp2_with (first
              | (at_builtin; refine wl_appRun rfl _ _ 24 rfl rfl rfl HR1.out ?_)
              | (at_builtin; refine wl_appRun rfl _ _ 23 rfl rfl rfl HR2.out ?_))
            generalize ((w2e.setCell ⟨w9.heap.size, 0, none⟩ (.slice pa2 hh.f.length qa2)).setCell ⟨gb, p, none⟩ (.bool true)) = wb at *
            have cA : wb.drew.cell? ⟨w9.heap.size, 0, none⟩ = some (.slice pa2 hh.f.length qa2) := V1.out.c0
            have SB : Hid (w2e.heap.size ≤ wb.heap.size) := SBx
            have VD : Hid (RowH wb.drew w9.heap.size (.slice pa2 hh.f.length qa2) (.slice (some ⟨gb, 0, none⟩) hh.l.length qb2) (.slice pc h.r.length qc)) := V1.out
            have RD : Hid (RowH wb.drew (w.heap.size + 1) (.slice none 0 0) (.slice none 0 0) (.slice none 0 0)) := R1x.out
            have BLD := Lib.hid (below_drew BL1.out)
            have OD := Lib.hid (OL1.out.below (below_drew (Below.refl wb.heap.size wb)))
            have SD : Hid (w2e.heap.size ≤ wb.drew.heap.size) := SB.out
            clear V1 R1x BL1 OL1
            refine wp_region_held_drew (S := (fun w' => w'.cell? ⟨w9.heap.size, 0, none⟩ = some (.slice pa2 hh.f.length qa2))) (by kernel_rfl) (cA) (fun hHeld => ?_)
            refine wpAnyH_take (i := 0) (v := ?va0x6) rfl (by kernel_rfl) (by kernel_rfl) (by kernel_rfl) (fun _ _ _ h => h) (Or.inl ⟨by rfl, ?hy0x6⟩) (by assumption) ?rest0x6
            case hy0x6 => (intro w hSw; (try dsimp only at hSw); go_simp; try with_reducible rfl)
            (try simp only [Act.put, List.getElem_toArray, List.getElem_cons_zero, List.setIfInBounds_toArray, List.set_cons_zero, List.set_cons_succ])
            refine wpAnyH_take (i := 1) (v := ?va1x7) rfl (by kernel_rfl) (by kernel_rfl) (by kernel_rfl) (fun _ _ _ h => h) (Or.inl ⟨by rfl, ?hy1x7⟩) (by assumption) ?rest1x7
            case hy1x7 => (intro w hSw; (try dsimp only at hSw); go_simp; try with_reducible rfl)
            (try simp only [Act.put, List.getElem_toArray, List.getElem_cons_zero, List.getElem_cons_succ, List.setIfInBounds_toArray, List.set_cons_zero, List.set_cons_succ])
            refine wpAnyH_take (i := 2) (v := ?va2x8) rfl (by kernel_rfl) (by kernel_rfl) (by kernel_rfl) (fun _ _ _ h => h) (Or.inl ⟨by rfl, ?hy2x8⟩) (by assumption) ?rest2x8
            case hy2x8 => (intro w hSw; (try dsimp only at hSw); go_simp; try with_reducible rfl)
            (try simp only [Act.put, List.getElem_toArray, List.getElem_cons_zero, List.getElem_cons_succ, List.setIfInBounds_toArray, List.set_cons_zero, List.set_cons_succ])
            refine wpAnyH_take (i := 4) (v := ?va4x9) rfl (by kernel_rfl) (by kernel_rfl) (by kernel_rfl) (fun _ _ _ h => h) (Or.inl ⟨by rfl, ?hy4x9⟩) (by assumption) ?rest4x9
            case hy4x9 => (intro w hSw; (try dsimp only at hSw); go_simp; try with_reducible rfl)
            (try simp only [Act.put, List.getElem_toArray, List.getElem_cons_zero, List.getElem_cons_succ, List.setIfInBounds_toArray, List.set_cons_zero, List.set_cons_succ])
            generalize wb.drew = wc at *
            refine wpAnyH_ready (rs := [3]) (by kernel_rfl) (by simp) ?_
            refine AllReadyH.cons rfl (fun K hK => ?_) AllReadyH.nil
            have hba := below1 wc (.cells #[.int .i64 (-1)] 3)
            have VE := Lib.hid (VD.out.below hba); have RE := Lib.hid (RD.out.below hba); have BLE := Lib.hid (bst BLD.out hba BLD.out.size); have OE := Lib.hid (OD.out.below hba)
            have SE : Hid (w2e.heap.size ≤ (wc.alloc (.cells #[.int .i64 (-1)] 3)).heap.size) := Nat.le_trans SD.out hba.size
            have RO := Lib.hid (Row.new wc 3 #[.int .i64 (-1)])
            go_simp
            refine hK.out _ _ VE.out.c0 (fun hHeld => ?_)
            clear hK K hba
            (try simp only [Act.put, List.getElem_toArray, List.getElem_cons_zero, List.getElem_cons_succ, List.setIfInBounds_toArray, List.set_cons_zero, List.set_cons_succ])
            generalize wc.heap.size = go at *
            generalize wc.alloc (.cells #[.int .i64 (-1)] 3) = wd at *
            refine wpAnyH_ready (rs := [5]) (by kernel_rfl) (by simp) ?_
            refine AllReadyH.cons rfl (fun K hK => ?_) AllReadyH.nil
            go_simp
            refine (c_slRepeat mm go hmm _ RO.out).mono ?_
            rintro e we ⟨vn, rfl, hov, hbe⟩
            have VF := Lib.hid (VE.out.below hbe); have RF := Lib.hid (RE.out.below hbe); have BLF := Lib.hid (bst BLE.out hbe BLE.out.size); have OF := Lib.hid (OE.out.below hbe)
            have OVN : Hid (Own we w2e.heap.size vn (List.replicate mm (-1))) := hov.mono SE.out
            have SF : Hid (w2e.heap.size ≤ we.heap.size) := Nat.le_trans SE.out hbe.size
            obtain ⟨pn, qn, hpnn⟩ := hov.ints.shape
            subst hpnn
            refine hK.out _ _ VF.out.c0 (fun hHeld => ?_)
            clear hK K hbe hov
            (try simp only [Act.put, List.getElem_toArray, List.getElem_cons_zero, List.getElem_cons_succ, List.setIfInBounds_toArray, List.set_cons_zero, List.set_cons_succ])
            obtain ⟨ga, ca, xx, hax, qf1, ff1, hlo, hap, oN⟩ := putRow1 OF.out (j := p) hpf.out OVN.out hlo3.out SF.out
            cases hax
            have hgA : ga ≠ w9.heap.size := hap _ _ VF.out
            have hgR : ga ≠ w.heap.size + 1 := hap _ _ RF.out
            have VG := Lib.hid (show RowH _ _ _ _ _ from Row.other VF.out ⟨ga, p, none⟩ (by simp; omega) (.slice pn (List.replicate mm (-1 : Int)).length qn))
            have RG := Lib.hid (show RowH _ _ _ _ _ from Row.other RF.out ⟨ga, p, none⟩ (by simp; omega) (.slice pn (List.replicate mm (-1 : Int)).length qn))
            have BG := Lib.hid (BLF.out.setCell (p := ⟨ga, p, none⟩) (by have := L2.out; simp only; omega) (.slice pn (List.replicate mm (-1 : Int)).length qn))
            have OG := Lib.hid oN
            have SG := Lib.hid (World.size_setCell we ⟨ga, p, none⟩ (.slice pn (List.replicate mm (-1 : Int)).length qn))
            clear oN hap
            generalize (List.replicate mm (-1 : Int)).length = lr at *
            refine wpAnyH_take (i := 6) (v := ?va6x10) rfl (by kernel_rfl) (by kernel_rfl) (by kernel_rfl) (fun _ _ _ h => h) (Or.inl ⟨by rfl, ?hy6x10⟩) (by assumption) ?rest6x10
            case hy6x10 => (intro w hSw; (try dsimp only at hSw); go_simp; try with_reducible rfl)
            (try simp only [Act.put, List.getElem_toArray, List.getElem_cons_zero, List.getElem_cons_succ, List.setIfInBounds_toArray, List.set_cons_zero, List.set_cons_succ])
            refine wpAnyH_ready (rs := [7]) (by kernel_rfl) (by simp) ?_
            refine AllReadyH.cons rfl (fun K hK => ?_) AllReadyH.nil
            go_simp
            refine hK.out _ _ VG.out.c0 (fun hHeld => ?_)
            clear hK K
            (try simp only [Act.put, List.getElem_toArray, List.getElem_cons_zero, List.getElem_cons_succ, List.setIfInBounds_toArray, List.set_cons_zero, List.set_cons_succ])
            refine wpAnyH_done (by kernel_rfl) ?_ _
            clear hHeld qf1 ff1
            generalize we.setCell ⟨ga, p, none⟩ (.slice pn lr qn) = wf at *
            have HF1 : Hid (c1 = put1 (hh) p mm) := by unfold Hid; rw [HE1.out, HGE.out]
            have HF3 := Lib.hid (show OwnH _ _ _ _ _ _ (put1 (hh) p mm) from OG.out)
            generalize put1 (hh) p mm = hN at *
            generalize hh.f.length = nhf at *
            generalize hh.l.length = nhl at *
            generalize h.r.length = nr at *
            go_wp2_with (first
              | (refine wl_loadH rfl _ rfl w9.heap.size _ _ _ VG.out rfl ?_)
              | (refine wl_storeH rfl _ _ rfl (w.heap.size + 1) (.slice (some ⟨ga, 0, none⟩) nhf qa2) (.slice (some ⟨gb, 0, none⟩) nhl qb2) (.slice pc nr qc) _ _ _ RG.out rfl rfl rfl rfl rfl ?_))
            refine bodyPost_ret (res_row_slot2 Try.results162 (Row.put RG.out (c3 (.slice (some ⟨ga, 0, none⟩) nhf qa2) (.slice (some ⟨gb, 0, none⟩) nhl qb2) (.slice pc nr qc))) rfl rfl rfl Try.underlying27 rfl info_heap) rfl (endHI_yes (below_setRow BG.out (by omega) _) (HF3.out.wholeRow RG.out _) L2.out (by rw [size_setRow, SG.out]; exact Nat.le_refl _) HF1.out HE2.out HE.out)
        · have HPL : Hid (decide (placeOf h.l < 12) = false) := decide_eq_false h12
          have HE : Hid (ok = false) := by unfold Hid; rw [hok, HPL.out]; simp
          clear hok
          go_enter Try.func162, Try.ntmps162
          go_wp2_with (first
            | (go_at_call 83; refine HC.out.mono ?_; rintro e w1 ⟨rfl, hb1⟩; have B1 := Lib.hid (bst HB.out hb1 HB.out.size); have A1 := Lib.hid (A0.out.below hb1); have P1 := Lib.hid (P0.out.below hb1); have R1 := Lib.hid (R0.out.below hb1); have d10 := P1.out.c0; have d11 := P1.out.c1; have d12 := P1.out.c2; clear hb1)
            | (go_at_call 165; refine (HFP.out _ A1.out).mono ?_; rintro e w2 ⟨rfl, hb2⟩; rw [HPL.out]; have B2 := Lib.hid (bst B1.out hb2 B1.out.size); have A2 := Lib.hid (A1.out.below hb2); have P2 := Lib.hid (P1.out.below hb2); have R2 := Lib.hid (R1.out.below hb2); have d20 := P2.out.c0; have d21 := P2.out.c1; have d22 := P2.out.c2; clear hb2)
            | (refine wl_storeH rfl _ _ rfl (w.heap.size + 1) (.slice none 0 0) (.slice none 0 0) (.slice none 0 0) _ _ _ R2.out rfl rfl rfl rfl rfl ?_))
          refine bodyPost_ret (res_row_slot2 Try.results162 (Row.put R2.out (c3 (.slice none 0 0) (.slice none 0 0) (.slice none 0 0))) rfl rfl rfl Try.underlying27 rfl info_heap) rfl (endHI_no (below_setRow B2.out (by omega) _) (by rw [E1.out HE.out]) (by rw [E1.out HE.out]; rfl) HE.out)
end Go.Proofs.Ytdagkbgobnaijab
