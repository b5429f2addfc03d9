/- The reference's SetField and SetRoot. -/
import Derived.Test.YtcjkkbbinieblaaHs7a
namespace Go.Proofs.Ytcjkkbbinieblaa
open Go.RowKit Ph

set_option maxRecDepth 100000 in
set_option maxHeartbeats 6400000 in
theorem s_SetField (a b c : Value) (h : H) (t f z : Int) (w : World) (hA : HeapAt w a b c h) : Calls Try.prog 29 #[hv a b c, .int .i64 t, .int .i64 f, .int .i64 z] w (EndH (setF h t f z) (setFOk h t f z) w) := by
  have hb0 := (below1 w (.cells (c3 a b c) 27)).alloc (by simp) (.cells (c3 (.slice none 0 0) (.slice none 0 0) (.slice none 0 0)) 27)
  have A0 := Lib.hid (hA.below hb0)
  have HB := Lib.hid hb0
  have P0 := Lib.hid (show RowH _ _ a b c from (Row.new w 27 (c3 a b c)).alloc (.cells (c3 (.slice none 0 0) (.slice none 0 0) (.slice none 0 0)) 27))
  have R0 := Lib.hid (show RowH _ (w.heap.size + 1) (.slice none 0 0) (.slice none 0 0) (.slice none 0 0) from Row.new1 w (.cells (c3 a b c) 27) 27 (c3 (.slice none 0 0) (.slice none 0 0) (.slice none 0 0)))
  clear hA hb0
  have HC := Lib.hid (s_GoodHeap a b c h _ A0.out)
  have G1 := Lib.hid (good_iff (h := h)).1
  have E1 := Lib.hid (setF_no (h := h) (t := t) (f := f) (z := z))
  have E2 := Lib.hid (setF_yes (h := h) (t := t) (f := f) (z := z))
  have hok : setFOk h t f z = (good h && hasFB h t f && refB h.l z) := rfl
  have hfb : hasFB h t f = (liveB h.l t && decide (0 ≤ f) && decide (f < ((h.f.getD t.toNat []).length : Int))) := rfl
  have hlt : liveB h.l t = true → Ph.Good h → 0 ≤ t ∧ t < h.f.length := fun k g => live_inRg g k
  generalize good h = x at *
  have p0 := P0.out.c0
  have p1 := P0.out.c1
  have p2 := P0.out.c2
  generalize setFOk h t f z = ok at *
  cases x
  · have HE : Hid (ok = false) := by unfold Hid; rw [hok]; rfl
    clear hok hfb hlt
    go_enter Try.func29, Try.ntmps29
    go_wp2_with (first
      | (go_at_call 37; refine HC.out.mono ?_; rintro e w1 ⟨rfl, hb1⟩; have B1 := Lib.hid (bst HB.out hb1 HB.out.size); have A1 := Lib.hid (A0.out.below hb1); have P1 := Lib.hid (P0.out.below hb1); have R1 := Lib.hid (R0.out.below hb1); have d10 := P1.out.c0; have d11 := P1.out.c1; have d12 := P1.out.c2; clear hb1)
      | (refine wl_storeH rfl _ _ rfl (w.heap.size + 1) (.slice none 0 0) (.slice none 0 0) (.slice none 0 0) _ _ _ R1.out rfl rfl rfl rfl rfl ?_))
    refine bodyPost_ret (res_row_slot Try.results29 (Row.put R1.out (c3 (.slice none 0 0) (.slice none 0 0) (.slice none 0 0))) rfl rfl Try.underlying27 rfl info_heap) rfl (endH_no (below_setRow B1.out (by omega) _) (E1.out HE.out) HE.out)
  · have G := Lib.hid (G1.out rfl)
    generalize hb2 : liveB h.l t = x2 at *
    have HX2L := Lib.hid hb2
    clear hb2
    cases x2
    · have HE : Hid (ok = false) := by unfold Hid; rw [hok, hfb]; simp
      clear hok hfb hlt
      go_enter Try.func29, Try.ntmps29
      go_wp2_with (first
        | (go_at_call 37; refine HC.out.mono ?_; rintro e w1 ⟨rfl, hb1⟩; have B1 := Lib.hid (bst HB.out hb1 HB.out.size); have A1 := Lib.hid (A0.out.below hb1); have P1 := Lib.hid (P0.out.below hb1); have R1 := Lib.hid (R0.out.below hb1); have d10 := P1.out.c0; have d11 := P1.out.c1; have d12 := P1.out.c2; clear hb1)
        | (go_at_call 69; refine (s_l5Thing a b c h t _ A1.out G.out).mono ?_; rintro e w2 ⟨rfl, hb2⟩; rw [HX2L.out]; have B2 := Lib.hid (bst B1.out hb2 B1.out.size); have A2 := Lib.hid (A1.out.below hb2); have P2 := Lib.hid (P1.out.below hb2); have R2 := Lib.hid (R1.out.below hb2); have d20 := P2.out.c0; have d21 := P2.out.c1; have d22 := P2.out.c2; clear hb2)
        | (refine wl_storeH rfl _ _ rfl (w.heap.size + 1) (.slice none 0 0) (.slice none 0 0) (.slice none 0 0) _ _ _ R2.out rfl rfl rfl rfl rfl ?_))
      refine bodyPost_ret (res_row_slot Try.results29 (Row.put R2.out (c3 (.slice none 0 0) (.slice none 0 0) (.slice none 0 0))) rfl rfl Try.underlying27 rfl info_heap) rfl (endH_no (below_setRow B2.out (by omega) _) (E1.out HE.out) HE.out)
    · obtain ⟨ht0, htn⟩ := hlt rfl G.out
      obtain ⟨kt, rfl⟩ : ∃ k : Nat, t = k := ⟨t.toNat, by omega⟩
      have HSH := Lib.hid A0.out.f.shape
      obtain ⟨fa, fc, hfa⟩ := HSH.out
      subst hfa
      clear HSH
      obtain ⟨fb, fo, rfl, hcf⟩ := A0.out.f.at' (by omega)
      obtain ⟨u, qu, hu⟩ := hcf kt (by omega)
      obtain ⟨ua, uc, hus⟩ := hu.shape
      subst hus
      have QU := Lib.hid qu
      have i2 : (kt : Int) < (h.f.length : Int) := by omega
      have i3 : (0 : Int) ≤ (kt : Int) := by omega
      rw [Int.toNat_natCast] at hfb
      clear hcf hu qu hlt
      have HM12 : Hid ((h.f.getD kt []).length ≤ 3) := (G.out.row kt (by omega)).1
      have HLN : Hid (kt < h.f.length) := by unfold Hid; omega
      generalize hm0 : (h.f.getD kt []).length = m at *
      have HMM := Lib.hid hm0
      clear hm0
      by_cases hf : 0 ≤ f ∧ f ≤ (m : Int) - 1
      · have HIN : Hid (∀ w', Calls Try.prog 70 #[.int .i64 f, .int .i64 0, .int .i64 ((m : Int) - 1)] w' fun e w'' => e = .returned (.bool true) ∧ w' = w'') := fun w' => s_l1In_yes f 0 _ w' hf.1 hf.2
        have HX2 : Hid (hasFB h (kt : Int) f = true) := by unfold Hid; rw [hfb]; simp; omega
        have HZR : Hid (refB h.l z = (decide (z = -1) || liveB h.l z)) := rfl
        rw [HX2.out, HZR.out] at hok
        clear hfb
        by_cases z1 : z = -1
        · subst z1
          have HE : Hid (ok = true) := by unfold Hid; rw [hok]; simp
          clear hok hf
          have hm3 := HM12.out
          go_enter Try.func29, Try.ntmps29
          go_wp2_with (first
            | (go_at_call 37; refine HC.out.mono ?_; rintro e w1 ⟨rfl, hb1⟩; have B1 := Lib.hid (bst HB.out hb1 HB.out.size); have A1 := Lib.hid (A0.out.below hb1); have P1 := Lib.hid (P0.out.below hb1); have R1 := Lib.hid (R0.out.below hb1); have d10 := P1.out.c0; have d11 := P1.out.c1; have d12 := P1.out.c2; have HB1C := Lib.hid hb1; clear hb1)
            | (go_at_call 69; refine (s_l5Thing _ b c h (kt : Int) _ A1.out G.out).mono ?_; rintro e w2 ⟨rfl, hb2⟩; rw [HX2L.out]; have B2 := Lib.hid (bst B1.out hb2 B1.out.size); have A2 := Lib.hid (A1.out.below hb2); have P2 := Lib.hid (P1.out.below hb2); have R2 := Lib.hid (R1.out.below hb2); have d20 := P2.out.c0; have d21 := P2.out.c1; have d22 := P2.out.c2; have q2 := cellBelow hb2 (Nat.le_refl _) (cellBelow HB1C.out (Nat.le_refl _) QU.out); clear hb2)
            | (go_at_call 70; refine (HIN.out _).mono ?_; rintro e wi ⟨rfl, rfl⟩))
          refine (s_l5Own _ b c h _ A2.out G.out).mono ?_
          rintro e w9 ⟨a', b', c', rfl, ho, hb9⟩
          have B9 := Lib.hid (bst B2.out hb9 B2.out.size); have R9 := Lib.hid (R2.out.below hb9)
          have hfl := hasFB_iff HX2.out G.out
          obtain ⟨k, j, hkt, rfl, hk, hj⟩ := hfl
          obtain rfl : kt = k := by omega
          obtain ⟨ga, ca, pb, qb, pc, qc, gr, cr, x, rfl, rfl, rfl, q1, q2, q3, hgr, rA, rR, oN⟩ := setFld_facts (k := kt) ho hk hj (-1) R9.out
          have hE2 := E2.out HE.out
          rw [Int.toNat_natCast, Int.toNat_natCast] at hE2
          have RA := Lib.hid rA; have RR := Lib.hid rR; have ON := Lib.hid oN; have EE := Lib.hid hE2
          have LL : Hid (w.heap.size ≤ gr) := Nat.le_trans B2.out.size hgr
          have L9 : Hid (w.heap.size ≤ w9.heap.size) := B9.out.size
          have LK := Lib.hid B2.out.size
          clear rA rR oN hE2 ho hb9 hgr
          have i1 : (kt : Int) < (h.f.length : Int) := by omega
          have i2 : (j : Int) < ((h.f.getD kt []).length : Int) := by omega
          have j1 : (0 : Int) ≤ (kt : Int) := by omega
          have j2 : (0 : Int) ≤ (j : Int) := by omega
          generalize h.f.length = nf at *
          generalize h.l.length = nl at *
          generalize h.r.length = nr at *
          generalize (h.f.getD kt []).length = nm at *
          go_wp2_with (first
            | (refine wl_loadH rfl _ rfl w9.heap.size _ _ _ RA.out rfl ?_)
            | (refine wl_storeH rfl _ _ rfl (w.heap.size + 1) (.slice (some ⟨ga, 0, none⟩) nf ca) (.slice pb nl qb) (.slice pc nr qc) _ _ _ RR.out rfl rfl rfl rfl rfl ?_))
          refine bodyPost_ret (res_row_slot Try.results29 (Row.put RR.out (c3 (.slice (some ⟨ga, 0, none⟩) nf ca) (.slice pb nl qb) (.slice pc nr qc))) rfl rfl Try.underlying27 rfl info_heap) rfl (endH_yes (below_setRow ((B9.out.alloc L9.out _).setCell (p := ⟨gr, j, none⟩) LL.out _) (by omega) _) (ON.out.wholeRow RR.out _) LK.out (by rw [size_setRow, World.size_setCell, World.size_alloc]; omega) EE.out HE.out)
        · have hz1 : (z != -1) = true := by rw [bne_iff_ne]; exact z1
          generalize hb3 : liveB h.l z = x3 at *
          have HX3 := Lib.hid hb3
          clear hb3
          have hm3 := HM12.out
          cases x3
          · have HE : Hid (ok = false) := by unfold Hid; rw [hok]; simp [z1]
            clear hok hf z1
            go_enter Try.func29, Try.ntmps29
            go_wp2_with (first
              | (go_at_call 37; refine HC.out.mono ?_; rintro e w1 ⟨rfl, hb1⟩; have B1 := Lib.hid (bst HB.out hb1 HB.out.size); have A1 := Lib.hid (A0.out.below hb1); have P1 := Lib.hid (P0.out.below hb1); have R1 := Lib.hid (R0.out.below hb1); have d10 := P1.out.c0; have d11 := P1.out.c1; have d12 := P1.out.c2; have HB1C := Lib.hid hb1; clear hb1)
              | (go_at_call 69; refine (s_l5Thing _ b c h z _ A2.out G.out).mono ?_; rintro e w3 ⟨rfl, hb3⟩; rw [HX3.out]; have B3 := Lib.hid (bst B2.out hb3 B2.out.size); have A3 := Lib.hid (A2.out.below hb3); have P3 := Lib.hid (P2.out.below hb3); have R3 := Lib.hid (R2.out.below hb3); have d30 := P3.out.c0; have d31 := P3.out.c1; have d32 := P3.out.c2; clear hb3)
              | (go_at_call 69; refine (s_l5Thing _ b c h (kt : Int) _ A1.out G.out).mono ?_; rintro e w2 ⟨rfl, hb2⟩; rw [HX2L.out]; have B2 := Lib.hid (bst B1.out hb2 B1.out.size); have A2 := Lib.hid (A1.out.below hb2); have P2 := Lib.hid (P1.out.below hb2); have R2 := Lib.hid (R1.out.below hb2); have d20 := P2.out.c0; have d21 := P2.out.c1; have d22 := P2.out.c2; have q2 := cellBelow hb2 (Nat.le_refl _) (cellBelow HB1C.out (Nat.le_refl _) QU.out); clear hb2)
              | (go_at_call 70; refine (HIN.out _).mono ?_; rintro e wi ⟨rfl, rfl⟩)
              | (refine wl_storeH rfl _ _ rfl (w.heap.size + 1) (.slice none 0 0) (.slice none 0 0) (.slice none 0 0) _ _ _ R3.out rfl rfl rfl rfl rfl ?_))
            refine bodyPost_ret (res_row_slot Try.results29 (Row.put R3.out (c3 (.slice none 0 0) (.slice none 0 0) (.slice none 0 0))) rfl rfl Try.underlying27 rfl info_heap) rfl (endH_no (below_setRow B3.out (by omega) _) (E1.out HE.out) HE.out)
          · have HE : Hid (ok = true) := by unfold Hid; rw [hok]; simp
            clear hok hf z1
            go_enter Try.func29, Try.ntmps29
            go_wp2_with (first
              | (go_at_call 37; refine HC.out.mono ?_; rintro e w1 ⟨rfl, hb1⟩; have B1 := Lib.hid (bst HB.out hb1 HB.out.size); have A1 := Lib.hid (A0.out.below hb1); have P1 := Lib.hid (P0.out.below hb1); have R1 := Lib.hid (R0.out.below hb1); have d10 := P1.out.c0; have d11 := P1.out.c1; have d12 := P1.out.c2; have HB1C := Lib.hid hb1; clear hb1)
              | (go_at_call 69; refine (s_l5Thing _ b c h z _ A2.out G.out).mono ?_; rintro e w3 ⟨rfl, hb3⟩; rw [HX3.out]; have B3 := Lib.hid (bst B2.out hb3 B2.out.size); have A3 := Lib.hid (A2.out.below hb3); have P3 := Lib.hid (P2.out.below hb3); have R3 := Lib.hid (R2.out.below hb3); have d30 := P3.out.c0; have d31 := P3.out.c1; have d32 := P3.out.c2; clear hb3)
              | (go_at_call 69; refine (s_l5Thing _ b c h (kt : Int) _ A1.out G.out).mono ?_; rintro e w2 ⟨rfl, hb2⟩; rw [HX2L.out]; have B2 := Lib.hid (bst B1.out hb2 B1.out.size); have A2 := Lib.hid (A1.out.below hb2); have P2 := Lib.hid (P1.out.below hb2); have R2 := Lib.hid (R1.out.below hb2); have d20 := P2.out.c0; have d21 := P2.out.c1; have d22 := P2.out.c2; have q2 := cellBelow hb2 (Nat.le_refl _) (cellBelow HB1C.out (Nat.le_refl _) QU.out); clear hb2)
              | (go_at_call 70; refine (HIN.out _).mono ?_; rintro e wi ⟨rfl, rfl⟩))
            refine (s_l5Own _ b c h _ A3.out G.out).mono ?_
            rintro e w9 ⟨a', b', c', rfl, ho, hb9⟩
            have B9 := Lib.hid (bst B3.out hb9 B3.out.size); have R9 := Lib.hid (R3.out.below hb9)
            have hfl := hasFB_iff HX2.out G.out
            obtain ⟨k, j, hkt, rfl, hk, hj⟩ := hfl
            obtain rfl : kt = k := by omega
            obtain ⟨ga, ca, pb, qb, pc, qc, gr, cr, x, rfl, rfl, rfl, q1, q2, q3, hgr, rA, rR, oN⟩ := setFld_facts (k := kt) ho hk hj z R9.out
            have hE2 := E2.out HE.out
            rw [Int.toNat_natCast, Int.toNat_natCast] at hE2
            have RA := Lib.hid rA; have RR := Lib.hid rR; have ON := Lib.hid oN; have EE := Lib.hid hE2
            have LL : Hid (w.heap.size ≤ gr) := Nat.le_trans B3.out.size hgr
            have L9 : Hid (w.heap.size ≤ w9.heap.size) := B9.out.size
            have LK := Lib.hid B3.out.size
            clear rA rR oN hE2 ho hb9 hgr
            have i1 : (kt : Int) < (h.f.length : Int) := by omega
            have i2 : (j : Int) < ((h.f.getD kt []).length : Int) := by omega
            have j1 : (0 : Int) ≤ (kt : Int) := by omega
            have j2 : (0 : Int) ≤ (j : Int) := by omega
            generalize h.f.length = nf at *
            generalize h.l.length = nl at *
            generalize h.r.length = nr at *
            generalize (h.f.getD kt []).length = nm at *
            go_wp2_with (first
              | (refine wl_loadH rfl _ rfl w9.heap.size _ _ _ RA.out rfl ?_)
              | (refine wl_storeH rfl _ _ rfl (w.heap.size + 1) (.slice (some ⟨ga, 0, none⟩) nf ca) (.slice pb nl qb) (.slice pc nr qc) _ _ _ RR.out rfl rfl rfl rfl rfl ?_))
            refine bodyPost_ret (res_row_slot Try.results29 (Row.put RR.out (c3 (.slice (some ⟨ga, 0, none⟩) nf ca) (.slice pb nl qb) (.slice pc nr qc))) rfl rfl Try.underlying27 rfl info_heap) rfl (endH_yes (below_setRow ((B9.out.alloc L9.out _).setCell (p := ⟨gr, j, none⟩) LL.out _) (by omega) _) (ON.out.wholeRow RR.out _) LK.out (by rw [size_setRow, World.size_setCell, World.size_alloc]; omega) EE.out HE.out)
      · have HIN : Hid (∀ w', Calls Try.prog 70 #[.int .i64 f, .int .i64 0, .int .i64 ((m : Int) - 1)] w' fun e w'' => e = .returned (.bool false) ∧ w' = w'') := fun w' => s_l1In_no f 0 _ w' (by omega)
        have HX2 : Hid (hasFB h (kt : Int) f = false) := by unfold Hid; rw [hfb]; simp; omega
        have HE : Hid (ok = false) := by unfold Hid; rw [hok, HX2.out]; simp
        have hm3 := HM12.out
        clear hok hf hfb
        go_enter Try.func29, Try.ntmps29
        go_wp2_with (first
          | (go_at_call 37; refine HC.out.mono ?_; rintro e w1 ⟨rfl, hb1⟩; have B1 := Lib.hid (bst HB.out hb1 HB.out.size); have A1 := Lib.hid (A0.out.below hb1); have P1 := Lib.hid (P0.out.below hb1); have R1 := Lib.hid (R0.out.below hb1); have d10 := P1.out.c0; have d11 := P1.out.c1; have d12 := P1.out.c2; have HB1C := Lib.hid hb1; clear hb1)
          | (go_at_call 69; refine (s_l5Thing _ b c h (kt : Int) _ A1.out G.out).mono ?_; rintro e w2 ⟨rfl, hb2⟩; rw [HX2L.out]; have B2 := Lib.hid (bst B1.out hb2 B1.out.size); have A2 := Lib.hid (A1.out.below hb2); have P2 := Lib.hid (P1.out.below hb2); have R2 := Lib.hid (R1.out.below hb2); have d20 := P2.out.c0; have d21 := P2.out.c1; have d22 := P2.out.c2; have q2 := cellBelow hb2 (Nat.le_refl _) (cellBelow HB1C.out (Nat.le_refl _) QU.out); clear hb2)
          | (go_at_call 70; refine (HIN.out _).mono ?_; rintro e wi ⟨rfl, rfl⟩)
          | (refine wl_storeH rfl _ _ rfl (w.heap.size + 1) (.slice none 0 0) (.slice none 0 0) (.slice none 0 0) _ _ _ R2.out rfl rfl rfl rfl rfl ?_))
        refine bodyPost_ret (res_row_slot Try.results29 (Row.put R2.out (c3 (.slice none 0 0) (.slice none 0 0) (.slice none 0 0))) rfl rfl Try.underlying27 rfl info_heap) rfl (endH_no (below_setRow B2.out (by omega) _) (E1.out HE.out) HE.out)
end Go.Proofs.Ytcjkkbbinieblaa
