/- What the laws rest on, part 4. -/
import Derived.Test.YtkkigoamphkalaaQE3
import Derived.Deep.Cut
namespace Go.Proofs.Ytkkigoamphkalaa
open Go.RowKit Ph

set_option maxRecDepth 100000 in
set_option maxHeartbeats 6400000 in
theorem s_SetField (a b c : Value) (h : H) (t f z : Int) (w : World) (hA : HeapAt w a b c h) : Calls Try.prog 60 #[hv a b c, .int .i64 t, .int .i64 f, .int .i64 z] w (EndH (setF h t f z) (setFOk h t f z) w) := by
  have hb0 := (below1 w (.cells (c3 a b c) 30)).alloc (by simp) (.cells (c3 (.slice none 0 0) (.slice none 0 0) (.slice none 0 0)) 30)
  have A0 := Lib.hid (hA.below hb0)
  have HB := Lib.hid hb0
  have P0 := Lib.hid (show RowH _ _ a b c from (Row.new w 30 (c3 a b c)).alloc (.cells (c3 (.slice none 0 0) (.slice none 0 0) (.slice none 0 0)) 30))
  have R0 := Lib.hid (show RowH _ (w.heap.size + 1) (.slice none 0 0) (.slice none 0 0) (.slice none 0 0) from Row.new1 w (.cells (c3 a b c) 30) 30 (c3 (.slice none 0 0) (.slice none 0 0) (.slice none 0 0)))
  clear hA hb0
  have HC := Lib.hid (s_GoodHeap a b c h _ A0.out)
  have G1 := Lib.hid (good_iff (h := h)).1
  have E1 := Lib.hid (setF_no (h := h) (t := t) (f := f) (z := z))
  have E2 := Lib.hid (setF_yes (h := h) (t := t) (f := f) (z := z))
  have hok : setFOk h t f z = (good h && hasFB h t f && refB h.l z) := rfl
  have hfb : hasFB h t f = (liveB h.l t && decide (0 ≤ f) && decide (f < ((h.f.getD t.toNat []).length : Int))) := rfl
  have hlt : liveB h.l t = true → Ph.Good h → 0 ≤ t ∧ t < h.f.length := fun k g => live_inRg g k
  generalize good h = x at *
  have p0 := P0.out.c0
  have p1 := P0.out.c1
  have p2 := P0.out.c2
  generalize setFOk h t f z = ok at *
  cases x
  · have HE : Hid (ok = false) := by unfold Hid; rw [hok]; rfl
    clear hok hfb hlt
    go_enter Try.func60, Try.ntmps60
    go_wp2_with (first
      | (go_at_call 80; refine HC.out.mono ?_; rintro e w1 ⟨rfl, hb1⟩; have B1 := Lib.hid (bst HB.out hb1 HB.out.size); have A1 := Lib.hid (A0.out.below hb1); have P1 := Lib.hid (P0.out.below hb1); have R1 := Lib.hid (R0.out.below hb1); have d10 := P1.out.c0; have d11 := P1.out.c1; have d12 := P1.out.c2; clear hb1)
      | (refine wl_storeH rfl _ _ rfl (w.heap.size + 1) (.slice none 0 0) (.slice none 0 0) (.slice none 0 0) _ _ _ R1.out rfl rfl rfl rfl rfl ?_))
    refine bodyPost_ret (res_row_slot Try.results60 (Row.put R1.out (c3 (.slice none 0 0) (.slice none 0 0) (.slice none 0 0))) rfl rfl Try.underlying30 rfl info_heap) rfl (endH_no (below_setRow B1.out (by omega) _) (E1.out HE.out) HE.out)
  · have G := Lib.hid (G1.out rfl)
    generalize hb2 : liveB h.l t = x2 at *
    have HX2L := Lib.hid hb2
    clear hb2
    cases x2
    · have HE : Hid (ok = false) := by unfold Hid; rw [hok, hfb]; simp
      clear hok hfb hlt
      go_enter Try.func60, Try.ntmps60
      go_wp2_with (first
        | (go_at_call 80; refine HC.out.mono ?_; rintro e w1 ⟨rfl, hb1⟩; have B1 := Lib.hid (bst HB.out hb1 HB.out.size); have A1 := Lib.hid (A0.out.below hb1); have P1 := Lib.hid (P0.out.below hb1); have R1 := Lib.hid (R0.out.below hb1); have d10 := P1.out.c0; have d11 := P1.out.c1; have d12 := P1.out.c2; clear hb1)
        | (go_at_call 125; refine (s_l5Thing a b c h t _ A1.out G.out).mono ?_; rintro e w2 ⟨rfl, hb2⟩; rw [HX2L.out]; have B2 := Lib.hid (bst B1.out hb2 B1.out.size); have A2 := Lib.hid (A1.out.below hb2); have P2 := Lib.hid (P1.out.below hb2); have R2 := Lib.hid (R1.out.below hb2); have d20 := P2.out.c0; have d21 := P2.out.c1; have d22 := P2.out.c2; clear hb2)
        | (refine wl_storeH rfl _ _ rfl (w.heap.size + 1) (.slice none 0 0) (.slice none 0 0) (.slice none 0 0) _ _ _ R2.out rfl rfl rfl rfl rfl ?_))
      refine bodyPost_ret (res_row_slot Try.results60 (Row.put R2.out (c3 (.slice none 0 0) (.slice none 0 0) (.slice none 0 0))) rfl rfl Try.underlying30 rfl info_heap) rfl (endH_no (below_setRow B2.out (by omega) _) (E1.out HE.out) HE.out)
    · obtain ⟨ht0, htn⟩ := hlt rfl G.out
      obtain ⟨kt, rfl⟩ : ∃ k : Nat, t = k := ⟨t.toNat, by omega⟩
      have HSH := Lib.hid A0.out.f.shape
      obtain ⟨fa, fc, hfa⟩ := HSH.out
      subst hfa
      clear HSH
      obtain ⟨fb, fo, rfl, hcf⟩ := A0.out.f.at' (by omega)
      obtain ⟨u, qu, hu⟩ := hcf kt (by omega)
      obtain ⟨ua, uc, hus⟩ := hu.shape
      subst hus
      have QU := Lib.hid qu
      have i2 : (kt : Int) < (h.f.length : Int) := by omega
      have i3 : (0 : Int) ≤ (kt : Int) := by omega
      rw [Int.toNat_natCast] at hfb
      clear hcf hu qu hlt
      have HM12 : Hid ((h.f.getD kt []).length ≤ 3) := (G.out.row kt (by omega)).1
      have HLN : Hid (kt < h.f.length) := by unfold Hid; omega
      generalize hm0 : (h.f.getD kt []).length = m at *
      have HMM := Lib.hid hm0
      clear hm0
      by_cases hf : 0 ≤ f ∧ f ≤ (m : Int) - 1
      · have HIN : Hid (∀ w', Calls Try.prog 126 #[.int .i64 f, .int .i64 0, .int .i64 ((m : Int) - 1)] w' fun e w'' => e = .returned (.bool true) ∧ w' = w'') := fun w' => s_l1In_yes f 0 _ w' hf.1 hf.2
        have HX2 : Hid (hasFB h (kt : Int) f = true) := by unfold Hid; rw [hfb]; simp; omega
        have HZR : Hid (refB h.l z = (decide (z = -1) || liveB h.l z)) := rfl
        rw [HX2.out, HZR.out] at hok
        clear hfb
        by_cases z1 : z = -1
        · subst z1
          have HE : Hid (ok = true) := by unfold Hid; rw [hok]; simp
          clear hok hf
          have hm3 := HM12.out
          go_enter Try.func60, Try.ntmps60
          go_wp2_with (first
            | (go_at_call 80; refine HC.out.mono ?_; rintro e w1 ⟨rfl, hb1⟩; have B1 := Lib.hid (bst HB.out hb1 HB.out.size); have A1 := Lib.hid (A0.out.below hb1); have P1 := Lib.hid (P0.out.below hb1); have R1 := Lib.hid (R0.out.below hb1); have d10 := P1.out.c0; have d11 := P1.out.c1; have d12 := P1.out.c2; have HB1C := Lib.hid hb1; clear hb1)
            | (go_at_call 125; refine (s_l5Thing _ b c h (kt : Int) _ A1.out G.out).mono ?_; rintro e w2 ⟨rfl, hb2⟩; rw [HX2L.out]; have B2 := Lib.hid (bst B1.out hb2 B1.out.size); have A2 := Lib.hid (A1.out.below hb2); have P2 := Lib.hid (P1.out.below hb2); have R2 := Lib.hid (R1.out.below hb2); have d20 := P2.out.c0; have d21 := P2.out.c1; have d22 := P2.out.c2; have q2 := cellBelow hb2 (Nat.le_refl _) (cellBelow HB1C.out (Nat.le_refl _) QU.out); clear hb2)
            | (go_at_call 126; refine (HIN.out _).mono ?_; rintro e wi ⟨rfl, rfl⟩))
          refine (s_l5Own _ b c h _ A2.out G.out).mono ?_
          rintro e w9 ⟨a', b', c', rfl, ho, hb9⟩
          have B9 := Lib.hid (bst B2.out hb9 B2.out.size); have R9 := Lib.hid (R2.out.below hb9)
          have hfl := hasFB_iff HX2.out G.out
          obtain ⟨k, j, hkt, rfl, hk, hj⟩ := hfl
          obtain rfl : kt = k := by omega
          obtain ⟨ga, ca, pb, qb, pc, qc, gr, cr, x, rfl, rfl, rfl, q1, q2, q3, hgr, rA, rR, oN⟩ := setFld_facts (k := kt) ho hk hj (-1) R9.out
          have hE2 := E2.out HE.out
          rw [Int.toNat_natCast, Int.toNat_natCast] at hE2
          have RA := Lib.hid rA; have RR := Lib.hid rR; have ON := Lib.hid oN; have EE := Lib.hid hE2
          have LL : Hid (w.heap.size ≤ gr) := Nat.le_trans B2.out.size hgr
          have L9 : Hid (w.heap.size ≤ w9.heap.size) := B9.out.size
          have LK := Lib.hid B2.out.size
          clear rA rR oN hE2 ho hb9 hgr
          have i1 : (kt : Int) < (h.f.length : Int) := by omega
          have i2 : (j : Int) < ((h.f.getD kt []).length : Int) := by omega
          have j1 : (0 : Int) ≤ (kt : Int) := by omega
          have j2 : (0 : Int) ≤ (j : Int) := by omega
          generalize h.f.length = nf at *
          generalize h.l.length = nl at *
          generalize h.r.length = nr at *
          generalize (h.f.getD kt []).length = nm at *
          go_wp2_with (first
            | (refine wl_loadH rfl _ rfl w9.heap.size _ _ _ RA.out rfl ?_)
            | (refine wl_storeH rfl _ _ rfl (w.heap.size + 1) (.slice (some ⟨ga, 0, none⟩) nf ca) (.slice pb nl qb) (.slice pc nr qc) _ _ _ RR.out rfl rfl rfl rfl rfl ?_))
          refine bodyPost_ret (res_row_slot Try.results60 (Row.put RR.out (c3 (.slice (some ⟨ga, 0, none⟩) nf ca) (.slice pb nl qb) (.slice pc nr qc))) rfl rfl Try.underlying30 rfl info_heap) rfl (endH_yes (below_setRow ((B9.out.alloc L9.out _).setCell (p := ⟨gr, j, none⟩) LL.out _) (by omega) _) (ON.out.wholeRow RR.out _) LK.out (by rw [size_setRow, World.size_setCell, World.size_alloc]; omega) EE.out HE.out)
        · have hz1 : (z != -1) = true := by rw [bne_iff_ne]; exact z1
          generalize hb3 : liveB h.l z = x3 at *
          have HX3 := Lib.hid hb3
          clear hb3
          have hm3 := HM12.out
          cases x3
          · have HE : Hid (ok = false) := by unfold Hid; rw [hok]; simp [z1]
            clear hok hf z1
            go_enter Try.func60, Try.ntmps60
            go_wp2_with (first
              | (go_at_call 80; refine HC.out.mono ?_; rintro e w1 ⟨rfl, hb1⟩; have B1 := Lib.hid (bst HB.out hb1 HB.out.size); have A1 := Lib.hid (A0.out.below hb1); have P1 := Lib.hid (P0.out.below hb1); have R1 := Lib.hid (R0.out.below hb1); have d10 := P1.out.c0; have d11 := P1.out.c1; have d12 := P1.out.c2; have HB1C := Lib.hid hb1; clear hb1)
              | (go_at_call 125; refine (s_l5Thing _ b c h z _ A2.out G.out).mono ?_; rintro e w3 ⟨rfl, hb3⟩; rw [HX3.out]; have B3 := Lib.hid (bst B2.out hb3 B2.out.size); have A3 := Lib.hid (A2.out.below hb3); have P3 := Lib.hid (P2.out.below hb3); have R3 := Lib.hid (R2.out.below hb3); have d30 := P3.out.c0; have d31 := P3.out.c1; have d32 := P3.out.c2; clear hb3)
              | (go_at_call 125; refine (s_l5Thing _ b c h (kt : Int) _ A1.out G.out).mono ?_; rintro e w2 ⟨rfl, hb2⟩; rw [HX2L.out]; have B2 := Lib.hid (bst B1.out hb2 B1.out.size); have A2 := Lib.hid (A1.out.below hb2); have P2 := Lib.hid (P1.out.below hb2); have R2 := Lib.hid (R1.out.below hb2); have d20 := P2.out.c0; have d21 := P2.out.c1; have d22 := P2.out.c2; have q2 := cellBelow hb2 (Nat.le_refl _) (cellBelow HB1C.out (Nat.le_refl _) QU.out); clear hb2)
              | (go_at_call 126; refine (HIN.out _).mono ?_; rintro e wi ⟨rfl, rfl⟩)
              | (refine wl_storeH rfl _ _ rfl (w.heap.size + 1) (.slice none 0 0) (.slice none 0 0) (.slice none 0 0) _ _ _ R3.out rfl rfl rfl rfl rfl ?_))
            refine bodyPost_ret (res_row_slot Try.results60 (Row.put R3.out (c3 (.slice none 0 0) (.slice none 0 0) (.slice none 0 0))) rfl rfl Try.underlying30 rfl info_heap) rfl (endH_no (below_setRow B3.out (by omega) _) (E1.out HE.out) HE.out)
          · have HE : Hid (ok = true) := by unfold Hid; rw [hok]; simp
            clear hok hf z1
            go_enter Try.func60, Try.ntmps60
            go_wp2_with (first
              | (go_at_call 80; refine HC.out.mono ?_; rintro e w1 ⟨rfl, hb1⟩; have B1 := Lib.hid (bst HB.out hb1 HB.out.size); have A1 := Lib.hid (A0.out.below hb1); have P1 := Lib.hid (P0.out.below hb1); have R1 := Lib.hid (R0.out.below hb1); have d10 := P1.out.c0; have d11 := P1.out.c1; have d12 := P1.out.c2; have HB1C := Lib.hid hb1; clear hb1)
              | (go_at_call 125; refine (s_l5Thing _ b c h z _ A2.out G.out).mono ?_; rintro e w3 ⟨rfl, hb3⟩; rw [HX3.out]; have B3 := Lib.hid (bst B2.out hb3 B2.out.size); have A3 := Lib.hid (A2.out.below hb3); have P3 := Lib.hid (P2.out.below hb3); have R3 := Lib.hid (R2.out.below hb3); have d30 := P3.out.c0; have d31 := P3.out.c1; have d32 := P3.out.c2; clear hb3)
              | (go_at_call 125; refine (s_l5Thing _ b c h (kt : Int) _ A1.out G.out).mono ?_; rintro e w2 ⟨rfl, hb2⟩; rw [HX2L.out]; have B2 := Lib.hid (bst B1.out hb2 B1.out.size); have A2 := Lib.hid (A1.out.below hb2); have P2 := Lib.hid (P1.out.below hb2); have R2 := Lib.hid (R1.out.below hb2); have d20 := P2.out.c0; have d21 := P2.out.c1; have d22 := P2.out.c2; have q2 := cellBelow hb2 (Nat.le_refl _) (cellBelow HB1C.out (Nat.le_refl _) QU.out); clear hb2)
              | (go_at_call 126; refine (HIN.out _).mono ?_; rintro e wi ⟨rfl, rfl⟩))
            refine (s_l5Own _ b c h _ A3.out G.out).mono ?_
            rintro e w9 ⟨a', b', c', rfl, ho, hb9⟩
            have B9 := Lib.hid (bst B3.out hb9 B3.out.size); have R9 := Lib.hid (R3.out.below hb9)
            have hfl := hasFB_iff HX2.out G.out
            obtain ⟨k, j, hkt, rfl, hk, hj⟩ := hfl
            obtain rfl : kt = k := by omega
            obtain ⟨ga, ca, pb, qb, pc, qc, gr, cr, x, rfl, rfl, rfl, q1, q2, q3, hgr, rA, rR, oN⟩ := setFld_facts (k := kt) ho hk hj z R9.out
            have hE2 := E2.out HE.out
            rw [Int.toNat_natCast, Int.toNat_natCast] at hE2
            have RA := Lib.hid rA; have RR := Lib.hid rR; have ON := Lib.hid oN; have EE := Lib.hid hE2
            have LL : Hid (w.heap.size ≤ gr) := Nat.le_trans B3.out.size hgr
            have L9 : Hid (w.heap.size ≤ w9.heap.size) := B9.out.size
            have LK := Lib.hid B3.out.size
            clear rA rR oN hE2 ho hb9 hgr
            have i1 : (kt : Int) < (h.f.length : Int) := by omega
            have i2 : (j : Int) < ((h.f.getD kt []).length : Int) := by omega
            have j1 : (0 : Int) ≤ (kt : Int) := by omega
            have j2 : (0 : Int) ≤ (j : Int) := by omega
            generalize h.f.length = nf at *
            generalize h.l.length = nl at *
            generalize h.r.length = nr at *
            generalize (h.f.getD kt []).length = nm at *
            go_wp2_with (first
              | (refine wl_loadH rfl _ rfl w9.heap.size _ _ _ RA.out rfl ?_)
              | (refine wl_storeH rfl _ _ rfl (w.heap.size + 1) (.slice (some ⟨ga, 0, none⟩) nf ca) (.slice pb nl qb) (.slice pc nr qc) _ _ _ RR.out rfl rfl rfl rfl rfl ?_))
            refine bodyPost_ret (res_row_slot Try.results60 (Row.put RR.out (c3 (.slice (some ⟨ga, 0, none⟩) nf ca) (.slice pb nl qb) (.slice pc nr qc))) rfl rfl Try.underlying30 rfl info_heap) rfl (endH_yes (below_setRow ((B9.out.alloc L9.out _).setCell (p := ⟨gr, j, none⟩) LL.out _) (by omega) _) (ON.out.wholeRow RR.out _) LK.out (by rw [size_setRow, World.size_setCell, World.size_alloc]; omega) EE.out HE.out)
      · have HIN : Hid (∀ w', Calls Try.prog 126 #[.int .i64 f, .int .i64 0, .int .i64 ((m : Int) - 1)] w' fun e w'' => e = .returned (.bool false) ∧ w' = w'') := fun w' => s_l1In_no f 0 _ w' (by omega)
        have HX2 : Hid (hasFB h (kt : Int) f = false) := by unfold Hid; rw [hfb]; simp; omega
        have HE : Hid (ok = false) := by unfold Hid; rw [hok, HX2.out]; simp
        have hm3 := HM12.out
        clear hok hf hfb
        go_enter Try.func60, Try.ntmps60
        go_wp2_with (first
          | (go_at_call 80; refine HC.out.mono ?_; rintro e w1 ⟨rfl, hb1⟩; have B1 := Lib.hid (bst HB.out hb1 HB.out.size); have A1 := Lib.hid (A0.out.below hb1); have P1 := Lib.hid (P0.out.below hb1); have R1 := Lib.hid (R0.out.below hb1); have d10 := P1.out.c0; have d11 := P1.out.c1; have d12 := P1.out.c2; have HB1C := Lib.hid hb1; clear hb1)
          | (go_at_call 125; refine (s_l5Thing _ b c h (kt : Int) _ A1.out G.out).mono ?_; rintro e w2 ⟨rfl, hb2⟩; rw [HX2L.out]; have B2 := Lib.hid (bst B1.out hb2 B1.out.size); have A2 := Lib.hid (A1.out.below hb2); have P2 := Lib.hid (P1.out.below hb2); have R2 := Lib.hid (R1.out.below hb2); have d20 := P2.out.c0; have d21 := P2.out.c1; have d22 := P2.out.c2; have q2 := cellBelow hb2 (Nat.le_refl _) (cellBelow HB1C.out (Nat.le_refl _) QU.out); clear hb2)
          | (go_at_call 126; refine (HIN.out _).mono ?_; rintro e wi ⟨rfl, rfl⟩)
          | (refine wl_storeH rfl _ _ rfl (w.heap.size + 1) (.slice none 0 0) (.slice none 0 0) (.slice none 0 0) _ _ _ R2.out rfl rfl rfl rfl rfl ?_))
        refine bodyPost_ret (res_row_slot Try.results60 (Row.put R2.out (c3 (.slice none 0 0) (.slice none 0 0) (.slice none 0 0))) rfl rfl Try.underlying30 rfl info_heap) rfl (endH_no (below_setRow B2.out (by omega) _) (E1.out HE.out) HE.out)
end Go.Proofs.Ytkkigoamphkalaa
namespace Go.Proofs.Ytkkigoamphkalaa
open Go.RowKit Ph

set_option maxRecDepth 100000 in
set_option maxHeartbeats 3200000 in
theorem s_l5Keep (a b c kv : Value) (h : H) (ks : List Bool) (lo hi : Nat) (w : World) (hO : OwnH w lo hi a b c h) (hK : OwnBs w hi kv ks) (hs : hi ≤ w.heap.size) (hlf : h.l.length = h.f.length) (hkl : ks.length = h.f.length) (hn : h.f.length ≤ 12) :
    Calls Try.prog 91 #[hv a b c, kv] w fun e w' => e = .returned (.tuple #[hv a b c, .int .i64 ((keepTo h ks h.f.length).2 : Int)]) ∧ OwnH w' lo hi a b c (keepTo h ks h.f.length).1 ∧ Chg lo hi w w' := by
  have hb0 := (below1 w (.cells (c3 a b c) 30)).alloc (by simp) (.cells (c3 (.slice none 0 0) (.slice none 0 0) (.slice none 0 0)) 30)
  have O0 := Lib.hid (hO.below hb0); have K0 := Lib.hid (OwnBs.below hK hb0)
  have C0 := Lib.hid (Chg.of_below (lo := lo) (hi := hi) hb0)
  have R0 := Lib.hid (show RowH _ _ a b c from (Row.new w 30 (c3 a b c)).alloc (.cells (c3 (.slice none 0 0) (.slice none 0 0) (.slice none 0 0)) 30))
  have Q0 := Lib.hid (show RowH _ (w.heap.size + 1) (.slice none 0 0) (.slice none 0 0) (.slice none 0 0) from Row.new1 w (.cells (c3 a b c) 30) 30 (c3 (.slice none 0 0) (.slice none 0 0) (.slice none 0 0)))
  have HKT := Lib.hid (keepTo_len h ks)
  obtain ⟨⟨pa, qa, rfl⟩, ⟨pb, qb, rfl⟩, ⟨pc, qc, rfl⟩⟩ := hO.shapes
  obtain ⟨pk, qk, rfl⟩ := (owns_bools hK).shape
  rw [hlf] at O0 C0 R0 K0 Q0 ⊢
  rw [hkl] at K0 ⊢
  have HLF := Lib.hid hlf; have HS := Lib.hid hs; have HKL := Lib.hid hkl
  clear hO hK hb0 hlf hs hkl
  generalize hnn : h.f.length = n at *
  have HN := Lib.hid hnn
  clear hnn
  generalize h.r.length = nr at *
  have hc1 := R0.out.c1
  go_enter Try.func91, Try.ntmps91
  go_wp2_with fail
  clear hc1
  generalize ((w.alloc (.cells (c3 (.slice pa n qa) (.slice pb n qb) (.slice pc nr qc)) 30)).alloc (.cells (c3 (.slice none 0 0) (.slice none 0 0) (.slice none 0 0)) 30)) = w0 at *
  go_loopw [6, 11] (fun cnt i wr => ∃ j : Nat, j ≤ n ∧ i = .int .i64 j ∧ ∃ m : Nat, Hid ((keepTo h ks j).2 = m) ∧ m ≤ j ∧ cnt = .int .i64 m ∧ Hid (OwnH wr lo hi (.slice pa n qa) (.slice pb n qb) (.slice pc nr qc) (keepTo h ks j).1) ∧ Hid (OwnBs wr hi (.slice pk n qk) ks) ∧ Hid (RowH wr w.heap.size (.slice pa n qa) (.slice pb n qb) (.slice pc nr qc)) ∧ Hid (RowH wr (w.heap.size + 1) (.slice none 0 0) (.slice none 0 0) (.slice none 0 0)) ∧ Hid (Chg lo hi w wr)) (fun _ i _ => n - (intOf i).toNat)
  case atStart => exact ⟨0, Nat.zero_le _, rfl, 0, rfl, Nat.le_refl _, rfl, O0, K0, R0, Q0, C0⟩
  case round =>
    obtain ⟨j, hj, rfl, m, hm, hmj, rfl, hO, hK, hR, hQ, hC⟩ := hrel
    by_cases hlt : j < n
    · obtain ⟨e1, e2, _, _⟩ := HKT.out j
      rw [HLF.out] at e2
      obtain ⟨gb, cb, hb, qb1, fb1, oL, cL⟩ := putLiveB hO.out (j := j) (by rw [e2]; exact hlt) false
      rw [e2] at hb
      cases hb
      obtain ⟨gk, ok, hk, hkc⟩ := (owns_bools hK.out).at' (by omega)
      subst hk
      have qk1 := hkc j hlt
      have i1 : (j : Int) < (n : Int) := by omega
      have d0 := hR.out.c0
      have d1 := hR.out.c1
      have hyes := keepTo_yes (h := h) (ks := ks) (j := j)
      have hno := keepTo_no (h := h) (ks := ks) (j := j)
      have HYES := Lib.hid hyes; have HNO := Lib.hid hno
      clear hkc hyes hno
      generalize (keepTo h ks j).1.l.getD j false = on at *
      generalize ks.getD j false = kk at *
      cases on
      · have HE := Lib.hid (HNO.out (.inl rfl))
        clear oL cL
        go_wp2_with fail
        go_roundw
        case rel => exact ⟨j + 1, by omega, by go_num, m, by rw [HE.out]; exact hm, by omega, rfl, by rw [HE.out]; exact hO, hK, hR, hQ, hC⟩
        case measure => simp [intOf]; omega
      · cases kk
        · have HE := Lib.hid (HYES.out rfl rfl)
          have K1 := OwnBs.chg hK.out cL (Nat.le_refl _)
          have R1 : RowH _ _ _ _ _ := Row.chg hR.out cL (.inr HS.out)
          obtain ⟨ga, ca, x, ha, qa1, fa1, oF, cF⟩ := putNil oL (j := j) (by simp only; rw [e1]; exact hlt)
          simp only at ha
          rw [e1] at ha
          cases ha
          have d2 := R1.c0
          have K2 := Lib.hid (OwnBs.chg K1 cF (Nat.le_refl _))
          have R2 : Hid (RowH _ _ _ _ _) := Row.chg R1 cF (.inr HS.out)
          have Q2 : Hid (RowH _ _ _ _ _) := Row.chg (Row.chg hQ.out cL (.inr (by have := HS.out; omega))) cF (.inr (by have := HS.out; omega))
          have C2 := Lib.hid ((hC.out.trans cL).trans cF)
          have O2 := Lib.hid oF
          clear oL cL oF cF K1 R1
          go_wp2_with fail
          go_roundw
          case rel => exact ⟨j + 1, by omega, by go_num, m + 1, by rw [HE.out]; exact congrArg (· + 1) hm.out, by omega, by go_num, by rw [HE.out]; exact O2, K2, R2, Q2, C2⟩
          case measure => simp [intOf]; omega
        · have HE := Lib.hid (HNO.out (.inr rfl))
          clear oL cL
          go_wp2_with fail
          go_roundw
          case rel => exact ⟨j + 1, by omega, by go_num, m, by rw [HE.out]; exact hm, by omega, rfl, by rw [HE.out]; exact hO, hK, hR, hQ, hC⟩
          case measure => simp [intOf]; omega
    · obtain rfl : j = n := by omega
      have HO := Lib.hid hO.out; have HMM := Lib.hid hm.out
      go_wp2_with (first
        | (refine wl_loadH rfl _ rfl w.heap.size _ _ _ hR.out rfl ?_)
        | (refine wl_storeH rfl _ _ rfl (w.heap.size + 1) (.slice pa j qa) (.slice pb j qb) (.slice pc nr qc) _ _ _ hQ.out rfl rfl rfl rfl rfl ?_))
      refine bodyPost_ret (res_row_slot Try.results91 (Row.put hQ.out (c3 (.slice pa j qa) (.slice pb j qb) (.slice pc nr qc))) rfl rfl Try.underlying30 rfl info_heap) rfl ⟨?_, HO.out.wholeRow hQ.out _, ⟨hC.out.os, hC.out.tape, hC.out.output, by rw [size_setRow]; exact hC.out.size, fun i hi hx => (setRow_other _ _ i _ (by omega)).trans (hC.out.block i hi hx)⟩⟩
      rw [HMM.out]; rfl
end Go.Proofs.Ytkkigoamphkalaa
namespace Go.Proofs.Ytkkigoamphkalaa
open Go.RowKit Ph

set_option maxRecDepth 100000 in
set_option maxHeartbeats 6400000 in
theorem s_CleanHeap (a b c : Value) (h : H) (w : World) (hA : HeapAt w a b c h) : Calls Try.prog 28 #[hv a b c] w (EndHI (cleanP h).1 ((cleanP h).2 : Int) (good h) w) := by
  have hb0 := (below1 w (.cells (c3 a b c) 30)).alloc (by simp) (.cells (c3 (.slice none 0 0) (.slice none 0 0) (.slice none 0 0)) 30)
  have A0 := Lib.hid (hA.below hb0)
  have HB := Lib.hid hb0
  have P0 := Lib.hid (show RowH _ _ a b c from (Row.new w 30 (c3 a b c)).alloc (.cells (c3 (.slice none 0 0) (.slice none 0 0) (.slice none 0 0)) 30))
  have R0 := Lib.hid (show RowH _ (w.heap.size + 1) (.slice none 0 0) (.slice none 0 0) (.slice none 0 0) from Row.new1 w (.cells (c3 a b c) 30) 30 (c3 (.slice none 0 0) (.slice none 0 0) (.slice none 0 0)))
  clear hA hb0
  have HC := Lib.hid (s_GoodHeap a b c h _ A0.out)
  have G1 := Lib.hid (good_iff (h := h)).1
  have E1 := Lib.hid (cleanP_no (h := h))
  have E2 := Lib.hid (cleanP_yes (h := h))
  generalize good h = x at *
  have p0 := P0.out.c0
  have p1 := P0.out.c1
  have p2 := P0.out.c2
  cases x
  · have HE := Lib.hid (E1.out rfl)
    go_enter Try.func28, Try.ntmps28
    go_wp2_with (first
      | (go_at_call 80; refine HC.out.mono ?_; rintro e w1 ⟨rfl, hb1⟩; have B1 := Lib.hid (bst HB.out hb1 HB.out.size); have R1 := Lib.hid (R0.out.below hb1); clear hb1)
      | (refine wl_storeH rfl _ _ rfl (w.heap.size + 1) (.slice none 0 0) (.slice none 0 0) (.slice none 0 0) _ _ _ R1.out rfl rfl rfl rfl rfl ?_))
    refine bodyPost_ret (res_row_slot2 Try.results28 (Row.put R1.out (c3 (.slice none 0 0) (.slice none 0 0) (.slice none 0 0))) rfl rfl rfl Try.underlying30 rfl info_heap) rfl (endHI_no (below_setRow B1.out (by omega) _) (by rw [HE.out]) (by rw [HE.out]; rfl) rfl)
  · have hE := E2.out rfl
    have G := Lib.hid (G1.out rfl)
    have HE1 : Hid ((cleanP h).1 = (keepTo h (reachL h.f h.r) h.f.length).1) := by unfold Hid; rw [hE]
    have HE2 : Hid (((cleanP h).2 : Int) = ((keepTo h (reachL h.f h.r) h.f.length).2 : Int)) := by unfold Hid; rw [hE]
    have HEN : Hid ((keepTo h (reachL h.f h.r) h.f.length).1.f.length = h.f.length ∧ (keepTo h (reachL h.f h.r) h.f.length).1.l.length = h.l.length ∧ (keepTo h (reachL h.f h.r) h.f.length).1.r = h.r) := ⟨(keepTo_len h _ _).1, (keepTo_len h _ _).2.1, (keepTo_len h _ _).2.2.1⟩
    clear hE
    generalize (cleanP h).1 = c1 at *
    generalize (cleanP h).2 = c2 at *
    go_enter Try.func28, Try.ntmps28
    go_wp2_with (go_at_call 80; refine HC.out.mono ?_; rintro e w1 ⟨rfl, hb1⟩; have B1 := Lib.hid (bst HB.out hb1 HB.out.size); have A1 := Lib.hid (A0.out.below hb1); have P1 := Lib.hid (P0.out.below hb1); have R1 := Lib.hid (R0.out.below hb1); clear hb1)
    clear p0 p1 p2
    go_cut [5, 6] from 7 (fun s5 s6 wz => ∃ (gC lo hi : Nat) (pa pb pc : Option Addr) (qa qb qc : Nat), s5 = .pointer (some ⟨gC, 0, none⟩) ∧ s6 = .int .i64 ((keepTo h (reachL h.f h.r) h.f.length).2 : Int) ∧ Hid (RowH wz gC (.slice pa h.f.length qa) (.slice pb h.l.length qb) (.slice pc h.r.length qc)) ∧ Hid (RowH wz (w.heap.size + 1) (.slice none 0 0) (.slice none 0 0) (.slice none 0 0)) ∧ Hid (OwnH wz lo hi (.slice pa h.f.length qa) (.slice pb h.l.length qb) (.slice pc h.r.length qc) (keepTo h (reachL h.f h.r) h.f.length).1) ∧ Hid (w.heap.size ≤ lo) ∧ Hid (hi ≤ wz.heap.size) ∧ Hid (Below w.heap.size w wz))
    case first =>
      have cP : w1.drew.cell? ⟨w.heap.size, 0, none⟩ = some a ∧ w1.drew.cell? ⟨w.heap.size, 1, none⟩ = some b ∧ w1.drew.cell? ⟨w.heap.size, 2, none⟩ = some c := ⟨P1.out.c0, P1.out.c1, P1.out.c2⟩
      have AD := Lib.hid (A1.out.below (below_drew (Below.refl w1.heap.size w1)))
      have PD : Hid (RowH w1.drew w.heap.size a b c) := P1.out
      have RD : Hid (RowH w1.drew (w.heap.size + 1) (.slice none 0 0) (.slice none 0 0) (.slice none 0 0)) := R1.out
      have BD := Lib.hid (below_drew B1.out)
      refine wp_region_held_drew (S := (fun w' => w'.cell? ⟨w.heap.size, 0, none⟩ = some a ∧ w'.cell? ⟨w.heap.size, 1, none⟩ = some b ∧ w'.cell? ⟨w.heap.size, 2, none⟩ = some c)) (by kernel_rfl) (cP) (fun hHeld => ?_)
      refine wpAnyH_take (i := 0) (v := ?va0x1) rfl (by kernel_rfl) (by kernel_rfl) (by kernel_rfl) (fun _ _ _ h => h) (Or.inl ⟨by rfl, ?hy0x1⟩) (by assumption) ?rest0x1
      case hy0x1 => (intro w hSw; (try dsimp only at hSw); go_simp; try with_reducible rfl)
      (try simp only [Act.put, List.getElem_toArray, List.getElem_cons_zero, List.setIfInBounds_toArray, List.set_cons_zero, List.set_cons_succ])
      refine wpAnyH_take (i := 2) (v := ?va2x2) rfl (by kernel_rfl) (by kernel_rfl) (by kernel_rfl) (fun _ _ _ h => h) (Or.inl ⟨by rfl, ?hy2x2⟩) (by assumption) ?rest2x2
      case hy2x2 => (intro w hSw; (try dsimp only at hSw); go_simp; try with_reducible rfl)
      (try simp only [Act.put, List.getElem_toArray, List.getElem_cons_zero, List.getElem_cons_succ, List.setIfInBounds_toArray, List.set_cons_zero, List.set_cons_succ])
      have hsz1 : w.heap.size + 1 < w1.drew.heap.size := RD.out.lt
      have HSZ := Lib.hid hsz1
      clear hsz1 cP
      generalize w1.drew = x0 at *
      refine wpAnyH_ready (rs := [1, 8]) (by kernel_rfl) (by simp) ?_
      refine AllReadyH.cons rfl (fun K hK => ?_) (AllReadyH.cons rfl (fun K hK => ?_) AllReadyH.nil)
      · skip
        clear hHeld
        go_simp
        refine (s_l5Own a b c h _ AD.out G.out).mono ?_
        rintro e x1 ⟨a', b', c', rfl, ho, hbn⟩
        obtain ⟨⟨pa, qa, rfl⟩, ⟨pb, qb, rfl⟩, ⟨pc, qc, rfl⟩⟩ := ho.shapes
        have A1 := Lib.hid (AD.out.below hbn)
        have P1 := Lib.hid (PD.out.below hbn); have R1 := Lib.hid (RD.out.below hbn); have B1 := Lib.hid (bst BD.out hbn BD.out.size)
        have O1 := Lib.hid ho; have M1 : Hid (x1.heap.size ≤ x1.heap.size) := Nat.le_refl _
        have W1 : Hid (w.heap.size ≤ x0.heap.size) := by unfold Hid; have := HSZ.out; omega
        have Y1 : Hid (w.heap.size + 1 < x1.heap.size) := Nat.lt_of_lt_of_le HSZ.out hbn.size
        have X1 : Hid (w.heap.size + 1 < x0.heap.size) := HSZ
        clear ho
        refine hK.out _ _ ⟨P1.out.c0, P1.out.c1, P1.out.c2⟩ (fun hHeld => ?_)
        clear hK K hbn
        (try simp only [Act.put, List.getElem_toArray, List.getElem_cons_zero, List.getElem_cons_succ, List.setIfInBounds_toArray, List.set_cons_zero, List.set_cons_succ])
        generalize hlo1 : x0.heap.size = lo at *
        clear hlo1
        obtain ⟨hi, hhi⟩ : ∃ n, n = x1.heap.size := ⟨_, rfl⟩
        rw [← hhi] at O1
        have N1 : Hid (hi ≤ x1.heap.size) := Nat.le_of_eq hhi
        have V1 : Hid (x1.heap.size ≤ hi) := Nat.le_of_eq hhi.symm
        clear hhi
        refine wpAnyH_ready (rs := [3, 8]) (by kernel_rfl) (by simp) ?_
        refine AllReadyH.cons rfl (fun K hK => ?_) (AllReadyH.cons rfl (fun K hK => ?_) AllReadyH.nil)
        · skip
          clear hHeld
          go_simp
          refine (s_l5Reached a b c h _ A1.out G.out).mono ?_
          rintro e x2 ⟨kv, rfl, hok, hbn⟩
          obtain ⟨pk, qk, hpk⟩ := (owns_bools hok).shape
          subst hpk
          have A2 := Lib.hid (A1.out.below hbn)
          have P2 := Lib.hid (P1.out.below hbn); have R2 := Lib.hid (R1.out.below hbn); have B2 := Lib.hid (bst B1.out hbn B1.out.size)
          have O2 := Lib.hid (O1.out.below hbn); have K2 := Lib.hid (show OwnBs x2 hi _ _ from owns_mono hok fun g hg => Nat.le_trans N1.out (owns_lt hok hg).1); have N2 : Hid (hi ≤ x2.heap.size) := Nat.le_trans N1.out hbn.size
          have Y2 : Hid (w.heap.size + 1 < x2.heap.size) := Nat.lt_of_lt_of_le Y1.out hbn.size
          clear hok
          refine hK.out _ _ ⟨P2.out.c0, P2.out.c1, P2.out.c2⟩ (fun hHeld => ?_)
          clear hK K hbn
          (try simp only [Act.put, List.getElem_toArray, List.getElem_cons_zero, List.getElem_cons_succ, List.setIfInBounds_toArray, List.set_cons_zero, List.set_cons_succ])
          refine wpAnyH_ready (rs := [4, 8]) (by kernel_rfl) (by simp) ?_
          refine AllReadyH.cons rfl (fun K hK => ?_) (AllReadyH.cons rfl (fun K hK => ?_) AllReadyH.nil)
          · skip
            clear hHeld
            go_simp
            refine (s_l5Keep _ _ _ _ h (reachL h.f h.r) lo hi _ O2.out K2.out N2.out G.out.ll (reachL_length _ _) G.out.n).mono ?_
            rintro e x3 ⟨rfl, ho, hch⟩
            have P3 := Lib.hid (show RowH _ _ _ _ _ from Row.chg P2.out hch (.inl (by have := X1.out; omega))); have R3 := Lib.hid (show RowH _ _ _ _ _ from Row.chg R2.out hch (.inl X1.out)); have B3 := Lib.hid (below_chg B2.out hch W1.out B2.out.size)
            have O3 := Lib.hid ho; have N3 : Hid (hi ≤ x3.heap.size) := Nat.le_trans N2.out hch.size; have Y3 : Hid (w.heap.size + 1 < x3.heap.size) := Nat.lt_of_lt_of_le Y2.out hch.size
            clear ho
            refine hK.out _ _ ⟨P3.out.c0, P3.out.c1, P3.out.c2⟩ (fun hHeld => ?_)
            clear hK K hch
            (try simp only [Act.put, List.getElem_toArray, List.getElem_cons_zero, List.getElem_cons_succ, List.setIfInBounds_toArray, List.set_cons_zero, List.set_cons_succ])
            have A3 : Hid True := trivial
            refine wpAnyH_take (i := 5) (v := ?va5x3) rfl (by kernel_rfl) (by kernel_rfl) (by kernel_rfl) (fun _ _ _ h => h) (Or.inl ⟨by rfl, ?hy5x3⟩) (by assumption) ?rest5x3
            case hy5x3 => (intro w hSw; (try dsimp only at hSw); go_simp; try with_reducible rfl)
            (try simp only [Act.put, List.getElem_toArray, List.getElem_cons_zero, List.getElem_cons_succ, List.setIfInBounds_toArray, List.set_cons_zero, List.set_cons_succ])
            refine wpAnyH_take (i := 6) (v := ?va6x4) rfl (by kernel_rfl) (by kernel_rfl) (by kernel_rfl) (fun _ _ _ h => h) (Or.inl ⟨by rfl, ?hy6x4⟩) (by assumption) ?rest6x4
            case hy6x4 => (intro w hSw; (try dsimp only at hSw); go_simp; try with_reducible rfl)
            (try simp only [Act.put, List.getElem_toArray, List.getElem_cons_zero, List.getElem_cons_succ, List.setIfInBounds_toArray, List.set_cons_zero, List.set_cons_succ])
            refine wpAnyH_take (i := 7) (v := ?va7x5) rfl (by kernel_rfl) (by kernel_rfl) (by kernel_rfl) (fun _ _ _ h => h) (Or.inl ⟨by rfl, ?hy7x5⟩) (by assumption) ?rest7x5
            case hy7x5 => (intro w hSw; (try dsimp only at hSw); go_simp; try with_reducible rfl)
            (try simp only [Act.put, List.getElem_toArray, List.getElem_cons_zero, List.getElem_cons_succ, List.setIfInBounds_toArray, List.set_cons_zero, List.set_cons_succ])
            refine wpAnyH_ready (rs := [8]) (by kernel_rfl) (by simp) ?_
            refine AllReadyH.cons rfl (fun K hK => ?_) AllReadyH.nil
            clear hHeld
            have hbn := below1 x3 (.cells (c3 (.slice none 0 0) (.slice none 0 0) (.slice none 0 0)) 30)
            have P4 := Lib.hid (P3.out.below hbn); have R4 := Lib.hid (R3.out.below hbn); have B4 := Lib.hid (bst B3.out hbn B3.out.size)
            have C4 := Lib.hid (show RowH (x3.alloc (.cells (c3 (.slice none 0 0) (.slice none 0 0) (.slice none 0 0)) 30)) x3.heap.size (.slice none 0 0) (.slice none 0 0) (.slice none 0 0) from Row.new x3 _ _)
            have D4 : Hid (x3.heap.size < (x3.alloc (.cells (c3 (.slice none 0 0) (.slice none 0 0) (.slice none 0 0)) 30)).heap.size) := by unfold Hid; simp
            have Z4 : Hid (w.heap.size + 1 < x3.heap.size) := Y3
            have O4 := Lib.hid (O3.out.below hbn)
            have L4 : Hid (hi ≤ x3.heap.size) := N3
            go_simp
            refine hK.out _ _ ⟨P4.out.c0, P4.out.c1, P4.out.c2⟩ (fun hHeld => ?_)
            clear hK K hbn
            (try simp only [Act.put, List.getElem_toArray, List.getElem_cons_zero, List.getElem_cons_succ, List.setIfInBounds_toArray, List.set_cons_zero, List.set_cons_succ])
            have Y4 : Hid (w.heap.size + 1 < (x3.alloc (.cells (c3 (.slice none 0 0) (.slice none 0 0) (.slice none 0 0)) 30)).heap.size) := Nat.lt_trans Z4.out D4.out
            have M4 : Hid (hi ≤ (x3.alloc (.cells (c3 (.slice none 0 0) (.slice none 0 0) (.slice none 0 0)) 30)).heap.size) := Nat.le_trans L4.out (Nat.le_of_lt D4.out)
            generalize x3.heap.size = g4 at *
            generalize x3.alloc (.cells (c3 (.slice none 0 0) (.slice none 0 0) (.slice none 0 0)) 30) = x4 at *
            have z0 := C4.out.c0
            have z1 := C4.out.c1
            have z2 := C4.out.c2
            have f0 := Row.frozen C4.out 0
            have f1 := Row.frozen C4.out 1
            have f2 := Row.frozen C4.out 2
            have hgw : w.heap.size + 1 < g4 := by have := Z4.out; omega
            have v1 := Lib.hid (C4.out.set3 (.slice pa h.f.length qa) (.slice pb h.l.length qb) (.slice pc h.r.length qc))
            have v2 := Lib.hid (O4.out.set3 C4.out (.slice pa h.f.length qa) (.slice pb h.l.length qb) (.slice pc h.r.length qc))
            have v3 : Hid (RowH _ _ _ _ _) := Row.other (Row.other (Row.other R4.out ⟨g4, 0, none⟩ (by simp; omega) (.slice pa h.f.length qa)) ⟨g4, 1, none⟩ (by simp; omega) (.slice pb h.l.length qb)) ⟨g4, 2, none⟩ (by simp; omega) (.slice pc h.r.length qc)
            have v4 := Lib.hid (below_set3 (g := g4) B4.out (by omega) (.slice pa h.f.length qa) (.slice pb h.l.length qb) (.slice pc h.r.length qc))
            have hne : w.heap.size ≠ g4 := by omega
            clear hHeld
            refine wpAnyH_ready (rs := [9]) (by kernel_rfl) (by simp) ?_
            refine AllReadyH.cons rfl (fun K hK => ?_) AllReadyH.nil
            go_simp
            refine hK.out _ _ ⟨cell_set3 hne P4.out.c0 (.slice pa h.f.length qa) (.slice pb h.l.length qb) (.slice pc h.r.length qc), cell_set3 hne P4.out.c1 (.slice pa h.f.length qa) (.slice pb h.l.length qb) (.slice pc h.r.length qc), cell_set3 hne P4.out.c2 (.slice pa h.f.length qa) (.slice pb h.l.length qb) (.slice pc h.r.length qc)⟩ (fun hHeld => ?_)
            clear hK K z0 z1 z2 f0 f1 f2
            (try simp only [Act.put, List.getElem_toArray, List.getElem_cons_zero, List.getElem_cons_succ, List.setIfInBounds_toArray, List.set_cons_zero, List.set_cons_succ])
            refine wpAnyH_take (i := 10) (v := ?va10x6) rfl (by kernel_rfl) (by kernel_rfl) (by kernel_rfl) (fun _ _ _ h => h) (Or.inl ⟨by rfl, ?hy10x6⟩) (by assumption) ?rest10x6
            case hy10x6 => (intro w hSw; (try dsimp only at hSw); go_simp; try with_reducible rfl)
            (try simp only [Act.put, List.getElem_toArray, List.getElem_cons_zero, List.getElem_cons_succ, List.setIfInBounds_toArray, List.set_cons_zero, List.set_cons_succ])
            refine wpAnyH_done (by kernel_rfl) ?_ _
            go_wp2_with fail
            go_meet
            case rel => exact ⟨g4, lo, hi, pa, pb, pc, qa, qb, qc, rfl, rfl, v1, v3, v2, W1, (by unfold Hid; simp only [World.size_setCell]; exact M4.out), v4⟩
          · skip
            clear hHeld
            have hbn := below1 x2 (.cells (c3 (.slice none 0 0) (.slice none 0 0) (.slice none 0 0)) 30)
            have A5 := Lib.hid (A2.out.below hbn)
            have P5 := Lib.hid (P2.out.below hbn); have R5 := Lib.hid (R2.out.below hbn); have B5 := Lib.hid (bst B2.out hbn B2.out.size)
            have C5 := Lib.hid (show RowH (x2.alloc (.cells (c3 (.slice none 0 0) (.slice none 0 0) (.slice none 0 0)) 30)) x2.heap.size (.slice none 0 0) (.slice none 0 0) (.slice none 0 0) from Row.new x2 _ _)
            have D5 : Hid (x2.heap.size < (x2.alloc (.cells (c3 (.slice none 0 0) (.slice none 0 0) (.slice none 0 0)) 30)).heap.size) := by unfold Hid; simp
            have Z5 : Hid (w.heap.size + 1 < x2.heap.size) := Y2
            have O5 := Lib.hid (O2.out.below hbn)
            have L5 : Hid (hi ≤ x2.heap.size) := N2
            have K5 := Lib.hid (OwnBs.below K2.out hbn)
            go_simp
            refine hK.out _ _ ⟨P5.out.c0, P5.out.c1, P5.out.c2⟩ (fun hHeld => ?_)
            clear hK K hbn
            (try simp only [Act.put, List.getElem_toArray, List.getElem_cons_zero, List.getElem_cons_succ, List.setIfInBounds_toArray, List.set_cons_zero, List.set_cons_succ])
            have Y5 : Hid (w.heap.size + 1 < (x2.alloc (.cells (c3 (.slice none 0 0) (.slice none 0 0) (.slice none 0 0)) 30)).heap.size) := Nat.lt_trans Z5.out D5.out
            have M5 : Hid (hi ≤ (x2.alloc (.cells (c3 (.slice none 0 0) (.slice none 0 0) (.slice none 0 0)) 30)).heap.size) := Nat.le_trans L5.out (Nat.le_of_lt D5.out)
            generalize x2.heap.size = g5 at *
            generalize x2.alloc (.cells (c3 (.slice none 0 0) (.slice none 0 0) (.slice none 0 0)) 30) = x5 at *
            refine wpAnyH_ready (rs := [4]) (by kernel_rfl) (by simp) ?_
            refine AllReadyH.cons rfl (fun K hK => ?_) AllReadyH.nil
            clear hHeld
            go_simp
            refine (s_l5Keep _ _ _ _ h (reachL h.f h.r) lo hi _ O5.out K5.out M5.out G.out.ll (reachL_length _ _) G.out.n).mono ?_
            rintro e x6 ⟨rfl, ho, hch⟩
            have P6 := Lib.hid (show RowH _ _ _ _ _ from Row.chg P5.out hch (.inl (by have := X1.out; omega))); have R6 := Lib.hid (show RowH _ _ _ _ _ from Row.chg R5.out hch (.inl X1.out)); have B6 := Lib.hid (below_chg B5.out hch W1.out B5.out.size)
            have C6 := Lib.hid (show RowH _ _ _ _ _ from Row.chg C5.out hch (.inr L5.out))
            have O6 := Lib.hid ho; have N6 : Hid (hi ≤ x6.heap.size) := Nat.le_trans M5.out hch.size; have Y6 : Hid (w.heap.size + 1 < x6.heap.size) := Nat.lt_of_lt_of_le Y5.out hch.size
            clear ho
            refine hK.out _ _ ⟨P6.out.c0, P6.out.c1, P6.out.c2⟩ (fun hHeld => ?_)
            clear hK K hch
            (try simp only [Act.put, List.getElem_toArray, List.getElem_cons_zero, List.getElem_cons_succ, List.setIfInBounds_toArray, List.set_cons_zero, List.set_cons_succ])
            have A6 : Hid True := trivial
            refine wpAnyH_take (i := 5) (v := ?va5x7) rfl (by kernel_rfl) (by kernel_rfl) (by kernel_rfl) (fun _ _ _ h => h) (Or.inl ⟨by rfl, ?hy5x7⟩) (by assumption) ?rest5x7
            case hy5x7 => (intro w hSw; (try dsimp only at hSw); go_simp; try with_reducible rfl)
            (try simp only [Act.put, List.getElem_toArray, List.getElem_cons_zero, List.getElem_cons_succ, List.setIfInBounds_toArray, List.set_cons_zero, List.set_cons_succ])
            refine wpAnyH_take (i := 6) (v := ?va6x8) rfl (by kernel_rfl) (by kernel_rfl) (by kernel_rfl) (fun _ _ _ h => h) (Or.inl ⟨by rfl, ?hy6x8⟩) (by assumption) ?rest6x8
            case hy6x8 => (intro w hSw; (try dsimp only at hSw); go_simp; try with_reducible rfl)
            (try simp only [Act.put, List.getElem_toArray, List.getElem_cons_zero, List.getElem_cons_succ, List.setIfInBounds_toArray, List.set_cons_zero, List.set_cons_succ])
            refine wpAnyH_take (i := 7) (v := ?va7x9) rfl (by kernel_rfl) (by kernel_rfl) (by kernel_rfl) (fun _ _ _ h => h) (Or.inl ⟨by rfl, ?hy7x9⟩) (by assumption) ?rest7x9
            case hy7x9 => (intro w hSw; (try dsimp only at hSw); go_simp; try with_reducible rfl)
            (try simp only [Act.put, List.getElem_toArray, List.getElem_cons_zero, List.getElem_cons_succ, List.setIfInBounds_toArray, List.set_cons_zero, List.set_cons_succ])
            have z0 := C6.out.c0
            have z1 := C6.out.c1
            have z2 := C6.out.c2
            have f0 := Row.frozen C6.out 0
            have f1 := Row.frozen C6.out 1
            have f2 := Row.frozen C6.out 2
            have hgw : w.heap.size + 1 < g5 := by have := Z5.out; omega
            have v1 := Lib.hid (C6.out.set3 (.slice pa h.f.length qa) (.slice pb h.l.length qb) (.slice pc h.r.length qc))
            have v2 := Lib.hid (O6.out.set3 C6.out (.slice pa h.f.length qa) (.slice pb h.l.length qb) (.slice pc h.r.length qc))
            have v3 : Hid (RowH _ _ _ _ _) := Row.other (Row.other (Row.other R6.out ⟨g5, 0, none⟩ (by simp; omega) (.slice pa h.f.length qa)) ⟨g5, 1, none⟩ (by simp; omega) (.slice pb h.l.length qb)) ⟨g5, 2, none⟩ (by simp; omega) (.slice pc h.r.length qc)
            have v4 := Lib.hid (below_set3 (g := g5) B6.out (by omega) (.slice pa h.f.length qa) (.slice pb h.l.length qb) (.slice pc h.r.length qc))
            have hne : w.heap.size ≠ g5 := by omega
            clear hHeld
            refine wpAnyH_ready (rs := [9]) (by kernel_rfl) (by simp) ?_
            refine AllReadyH.cons rfl (fun K hK => ?_) AllReadyH.nil
            go_simp
            refine hK.out _ _ ⟨cell_set3 hne P6.out.c0 (.slice pa h.f.length qa) (.slice pb h.l.length qb) (.slice pc h.r.length qc), cell_set3 hne P6.out.c1 (.slice pa h.f.length qa) (.slice pb h.l.length qb) (.slice pc h.r.length qc), cell_set3 hne P6.out.c2 (.slice pa h.f.length qa) (.slice pb h.l.length qb) (.slice pc h.r.length qc)⟩ (fun hHeld => ?_)
            clear hK K z0 z1 z2 f0 f1 f2
            (try simp only [Act.put, List.getElem_toArray, List.getElem_cons_zero, List.getElem_cons_succ, List.setIfInBounds_toArray, List.set_cons_zero, List.set_cons_succ])
            refine wpAnyH_take (i := 10) (v := ?va10x10) rfl (by kernel_rfl) (by kernel_rfl) (by kernel_rfl) (fun _ _ _ h => h) (Or.inl ⟨by rfl, ?hy10x10⟩) (by assumption) ?rest10x10
            case hy10x10 => (intro w hSw; (try dsimp only at hSw); go_simp; try with_reducible rfl)
            (try simp only [Act.put, List.getElem_toArray, List.getElem_cons_zero, List.getElem_cons_succ, List.setIfInBounds_toArray, List.set_cons_zero, List.set_cons_succ])
            refine wpAnyH_done (by kernel_rfl) ?_ _
            go_wp2_with fail
            go_meet
            case rel => exact ⟨g5, lo, hi, pa, pb, pc, qa, qb, qc, rfl, rfl, v1, v3, v2, W1, (by unfold Hid; simp only [World.size_setCell]; exact N6.out), v4⟩
        · skip
          clear hHeld
          have hbn := below1 x1 (.cells (c3 (.slice none 0 0) (.slice none 0 0) (.slice none 0 0)) 30)
          have A7 := Lib.hid (A1.out.below hbn)
          have P7 := Lib.hid (P1.out.below hbn); have R7 := Lib.hid (R1.out.below hbn); have B7 := Lib.hid (bst B1.out hbn B1.out.size)
          have C7 := Lib.hid (show RowH (x1.alloc (.cells (c3 (.slice none 0 0) (.slice none 0 0) (.slice none 0 0)) 30)) x1.heap.size (.slice none 0 0) (.slice none 0 0) (.slice none 0 0) from Row.new x1 _ _)
          have D7 : Hid (x1.heap.size < (x1.alloc (.cells (c3 (.slice none 0 0) (.slice none 0 0) (.slice none 0 0)) 30)).heap.size) := by unfold Hid; simp
          have Z7 : Hid (w.heap.size + 1 < x1.heap.size) := Y1
          have O7 := Lib.hid (O1.out.below hbn)
          have L7 : Hid (hi ≤ x1.heap.size) := N1
          go_simp
          refine hK.out _ _ ⟨P7.out.c0, P7.out.c1, P7.out.c2⟩ (fun hHeld => ?_)
          clear hK K hbn
          (try simp only [Act.put, List.getElem_toArray, List.getElem_cons_zero, List.getElem_cons_succ, List.setIfInBounds_toArray, List.set_cons_zero, List.set_cons_succ])
          have Y7 : Hid (w.heap.size + 1 < (x1.alloc (.cells (c3 (.slice none 0 0) (.slice none 0 0) (.slice none 0 0)) 30)).heap.size) := Nat.lt_trans Z7.out D7.out
          have M7 : Hid (hi ≤ (x1.alloc (.cells (c3 (.slice none 0 0) (.slice none 0 0) (.slice none 0 0)) 30)).heap.size) := Nat.le_trans L7.out (Nat.le_of_lt D7.out)
          generalize x1.heap.size = g7 at *
          generalize x1.alloc (.cells (c3 (.slice none 0 0) (.slice none 0 0) (.slice none 0 0)) 30) = x7 at *
          refine wpAnyH_ready (rs := [3]) (by kernel_rfl) (by simp) ?_
          refine AllReadyH.cons rfl (fun K hK => ?_) AllReadyH.nil
          clear hHeld
          go_simp
          refine (s_l5Reached a b c h _ A7.out G.out).mono ?_
          rintro e x8 ⟨kv, rfl, hok, hbn⟩
          obtain ⟨pk, qk, hpk⟩ := (owns_bools hok).shape
          subst hpk
          have A8 := Lib.hid (A7.out.below hbn)
          have P8 := Lib.hid (P7.out.below hbn); have R8 := Lib.hid (R7.out.below hbn); have B8 := Lib.hid (bst B7.out hbn B7.out.size)
          have C8 := Lib.hid (RowH.below C7.out hbn)
          have O8 := Lib.hid (O7.out.below hbn); have K8 := Lib.hid (show OwnBs x8 hi _ _ from owns_mono hok fun g hg => Nat.le_trans M7.out (owns_lt hok hg).1); have N8 : Hid (hi ≤ x8.heap.size) := Nat.le_trans M7.out hbn.size
          have Y8 : Hid (w.heap.size + 1 < x8.heap.size) := Nat.lt_of_lt_of_le Y7.out hbn.size
          clear hok
          refine hK.out _ _ ⟨P8.out.c0, P8.out.c1, P8.out.c2⟩ (fun hHeld => ?_)
          clear hK K hbn
          (try simp only [Act.put, List.getElem_toArray, List.getElem_cons_zero, List.getElem_cons_succ, List.setIfInBounds_toArray, List.set_cons_zero, List.set_cons_succ])
          refine wpAnyH_ready (rs := [4]) (by kernel_rfl) (by simp) ?_
          refine AllReadyH.cons rfl (fun K hK => ?_) AllReadyH.nil
          clear hHeld
          go_simp
          refine (s_l5Keep _ _ _ _ h (reachL h.f h.r) lo hi _ O8.out K8.out N8.out G.out.ll (reachL_length _ _) G.out.n).mono ?_
          rintro e x9 ⟨rfl, ho, hch⟩
          have P9 := Lib.hid (show RowH _ _ _ _ _ from Row.chg P8.out hch (.inl (by have := X1.out; omega))); have R9 := Lib.hid (show RowH _ _ _ _ _ from Row.chg R8.out hch (.inl X1.out)); have B9 := Lib.hid (below_chg B8.out hch W1.out B8.out.size)
          have C9 := Lib.hid (show RowH _ _ _ _ _ from Row.chg C8.out hch (.inr L7.out))
          have O9 := Lib.hid ho; have N9 : Hid (hi ≤ x9.heap.size) := Nat.le_trans N8.out hch.size; have Y9 : Hid (w.heap.size + 1 < x9.heap.size) := Nat.lt_of_lt_of_le Y8.out hch.size
          clear ho
          refine hK.out _ _ ⟨P9.out.c0, P9.out.c1, P9.out.c2⟩ (fun hHeld => ?_)
          clear hK K hch
          (try simp only [Act.put, List.getElem_toArray, List.getElem_cons_zero, List.getElem_cons_succ, List.setIfInBounds_toArray, List.set_cons_zero, List.set_cons_succ])
          have A9 : Hid True := trivial
          refine wpAnyH_take (i := 5) (v := ?va5x11) rfl (by kernel_rfl) (by kernel_rfl) (by kernel_rfl) (fun _ _ _ h => h) (Or.inl ⟨by rfl, ?hy5x11⟩) (by assumption) ?rest5x11
          case hy5x11 => (intro w hSw; (try dsimp only at hSw); go_simp; try with_reducible rfl)
          (try simp only [Act.put, List.getElem_toArray, List.getElem_cons_zero, List.getElem_cons_succ, List.setIfInBounds_toArray, List.set_cons_zero, List.set_cons_succ])
          refine wpAnyH_take (i := 6) (v := ?va6x12) rfl (by kernel_rfl) (by kernel_rfl) (by kernel_rfl) (fun _ _ _ h => h) (Or.inl ⟨by rfl, ?hy6x12⟩) (by assumption) ?rest6x12
          case hy6x12 => (intro w hSw; (try dsimp only at hSw); go_simp; try with_reducible rfl)
          (try simp only [Act.put, List.getElem_toArray, List.getElem_cons_zero, List.getElem_cons_succ, List.setIfInBounds_toArray, List.set_cons_zero, List.set_cons_succ])
          refine wpAnyH_take (i := 7) (v := ?va7x13) rfl (by kernel_rfl) (by kernel_rfl) (by kernel_rfl) (fun _ _ _ h => h) (Or.inl ⟨by rfl, ?hy7x13⟩) (by assumption) ?rest7x13
          case hy7x13 => (intro w hSw; (try dsimp only at hSw); go_simp; try with_reducible rfl)
          (try simp only [Act.put, List.getElem_toArray, List.getElem_cons_zero, List.getElem_cons_succ, List.setIfInBounds_toArray, List.set_cons_zero, List.set_cons_succ])
          have z0 := C9.out.c0
          have z1 := C9.out.c1
          have z2 := C9.out.c2
          have f0 := Row.frozen C9.out 0
          have f1 := Row.frozen C9.out 1
          have f2 := Row.frozen C9.out 2
          have hgw : w.heap.size + 1 < g7 := by have := Z7.out; omega
          have v1 := Lib.hid (C9.out.set3 (.slice pa h.f.length qa) (.slice pb h.l.length qb) (.slice pc h.r.length qc))
          have v2 := Lib.hid (O9.out.set3 C9.out (.slice pa h.f.length qa) (.slice pb h.l.length qb) (.slice pc h.r.length qc))
          have v3 : Hid (RowH _ _ _ _ _) := Row.other (Row.other (Row.other R9.out ⟨g7, 0, none⟩ (by simp; omega) (.slice pa h.f.length qa)) ⟨g7, 1, none⟩ (by simp; omega) (.slice pb h.l.length qb)) ⟨g7, 2, none⟩ (by simp; omega) (.slice pc h.r.length qc)
          have v4 := Lib.hid (below_set3 (g := g7) B9.out (by omega) (.slice pa h.f.length qa) (.slice pb h.l.length qb) (.slice pc h.r.length qc))
          have hne : w.heap.size ≠ g7 := by omega
          clear hHeld
          refine wpAnyH_ready (rs := [9]) (by kernel_rfl) (by simp) ?_
          refine AllReadyH.cons rfl (fun K hK => ?_) AllReadyH.nil
          go_simp
          refine hK.out _ _ ⟨cell_set3 hne P9.out.c0 (.slice pa h.f.length qa) (.slice pb h.l.length qb) (.slice pc h.r.length qc), cell_set3 hne P9.out.c1 (.slice pa h.f.length qa) (.slice pb h.l.length qb) (.slice pc h.r.length qc), cell_set3 hne P9.out.c2 (.slice pa h.f.length qa) (.slice pb h.l.length qb) (.slice pc h.r.length qc)⟩ (fun hHeld => ?_)
          clear hK K z0 z1 z2 f0 f1 f2
          (try simp only [Act.put, List.getElem_toArray, List.getElem_cons_zero, List.getElem_cons_succ, List.setIfInBounds_toArray, List.set_cons_zero, List.set_cons_succ])
          refine wpAnyH_take (i := 10) (v := ?va10x14) rfl (by kernel_rfl) (by kernel_rfl) (by kernel_rfl) (fun _ _ _ h => h) (Or.inl ⟨by rfl, ?hy10x14⟩) (by assumption) ?rest10x14
          case hy10x14 => (intro w hSw; (try dsimp only at hSw); go_simp; try with_reducible rfl)
          (try simp only [Act.put, List.getElem_toArray, List.getElem_cons_zero, List.getElem_cons_succ, List.setIfInBounds_toArray, List.set_cons_zero, List.set_cons_succ])
          refine wpAnyH_done (by kernel_rfl) ?_ _
          go_wp2_with fail
          go_meet
          case rel => exact ⟨g7, lo, hi, pa, pb, pc, qa, qb, qc, rfl, rfl, v1, v3, v2, W1, (by unfold Hid; simp only [World.size_setCell]; exact N9.out), v4⟩
      · skip
        clear hHeld
        have hbn := below1 x0 (.cells (c3 (.slice none 0 0) (.slice none 0 0) (.slice none 0 0)) 30)
        have A10 := Lib.hid (AD.out.below hbn)
        have P10 := Lib.hid (PD.out.below hbn); have R10 := Lib.hid (RD.out.below hbn); have B10 := Lib.hid (bst BD.out hbn BD.out.size)
        have C10 := Lib.hid (show RowH (x0.alloc (.cells (c3 (.slice none 0 0) (.slice none 0 0) (.slice none 0 0)) 30)) x0.heap.size (.slice none 0 0) (.slice none 0 0) (.slice none 0 0) from Row.new x0 _ _)
        have D10 : Hid (x0.heap.size < (x0.alloc (.cells (c3 (.slice none 0 0) (.slice none 0 0) (.slice none 0 0)) 30)).heap.size) := by unfold Hid; simp
        have Z10 : Hid (w.heap.size + 1 < x0.heap.size) := HSZ
        go_simp
        refine hK.out _ _ ⟨P10.out.c0, P10.out.c1, P10.out.c2⟩ (fun hHeld => ?_)
        clear hK K hbn
        (try simp only [Act.put, List.getElem_toArray, List.getElem_cons_zero, List.getElem_cons_succ, List.setIfInBounds_toArray, List.set_cons_zero, List.set_cons_succ])
        have Y10 : Hid (w.heap.size + 1 < (x0.alloc (.cells (c3 (.slice none 0 0) (.slice none 0 0) (.slice none 0 0)) 30)).heap.size) := Nat.lt_trans Z10.out D10.out
        generalize x0.heap.size = g10 at *
        generalize x0.alloc (.cells (c3 (.slice none 0 0) (.slice none 0 0) (.slice none 0 0)) 30) = x10 at *
        refine wpAnyH_ready (rs := [1]) (by kernel_rfl) (by simp) ?_
        refine AllReadyH.cons rfl (fun K hK => ?_) AllReadyH.nil
        clear hHeld
        go_simp
        refine (s_l5Own a b c h _ A10.out G.out).mono ?_
        rintro e x11 ⟨a', b', c', rfl, ho, hbn⟩
        obtain ⟨⟨pa, qa, rfl⟩, ⟨pb, qb, rfl⟩, ⟨pc, qc, rfl⟩⟩ := ho.shapes
        have A11 := Lib.hid (A10.out.below hbn)
        have P11 := Lib.hid (P10.out.below hbn); have R11 := Lib.hid (R10.out.below hbn); have B11 := Lib.hid (bst B10.out hbn B10.out.size)
        have C11 := Lib.hid (RowH.below C10.out hbn)
        have O11 := Lib.hid ho; have M11 : Hid (x11.heap.size ≤ x11.heap.size) := Nat.le_refl _
        have W11 : Hid (w.heap.size ≤ x10.heap.size) := by unfold Hid; have := Y10.out; omega
        have Y11 : Hid (w.heap.size + 1 < x11.heap.size) := Nat.lt_of_lt_of_le Y10.out hbn.size
        have D11 : Hid (g10 < x10.heap.size) := D10.out
        have X11 : Hid (w.heap.size + 1 < x10.heap.size) := Y10
        clear ho
        refine hK.out _ _ ⟨P11.out.c0, P11.out.c1, P11.out.c2⟩ (fun hHeld => ?_)
        clear hK K hbn
        (try simp only [Act.put, List.getElem_toArray, List.getElem_cons_zero, List.getElem_cons_succ, List.setIfInBounds_toArray, List.set_cons_zero, List.set_cons_succ])
        generalize hlo11 : x10.heap.size = lo at *
        clear hlo11
        obtain ⟨hi, hhi⟩ : ∃ n, n = x11.heap.size := ⟨_, rfl⟩
        rw [← hhi] at O11
        have N11 : Hid (hi ≤ x11.heap.size) := Nat.le_of_eq hhi
        have V11 : Hid (x11.heap.size ≤ hi) := Nat.le_of_eq hhi.symm
        clear hhi
        refine wpAnyH_ready (rs := [3]) (by kernel_rfl) (by simp) ?_
        refine AllReadyH.cons rfl (fun K hK => ?_) AllReadyH.nil
        clear hHeld
        go_simp
        refine (s_l5Reached a b c h _ A11.out G.out).mono ?_
        rintro e x12 ⟨kv, rfl, hok, hbn⟩
        obtain ⟨pk, qk, hpk⟩ := (owns_bools hok).shape
        subst hpk
        have A12 := Lib.hid (A11.out.below hbn)
        have P12 := Lib.hid (P11.out.below hbn); have R12 := Lib.hid (R11.out.below hbn); have B12 := Lib.hid (bst B11.out hbn B11.out.size)
        have C12 := Lib.hid (RowH.below C11.out hbn)
        have O12 := Lib.hid (O11.out.below hbn); have K12 := Lib.hid (show OwnBs x12 hi _ _ from owns_mono hok fun g hg => Nat.le_trans N11.out (owns_lt hok hg).1); have N12 : Hid (hi ≤ x12.heap.size) := Nat.le_trans N11.out hbn.size
        have Y12 : Hid (w.heap.size + 1 < x12.heap.size) := Nat.lt_of_lt_of_le Y11.out hbn.size
        clear hok
        refine hK.out _ _ ⟨P12.out.c0, P12.out.c1, P12.out.c2⟩ (fun hHeld => ?_)
        clear hK K hbn
        (try simp only [Act.put, List.getElem_toArray, List.getElem_cons_zero, List.getElem_cons_succ, List.setIfInBounds_toArray, List.set_cons_zero, List.set_cons_succ])
        refine wpAnyH_ready (rs := [4]) (by kernel_rfl) (by simp) ?_
        refine AllReadyH.cons rfl (fun K hK => ?_) AllReadyH.nil
        clear hHeld
        go_simp
        refine (s_l5Keep _ _ _ _ h (reachL h.f h.r) lo hi _ O12.out K12.out N12.out G.out.ll (reachL_length _ _) G.out.n).mono ?_
        rintro e x13 ⟨rfl, ho, hch⟩
        have P13 := Lib.hid (show RowH _ _ _ _ _ from Row.chg P12.out hch (.inl (by have := X11.out; omega))); have R13 := Lib.hid (show RowH _ _ _ _ _ from Row.chg R12.out hch (.inl X11.out)); have B13 := Lib.hid (below_chg B12.out hch W11.out B12.out.size)
        have C13 := Lib.hid (show RowH _ _ _ _ _ from Row.chg C12.out hch (.inl D11.out))
        have O13 := Lib.hid ho; have N13 : Hid (hi ≤ x13.heap.size) := Nat.le_trans N12.out hch.size; have Y13 : Hid (w.heap.size + 1 < x13.heap.size) := Nat.lt_of_lt_of_le Y12.out hch.size
        clear ho
        refine hK.out _ _ ⟨P13.out.c0, P13.out.c1, P13.out.c2⟩ (fun hHeld => ?_)
        clear hK K hch
        (try simp only [Act.put, List.getElem_toArray, List.getElem_cons_zero, List.getElem_cons_succ, List.setIfInBounds_toArray, List.set_cons_zero, List.set_cons_succ])
        have A13 : Hid True := trivial
        refine wpAnyH_take (i := 5) (v := ?va5x15) rfl (by kernel_rfl) (by kernel_rfl) (by kernel_rfl) (fun _ _ _ h => h) (Or.inl ⟨by rfl, ?hy5x15⟩) (by assumption) ?rest5x15
        case hy5x15 => (intro w hSw; (try dsimp only at hSw); go_simp; try with_reducible rfl)
        (try simp only [Act.put, List.getElem_toArray, List.getElem_cons_zero, List.getElem_cons_succ, List.setIfInBounds_toArray, List.set_cons_zero, List.set_cons_succ])
        refine wpAnyH_take (i := 6) (v := ?va6x16) rfl (by kernel_rfl) (by kernel_rfl) (by kernel_rfl) (fun _ _ _ h => h) (Or.inl ⟨by rfl, ?hy6x16⟩) (by assumption) ?rest6x16
        case hy6x16 => (intro w hSw; (try dsimp only at hSw); go_simp; try with_reducible rfl)
        (try simp only [Act.put, List.getElem_toArray, List.getElem_cons_zero, List.getElem_cons_succ, List.setIfInBounds_toArray, List.set_cons_zero, List.set_cons_succ])
        refine wpAnyH_take (i := 7) (v := ?va7x17) rfl (by kernel_rfl) (by kernel_rfl) (by kernel_rfl) (fun _ _ _ h => h) (Or.inl ⟨by rfl, ?hy7x17⟩) (by assumption) ?rest7x17
        case hy7x17 => (intro w hSw; (try dsimp only at hSw); go_simp; try with_reducible rfl)
        (try simp only [Act.put, List.getElem_toArray, List.getElem_cons_zero, List.getElem_cons_succ, List.setIfInBounds_toArray, List.set_cons_zero, List.set_cons_succ])
        have z0 := C13.out.c0
        have z1 := C13.out.c1
        have z2 := C13.out.c2
        have f0 := Row.frozen C13.out 0
        have f1 := Row.frozen C13.out 1
        have f2 := Row.frozen C13.out 2
        have hgw : w.heap.size + 1 < g10 := by have := Z10.out; omega
        have v1 := Lib.hid (C13.out.set3 (.slice pa h.f.length qa) (.slice pb h.l.length qb) (.slice pc h.r.length qc))
        have v2 := Lib.hid (O13.out.set3 C13.out (.slice pa h.f.length qa) (.slice pb h.l.length qb) (.slice pc h.r.length qc))
        have v3 : Hid (RowH _ _ _ _ _) := Row.other (Row.other (Row.other R13.out ⟨g10, 0, none⟩ (by simp; omega) (.slice pa h.f.length qa)) ⟨g10, 1, none⟩ (by simp; omega) (.slice pb h.l.length qb)) ⟨g10, 2, none⟩ (by simp; omega) (.slice pc h.r.length qc)
        have v4 := Lib.hid (below_set3 (g := g10) B13.out (by omega) (.slice pa h.f.length qa) (.slice pb h.l.length qb) (.slice pc h.r.length qc))
        have hne : w.heap.size ≠ g10 := by omega
        clear hHeld
        refine wpAnyH_ready (rs := [9]) (by kernel_rfl) (by simp) ?_
        refine AllReadyH.cons rfl (fun K hK => ?_) AllReadyH.nil
        go_simp
        refine hK.out _ _ ⟨cell_set3 hne P13.out.c0 (.slice pa h.f.length qa) (.slice pb h.l.length qb) (.slice pc h.r.length qc), cell_set3 hne P13.out.c1 (.slice pa h.f.length qa) (.slice pb h.l.length qb) (.slice pc h.r.length qc), cell_set3 hne P13.out.c2 (.slice pa h.f.length qa) (.slice pb h.l.length qb) (.slice pc h.r.length qc)⟩ (fun hHeld => ?_)
        clear hK K z0 z1 z2 f0 f1 f2
        (try simp only [Act.put, List.getElem_toArray, List.getElem_cons_zero, List.getElem_cons_succ, List.setIfInBounds_toArray, List.set_cons_zero, List.set_cons_succ])
        refine wpAnyH_take (i := 10) (v := ?va10x18) rfl (by kernel_rfl) (by kernel_rfl) (by kernel_rfl) (fun _ _ _ h => h) (Or.inl ⟨by rfl, ?hy10x18⟩) (by assumption) ?rest10x18
        case hy10x18 => (intro w hSw; (try dsimp only at hSw); go_simp; try with_reducible rfl)
        (try simp only [Act.put, List.getElem_toArray, List.getElem_cons_zero, List.getElem_cons_succ, List.setIfInBounds_toArray, List.set_cons_zero, List.set_cons_succ])
        refine wpAnyH_done (by kernel_rfl) ?_ _
        go_wp2_with fail
        go_meet
        case rel => exact ⟨g10, lo, hi, pa, pb, pc, qa, qb, qc, rfl, rfl, v1, v3, v2, W11, (by unfold Hid; simp only [World.size_setCell]; exact N13.out), v4⟩
    case rest =>
      obtain ⟨gC, lo, hi, pa, pb, pc, qa, qb, qc, rfl, rfl, hv, hr, ho, hlo, hhi, hb⟩ := hcut
      generalize (keepTo h (reachL h.f h.r) h.f.length).1 = k1 at *
      generalize (keepTo h (reachL h.f h.r) h.f.length).2 = k2 at *
      generalize h.f.length = nf at *
      generalize h.l.length = nl at *
      generalize h.r.length = nr at *
      go_wp2_with (first
        | (refine wl_loadH rfl _ rfl gC _ _ _ hv.out rfl ?_)
        | (refine wl_storeH rfl _ _ rfl (w.heap.size + 1) (.slice pa nf qa) (.slice pb nl qb) (.slice pc nr qc) _ _ _ hr.out rfl rfl rfl rfl rfl ?_))
      refine bodyPost_ret (res_row_slot2 Try.results28 (Row.put hr.out (c3 (.slice pa nf qa) (.slice pb nl qb) (.slice pc nr qc))) rfl rfl rfl Try.underlying30 rfl info_heap) rfl (endHI_yes (below_setRow hb.out (by omega) _) (ho.out.wholeRow hr.out _) hlo.out (by rw [size_setRow]; exact hhi.out) HE1.out HE2.out rfl)
end Go.Proofs.Ytkkigoamphkalaa
namespace Go.Proofs.Ytkkigoamphkalaa.Ph
/-- Small: at most twelve objects of at most three fields, two roots. -/
structure Sh (h : H) : Prop where
  n : h.f.length ≤ 12
  ll : h.l.length = h.f.length
  row : ∀ i, (h.f.getD i []).length ≤ 3
  rr : h.r.length = 2
theorem Sh.newS {h : H} (k : Sh h) {m : Nat} (hm : m ≤ 3) : Sh (newS h m).1 ∧ 1 ≤ (newS h m).1.f.length := by
  have hle := place_le h.l
  have hll := k.ll
  unfold Ph.newS
  by_cases hp : placeOf h.l < h.l.length
  · rw [if_pos hp]
    unfold put1
    refine ⟨⟨by simp only [List.length_set]; exact k.n, by simp only [List.length_set]; exact k.ll, fun i => ?_, k.rr⟩, by simp only [List.length_set]; omega⟩
    simp only
    rw [getD_setL (by omega)]
    split
    · simp; omega
    · exact k.row i
  · rw [if_neg hp]
    by_cases h12 : h.f.length = 12
    · rw [if_pos h12]; exact ⟨k, by simp only; omega⟩
    · rw [if_neg h12]
      have := k.n
      refine ⟨⟨by simp; omega, by simp; omega, fun i => ?_, k.rr⟩, by simp⟩
      simp only
      by_cases hi : i < h.f.length
      · have := k.row i
        simpa [List.getD, List.getElem?_append_left hi] using this
      · by_cases hi2 : i = h.f.length
        · subst hi2; simp [List.getD]; omega
        · have : (h.f ++ [List.replicate m (-1 : Int)])[i]? = none := List.getElem?_eq_none (by simp; omega)
          simp [List.getD, this]
theorem Sh.setF {h : H} (k : Sh h) {t f z : Int} (hok : setFOk h t f z = true) : Sh (setF h t f z) ∧ (setF h t f z).f.length = h.f.length := by
  rw [setF_yes hok]
  refine ⟨⟨by simp only [List.length_set]; exact k.n, by simp only [List.length_set]; exact k.ll, fun i => ?_, k.rr⟩, by simp only [List.length_set]⟩
  simp only
  by_cases hi : t.toNat < h.f.length
  · rw [getD_setL hi]
    split
    · rw [List.length_set]; exact k.row _
    · exact k.row i
  · rw [List.set_eq_of_length_le (by omega)]; exact k.row i
theorem Sh.clean {h : H} (k : Sh h) (hok : good h = true) : Sh (cleanP h).1 ∧ (cleanP h).1.f.length = h.f.length := by
  rw [cleanP_yes hok]
  obtain ⟨e1, e2, e3, _⟩ := keepTo_len h (reachL h.f h.r) h.f.length
  have hr := keepTo_rows (h := h) (ks := reachL h.f h.r) (fun i _ => k.row i) h.f.length
  refine ⟨⟨by rw [e1]; exact k.n, by rw [e1, e2]; exact k.ll, fun i => ?_, by rw [e3]; exact k.rr⟩, e1⟩
  by_cases hi : i < h.f.length
  · exact hr i hi
  · have : (keepTo h (reachL h.f h.r) h.f.length).1.f[i]? = none := List.getElem?_eq_none (by omega)
    simp [List.getD, this]
theorem Sh.roots {h : H} (k : Sh h) (j : Nat) (x : Int) : Sh ⟨h.f, h.l, h.r.set j x⟩ := ⟨k.n, k.ll, k.row, by simp only [List.length_set]; exact k.rr⟩
theorem Sh.live {h : H} (k : Sh h) (j : Nat) (x : Bool) : Sh ⟨h.f, h.l.set j x, h.r⟩ := ⟨k.n, by simp only [List.length_set]; exact k.ll, k.row, k.rr⟩
end Go.Proofs.Ytkkigoamphkalaa.Ph
namespace Go.Proofs.Ytkkigoamphkalaa
open Go.RowKit Ph

/-- A draw under way: since w only the reader's block changed, of those that there were. -/
def Dv (w : World) (c m : Nat) (X : World) : Prop := CurIs X c m ∧ w.grownBy X (some c) ∧ c < w.heap.size
theorem Dv.start {w : World} {c m : Nat} (h : CurIs w c m) : Dv w c m w := ⟨h, World.grownBy.refl _ _, h.lt⟩
theorem Dv.step {w X Y : World} {c m m' : Nat} (h : Dv w c m X) (hc : CurIs Y c m') (hg : X.grownBy Y (some c)) : Dv w c m' Y := ⟨hc, grownBy_trans h.2.1 hg, h.2.2⟩
theorem Dv.mono {w X : World} {c m m' : Nat} (h : Dv w c m X) (hm : m ≤ m') : Dv w c m' X := ⟨h.1.mono hm, h.2⟩
theorem Dv.low {w X Y : World} {c m : Nat} (h : Dv w c m X) (hb : Below w.heap.size X Y) : Dv w c m Y :=
  ⟨h.1.kept (fun k hk => hb.block k (by have := h.2.2; omega)), ⟨hb.os.trans h.2.1.os, hb.tape.trans h.2.1.tape, hb.output.trans h.2.1.output, Nat.le_trans h.2.1.size hb.size, fun i hi hn => (hb.block i hi).trans (h.2.1.block i hi hn)⟩, h.2.2⟩
theorem Dv.size {w X : World} {c m : Nat} (h : Dv w c m X) : w.heap.size ≤ X.heap.size := h.2.1.size
abbrev zrow (X : World) (g : Nat) : Prop := RowH X g (.slice none 0 0) (.slice none 0 0) (.slice none 0 0)
structure Hd (w : World) (c m : Nat) (X : World) (gR gH : Nat) (a b cc : Value) (h : H) : Prop where
  dv : Dv w c m X
  own : OwnH X w.heap.size X.heap.size a b cc h
  v : RowH X gH a b cc
  r : zrow X gR
section
variable {w X Y : World} {c m m' gR gH : Nat} {a b cc : Value} {h : H}
theorem chgC {X Y : World} {c : Nat} (hg : X.grownBy Y (some c)) : Chg c (c + 1) X Y := Chg.of_grown hg (fun g e => by cases e; omega)
theorem Hd.cur (k : Hd w c m X gR gH a b cc h) (hR : w.heap.size ≤ gR) (hH : w.heap.size ≤ gH) (hc : CurIs Y c m') (hg : X.grownBy Y (some c)) : Hd w c m' Y gR gH a b cc h :=
  have hl := k.dv.2.2
  ⟨k.dv.step hc hg, (k.own.chg (chgC hg) (.inr (by omega))).wide (Nat.le_refl _) hg.size, Row.chg k.v (chgC hg) (.inr (by omega)), Row.chg k.r (chgC hg) (.inr (by omega))⟩
theorem Hd.below (k : Hd w c m X gR gH a b cc h) (hb : Below X.heap.size X Y) : Hd w c m Y gR gH a b cc h :=
  ⟨k.dv.low (hb.mono k.dv.size), (k.own.below hb).wide (Nat.le_refl _) hb.size, k.v.below hb, k.r.below hb⟩
theorem Hd.mono (k : Hd w c m X gR gH a b cc h) (hm : m ≤ m') : Hd w c m' X gR gH a b cc h := ⟨k.dv.mono hm, k.own, k.v, k.r⟩
/-- Another heap is put into the variable. -/
theorem Hd.put {a' b' c' : Value} {h' : H} (k : Hd w c m X gR gH a b cc h) (hH : w.heap.size ≤ gH) (hn : gR ≠ gH) (ho : OwnH X w.heap.size X.heap.size a' b' c' h') : Hd w c m (X.setRow gH (c3 a' b' c')) gR gH a' b' c' h' :=
  ⟨k.dv.low (below_setRow (Below.refl _ _) hH _), (ho.wholeRow k.v _).wide (Nat.le_refl _) (by rw [size_setRow]; exact Nat.le_refl _), Row.put k.v _, Row.putOther k.r _ hn⟩
/-- A variable beside is stored. -/
theorem Hd.side {gz : Nat} {z : Array Value} (k : Hd w c m X gR gH a b cc h) (hz : Row X gz 30 z) (hW : w.heap.size ≤ gz) (h1 : gR ≠ gz) (h2 : gH ≠ gz) (ds : Array Value) : Hd w c m (X.setRow gz ds) gR gH a b cc h :=
  ⟨k.dv.low (below_setRow (Below.refl _ _) hW _), (k.own.wholeRow hz _).wide (Nat.le_refl _) (by rw [size_setRow]; exact Nat.le_refl _), Row.putOther k.v _ h2, Row.putOther k.r _ h1⟩
/-- A root is stored. -/
theorem OwnH.putRoot {lo hi : Nat} (k : OwnH X lo hi a b cc h) {j : Nat} (hj : j < h.r.length) (x : Int) : ∃ gc qc, cc = .slice (some ⟨gc, 0, none⟩) h.r.length qc ∧ X.cell? ⟨gc, j, none⟩ = some (.int .i64 (h.r.getD j 0)) ∧ X.frozen? ⟨gc, j, none⟩ = false ∧ OwnH (X.setCell ⟨gc, j, none⟩ (.int .i64 x)) lo hi a b cc ⟨h.f, h.l, h.r.set j x⟩ ∧ lo ≤ gc ∧ ∀ g cs, Row X g 30 cs → gc ≠ g := by
  obtain ⟨us, hf⟩ := k
  have hr := hf.roots
  rcases hr.shape' with ⟨_, h0⟩ | ⟨gc, qc, rfl⟩
  · rw [h0] at hj; simp at hj
  obtain ⟨s1, s2, s3, s4⟩ := hr.store1 rfl hj x
  exact ⟨gc, qc, rfl, s3, s4, ⟨us, hf.setRoots s2 s1⟩, (owns_lt hr rfl).1, fun g cs h => owns_ne_row hr h (by decide) rfl⟩
theorem OwnH.putLive {lo hi : Nat} (k : OwnH X lo hi a b cc h) {j : Nat} (hj : j < h.l.length) (x : Bool) : ∃ gc qc, b = .slice (some ⟨gc, 0, none⟩) h.l.length qc ∧ X.cell? ⟨gc, j, none⟩ = some (.bool (h.l.getD j false)) ∧ X.frozen? ⟨gc, j, none⟩ = false ∧ OwnH (X.setCell ⟨gc, j, none⟩ (.bool x)) lo hi a b cc ⟨h.f, h.l.set j x, h.r⟩ ∧ lo ≤ gc ∧ ∀ g cs, Row X g 30 cs → gc ≠ g := by
  obtain ⟨us, hf⟩ := k
  have hr := hf.live
  rcases hr.shape with ⟨_, h0⟩ | ⟨gc, qc, rfl⟩
  · rw [h0] at hj; simp at hj
  obtain ⟨s1, s2, s3, s4⟩ := hr.stored rfl hj x
  exact ⟨gc, qc, rfl, s3, s4, ⟨us, hf.setLive s2 s1⟩, (owns_lt hr rfl).1, fun g cs h => owns_ne_row hr h (by decide) rfl⟩
/-- A cell of one of the heap's lists is stored. -/
theorem Hd.cell {g j : Nat} {x : Value} {h' : H} (k : Hd w c m X gR gH a b cc h) (hg : w.heap.size ≤ g) (h1 : g ≠ gR) (h2 : g ≠ gH) (ho : OwnH (X.setCell ⟨g, j, none⟩ x) w.heap.size X.heap.size a b cc h') : Hd w c m (X.setCell ⟨g, j, none⟩ x) gR gH a b cc h' :=
  ⟨k.dv.low ((Below.refl _ _).setCell (p := ⟨g, j, none⟩) hg x), ho.wide (Nat.le_refl _) (by rw [World.size_setCell]; exact Nat.le_refl _), Row.other k.v ⟨g, j, none⟩ (Ne.symm h2) x, Row.other k.r ⟨g, j, none⟩ (Ne.symm h1) x⟩
end
end Go.Proofs.Ytkkigoamphkalaa
namespace Go.Proofs.Ytkkigoamphkalaa
open Go.RowKit Ph

theorem own_ints2 (w : World) (B : Nat) (hB : B ≤ w.heap.size) : Own (w.alloc (.cells #[.int .i64 (-1), .int .i64 (-1)] 3)) B (.slice (some ⟨w.heap.size, 0, none⟩) 2 2) [-1, -1] :=
  ⟨rfl, .inr ⟨w.heap.size, 2, _, rfl, hB, heap_alloc_new _ _, Nat.le_refl _, by decide, rfl, rfl⟩⟩
theorem own_ints3 (w : World) (B : Nat) (hB : B ≤ w.heap.size) : Own (w.alloc (.cells #[.int .i64 (-2), .int .i64 11, .int .i64 12] 3)) B (.slice (some ⟨w.heap.size, 0, none⟩) 3 3) [-2, 11, 12] :=
  ⟨rfl, .inr ⟨w.heap.size, 3, _, rfl, hB, heap_alloc_new _ _, Nat.le_refl _, by decide, rfl, rfl⟩⟩
theorem hd_start {w : World} {c n : Nat} (hc : CurIs w c n) : Hd w c n (((w.alloc (.cells (c3 (.slice none 0 0) (.slice none 0 0) (.slice none 0 0)) 30)).alloc (.cells #[.int .i64 (-1), .int .i64 (-1)] 3)).alloc (.cells (c3 (.slice none 0 0) (.slice none 0 0) (.slice (some ⟨w.heap.size + 1, 0, none⟩) 2 2)) 30)) w.heap.size (w.heap.size + 1 + 1) (.slice none 0 0) (.slice none 0 0) (.slice (some ⟨w.heap.size + 1, 0, none⟩) 2 2) ⟨[], [], [-1, -1]⟩ := by
  have b1 := below1 w (.cells (c3 (.slice none 0 0) (.slice none 0 0) (.slice none 0 0)) 30)
  have b2 := b1.alloc (o := (.cells #[.int .i64 (-1), .int .i64 (-1)] 3)) b1.size
  have b3 := b2.alloc (o := (.cells (c3 (.slice none 0 0) (.slice none 0 0) (.slice (some ⟨w.heap.size + 1, 0, none⟩) 2 2)) 30)) b2.size
  have hs : (w.alloc (.cells (c3 (.slice none 0 0) (.slice none 0 0) (.slice none 0 0)) 30)).heap.size = w.heap.size + 1 := World.size_alloc _ _
  have ho := (own_ints2 (w.alloc (.cells (c3 (.slice none 0 0) (.slice none 0 0) (.slice none 0 0)) 30)) w.heap.size b1.size).below (below1 _ (.cells (c3 (.slice none 0 0) (.slice none 0 0) (.slice (some ⟨w.heap.size + 1, 0, none⟩) 2 2)) 30))
  rw [hs] at ho
  exact ⟨(Dv.start hc).low b3, OwnH.ofInts ho b3, Row.new2 w (.cells (c3 (.slice none 0 0) (.slice none 0 0) (.slice none 0 0)) 30) (.cells #[.int .i64 (-1), .int .i64 (-1)] 3) 30 _, ((Row.new w 30 (c3 (.slice none 0 0) (.slice none 0 0) (.slice none 0 0))).alloc _).alloc _⟩
theorem hd_put {w X : World} {c m gR gH : Nat} {a b cc a' b' c' : Value} {h' : H} (hd : Dv w c m X) (hv : RowH X gH a b cc) (hr : zrow X gR) (hH : w.heap.size ≤ gH) (hn : gR ≠ gH) (ho : OwnH X w.heap.size X.heap.size a' b' c' h') : Hd w c m (X.setRow gH (c3 a' b' c')) gR gH a' b' c' h' :=
  ⟨hd.low (below_setRow (Below.refl _ _) hH _), (ho.wholeRow hv _).wide (Nat.le_refl _) (by rw [size_setRow]; exact Nat.le_refl _), Row.put hv _, Row.putOther hr _ hn⟩
theorem sh_start : Sh ⟨[], [], [-1, -1]⟩ := ⟨by decide, rfl, fun i => by simp, rfl⟩
end Go.Proofs.Ytkkigoamphkalaa
