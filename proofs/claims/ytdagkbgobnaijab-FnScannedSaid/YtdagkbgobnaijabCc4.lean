/- The project's ScanThing. -/
import Derived.Test.YtdagkbgobnaijabCc3
namespace Go.Proofs.Ytdagkbgobnaijab
open Go.RowKit Ph

theorem info_marker : (Try.prog.info? 95).map (·.size) = some 5 := by kernel_rfl
theorem chgRow (w : World) (g : Nat) (cs : Array Value) : Chg g (g + 1) w (w.setRow g cs) :=
  have bb := below_setRow (Below.refl g w) (Nat.le_refl _) cs
  ⟨bb.os, bb.tape, bb.output, bb.size, fun i _ hx => setRow_other w g i cs (by omega)⟩
theorem Own.chg {w w' : World} {B lo hi : Nat} {v : Value} {zs : List Int} (h : Own w B v zs) (hc : Chg lo hi w w') (hn : ∀ g, v.ownBlock = some g → g < lo ∨ hi ≤ g) : Own w' B v zs := owns_block h fun g hg => hc.block g (owns_lt h hg).2 (hn g hg)
theorem scanR_no {h : H} {cs : List Int} {k : Int} (q : scanOk h cs k = false) : scanR h cs k = [] := by unfold scanR; rw [q]; rfl
theorem scanR_yes {h : H} {cs : List Int} {k : Int} (q : scanOk h cs k = true) : scanR h cs k = scan cs (h.f.getD k.toNat []) k.toNat := by unfold scanR; rw [q]; rfl
set_option maxRecDepth 100000 in
set_option maxHeartbeats 3200000 in
theorem c_ScanThing (a b c v : Value) (h : H) (cs : List Int) (k : Int) (w : World) (hA : HeapAt w a b c h) (hz : IntsAt w v cs) : Calls Try.prog 57 #[hv a b c, v, .int .i64 k] w (EndI (scanR h cs k) (scanOk h cs k) w) := by
  have hb0 := below1 w (.cells (c3 a b c) 27)
  have A0 := Lib.hid (hA.below hb0)
  have Z0 := Lib.hid (hz.below hb0)
  have HB := Lib.hid hb0
  have R0 := Lib.hid (show RowH _ _ a b c from Row.new w 27 (c3 a b c))
  have HF := Lib.hid hA.f
  clear hA hb0
  have HC := Lib.hid (c_areColoursOf a b c v h cs _ A0.out Z0.out)
  have HT : Hid (∀ w', IntsAt w' v cs → Calls Try.prog 115 #[v, .int .i64 k] w' fun e w'' => e = .returned (.bool (hasB cs k)) ∧ w' = w'') := fun w' hh => c_hasThing v cs k w' hh
  have HE1 := Lib.hid (scanR_no (h := h) (cs := cs) (k := k))
  have HE2 := Lib.hid (scanR_yes (h := h) (cs := cs) (k := k))
  have HO : Hid (scanOk h cs k = (bothB h cs && hasB cs k && decide (cs.getD k.toNat 0 = 1))) := rfl
  have HBB := Lib.hid (bothB_iff (h := h) (cs := cs)).1
  have HHB := Lib.hid (hasB_nat (cs := cs) (k := k))
  obtain ⟨va, vc, rfl⟩ := hz.shape
  clear hz
  generalize bothB h cs = x at *
  generalize hasB cs k = y at *
  generalize scanOk h cs k = ok at *
  have c0 := R0.out.c0
  have c1 := R0.out.c1
  have c2 := R0.out.c2
  cases x
  · have HE : Hid (ok = false) := by unfold Hid; rw [HO.out]; rfl
    have HR := Lib.hid (HE1.out HE.out)
    go_enter Try.func57, Try.ntmps57
    go_wp2_with (go_at_call 79; refine HC.out.mono ?_; rintro e w1 ⟨rfl, hb1⟩; have B1 := Lib.hid (bst HB.out hb1 HB.out.size); have Z1 := Lib.hid (Z0.out.below hb1); have R1 := Lib.hid (R0.out.below hb1); have d0 := R1.out.c0; have d1 := R1.out.c1; have d2 := R1.out.c2; clear hb1)
    go_ret2
    exact endI_no B1.out HR.out HE.out
  cases y
  · have HE : Hid (ok = false) := by unfold Hid; rw [HO.out]; rfl
    have HR := Lib.hid (HE1.out HE.out)
    go_enter Try.func57, Try.ntmps57
    go_wp2_with (first
      | (go_at_call 79; refine HC.out.mono ?_; rintro e w1 ⟨rfl, hb1⟩; have B1 := Lib.hid (bst HB.out hb1 HB.out.size); have Z1 := Lib.hid (Z0.out.below hb1); have R1 := Lib.hid (R0.out.below hb1); have d0 := R1.out.c0; have d1 := R1.out.c1; have d2 := R1.out.c2; clear hb1)
      | (go_at_call 115; refine (HT.out _ Z1.out).mono ?_; rintro e w2 ⟨rfl, rfl⟩))
    go_ret2
    exact endI_no B1.out HR.out HE.out
  obtain ⟨hG, hlen, hcol⟩ := HBB.out rfl
  obtain ⟨t, rfl, htn⟩ := HHB.out rfl
  rw [Int.toNat_natCast] at *
  have HZC : Hid (∀ w', IntsAt w' (.slice va cs.length vc) cs → ∃ vb vo, va = some ⟨vb, vo, none⟩ ∧ w'.cell? ⟨vb, vo + t, none⟩ = some (.int .i64 (cs.getD t 0))) := fun w' hh => by obtain ⟨vb, vo, e, q⟩ := hh.at' (by omega); exact ⟨vb, vo, e, q t htn⟩
  obtain ⟨vb, vo, rfl, _⟩ := HZC.out _ Z0.out
  replace HZC : Hid (∀ w', IntsAt w' (.slice (some ⟨vb, vo, none⟩) cs.length vc) cs → w'.cell? ⟨vb, vo + t, none⟩ = some (.int .i64 (cs.getD t 0))) := fun w' hh => by obtain ⟨vb', vo', e, q⟩ := HZC.out w' hh; cases e; exact q
  have HIN : Hid (∀ z ∈ h.f.getD t [], inR cs.length z) := fun z hz => by rw [hlen]; exact (hG.field hz).imp id (fun h => ⟨h.1, h.2.1⟩)
  have HRL : Hid ((h.f.getD t []).length ≤ 3) := (hG.row t (by omega)).1
  have HTF : Hid (t < h.f.length) := by unfold Hid; omega
  have HTN : Hid (t < cs.length) := htn
  have HCOL := Lib.hid hcol
  have hn12 : cs.length ≤ 12 := by rw [hlen]; exact hG.n
  clear hG hcol hlen HBB HHB
  generalize hn : cs.length = n at *
  have HN := Lib.hid hn; clear hn
  have i1 : (t : Int) < (n : Int) := by omega
  have i0 : (0 : Int) ≤ (t : Int) := by omega
  by_cases hx : cs.getD t 0 = 1
  · have HE : Hid (ok = true) := by unfold Hid; rw [HO.out, decide_eq_true hx]; rfl
    have HR := Lib.hid (HE2.out HE.out)
    have HX := Lib.hid hx
    rw [hx] at HZC
    clear hx
    obtain ⟨aa, ac, rfl⟩ := A0.out.f.shape
    obtain ⟨ba, bc, rfl⟩ := A0.out.l.shape
    obtain ⟨ca, cc, rfl⟩ := A0.out.r.shape
    generalize hna : h.f.length = na at *
    generalize h.l.length = nb at *
    generalize h.r.length = nc at *
    have HNA := Lib.hid hna; clear hna
    go_enter Try.func57, Try.ntmps57
    go_wp2_with (first
      | (go_at_call 79; refine HC.out.mono ?_; rintro e w1 ⟨rfl, hb1⟩; have B1 := Lib.hid (bst HB.out hb1 HB.out.size); have Z1 := Lib.hid (Z0.out.below hb1); have R1 := Lib.hid (R0.out.below hb1); have d0 := R1.out.c0; have d1 := R1.out.c1; have d2 := R1.out.c2; have qz := (HZC.out _ Z1.out); clear hb1)
      | (go_at_call 115; refine (HT.out _ Z1.out).mono ?_; rintro e w2 ⟨rfl, rfl⟩))
    have BD := Lib.hid (below_drew B1.out)
    have ZD : Hid (IntsAt w1.drew (.slice (some ⟨vb, vo, none⟩) n vc) cs) := Z1.out
    have RD : Hid (RowH w1.drew w.heap.size (.slice aa na ac) (.slice ba nb bc) (.slice ca nc cc)) := R1.out
    clear d0 d1 d2 qz c0 c1 c2
    have d0 := RD.out.c0
    have d1 := RD.out.c1
    have d2 := RD.out.c2
    refine wp_region_held_drew (S := (fun w' => w'.cell? ⟨w.heap.size, 0, none⟩ = some (.slice aa na ac) ∧ w'.cell? ⟨w.heap.size, 1, none⟩ = some (.slice ba nb bc) ∧ w'.cell? ⟨w.heap.size, 2, none⟩ = some (.slice ca nc cc))) (by kernel_rfl) (⟨d0, d1, d2⟩) (fun hHeld => ?_)
    refine wpAnyH_take (i := 0) (v := ?va0x1) rfl (by kernel_rfl) (by kernel_rfl) (by kernel_rfl) (fun _ _ _ h => h) (Or.inl ⟨by rfl, ?hy0x1⟩) (by assumption) ?rest0x1
    case hy0x1 => (intro w hSw; (try dsimp only at hSw); go_simp; try with_reducible rfl)
    (try simp only [Act.put, List.getElem_toArray, List.getElem_cons_zero, List.setIfInBounds_toArray, List.set_cons_zero, List.set_cons_succ])
    refine wpAnyH_take (i := 1) (v := ?va1x2) rfl (by kernel_rfl) (by kernel_rfl) (by kernel_rfl) (fun _ _ _ h => h) (Or.inl ⟨by rfl, ?hy1x2⟩) (by assumption) ?rest1x2
    case hy1x2 => (intro w hSw; (try dsimp only at hSw); go_simp; try with_reducible rfl)
    (try simp only [Act.put, List.getElem_toArray, List.getElem_cons_zero, List.getElem_cons_succ, List.setIfInBounds_toArray, List.set_cons_zero, List.set_cons_succ])
    generalize w1.drew = wd at *
    refine wpAnyH_ready (rs := [2, 4]) (by kernel_rfl) (by simp) ?_
    refine AllReadyH.cons rfl (fun K hK => ?_) (AllReadyH.cons rfl (fun K hK => ?_) AllReadyH.nil)
    · skip
      go_simp
      refine (c_copyInts _ cs _ ZD.out (by rw [HN.out]; omega)).mono ?_
      rintro e w3 ⟨v3, rfl, ho3, hb3⟩
      obtain ⟨pn, qn, rfl⟩ := ho3.ints.shape
      rw [HN.out] at ho3
      rw [HN.out]
      have R3 := Lib.hid (RD.out.below hb3)
      have B3 := Lib.hid (bst BD.out hb3 BD.out.size)
      have O3 := Lib.hid (ho3.mono BD.out.size)
      clear ho3 hb3
      refine hK.out _ _ ⟨R3.out.c0, R3.out.c1, R3.out.c2⟩ (fun hHeld => ?_)
      clear hK K
      (try simp only [Act.put, List.getElem_toArray, List.getElem_cons_zero, List.getElem_cons_succ, List.setIfInBounds_toArray, List.set_cons_zero, List.set_cons_succ])
      refine wpAnyH_take (i := 3) (v := ?va3x3) rfl (by kernel_rfl) (by kernel_rfl) (by kernel_rfl) (fun _ _ _ h => h) (Or.inl ⟨by rfl, ?hy3x3⟩) (by assumption) ?rest3x3
      case hy3x3 => (intro w hSw; (try dsimp only at hSw); go_simp; try with_reducible rfl)
      (try simp only [Act.put, List.getElem_toArray, List.getElem_cons_zero, List.getElem_cons_succ, List.setIfInBounds_toArray, List.set_cons_zero, List.set_cons_succ])
      refine wpAnyH_ready (rs := [4]) (by kernel_rfl) (by simp) ?_
      refine AllReadyH.cons rfl (fun K hK => ?_) AllReadyH.nil
      have R3z := Lib.hid (show RowH _ _ _ _ _ from Row.alloc R3.out (.cells (c5 (.slice none 0 0) (.slice none 0 0) (.slice none 0 0) (.slice none 0 0) .nilFunc) 95))
      go_simp
      refine hK.out _ _ ⟨R3z.out.c0, R3z.out.c1, R3z.out.c2⟩ (fun hHeld => ?_)
      clear hK K
      (try simp only [Act.put, List.getElem_toArray, List.getElem_cons_zero, List.getElem_cons_succ, List.setIfInBounds_toArray, List.set_cons_zero, List.set_cons_succ])
      refine wpAnyH_ready (rs := [5]) (by kernel_rfl) (by simp) ?_
      refine AllReadyH.cons rfl (fun K hK => ?_) AllReadyH.nil
      have R4 := Lib.hid (show RowH _ _ _ _ _ from Row.alloc R3.out (.cells (c5 (.slice aa na ac) (.slice ba nb bc) (.slice ca nc cc) (.slice pn n qn) .nilFunc) 95))
      have RM := Lib.hid (Row.new w3 95 (c5 (.slice aa na ac) (.slice ba nb bc) (.slice ca nc cc) (.slice pn n qn) .nilFunc))
      have B4 := Lib.hid (B3.out.alloc B3.out.size (.cells (c5 (.slice aa na ac) (.slice ba nb bc) (.slice ca nc cc) (.slice pn n qn) .nilFunc) 95))
      have O4 := Lib.hid (O3.out.below (below1 w3 (.cells (c5 (.slice aa na ac) (.slice ba nb bc) (.slice ca nc cc) (.slice pn n qn) .nilFunc) 95)))
      have HNE : Hid ((Value.slice pn n qn).ownBlock ≠ some w3.heap.size) := fun e => by have := (owns_lt O3.out e).2; omega
      go_simp
      refine hK.out _ _ ⟨R4.out.c0, R4.out.c1, R4.out.c2⟩ (fun hHeld => ?_)
      clear hK K
      (try simp only [Act.put, List.getElem_toArray, List.getElem_cons_zero, List.getElem_cons_succ, List.setIfInBounds_toArray, List.set_cons_zero, List.set_cons_succ])
      refine wpAnyH_done (by kernel_rfl) ?_ _
      clear hHeld
      generalize hgm : w3.heap.size = gm at *
      clear hgm
      generalize (w3.alloc (.cells (c5 (.slice aa na ac) (.slice ba nb bc) (.slice ca nc cc) (.slice pn n qn) .nilFunc) 95)) = w4 at *
      clear d0 d1 d2
      have m0 := RM.out.cell 0
      have m1 := RM.out.cell 1
      have m2 := RM.out.cell 2
      have m3 := RM.out.cell 3
      have m4 := RM.out.cell 4
      go_wp2_with fail
      refine (c_darkenB w (.slice aa na ac) (.slice ba nb bc) (.slice ca nc cc) .nilFunc (.slice pn n qn) h.f cs t _ HF.out B4.out O4.out HCOL.out (by rw [HN.out]; exact HTN.out) (by rw [HNA.out]; exact HTF.out) (by rw [HX.out]; omega) (by rw [HN.out]; exact HIN.out) HRL.out).mono ?_
      rintro e w6 ⟨rfl, ho6, hg6⟩
      have O6 := Lib.hid ho6
      have R6 := Row.grownBy RM.out hg6 HNE.out
      have B6 := Lib.hid (B4.out.grown hg6 B4.out.size (fun g e => (owns_lt O4.out e).1))
      clear m0 m1 m2 m3 m4
      have m3 := R6.cell 3
      clear ho6 hg6 R6
      go_wp2_with fail
      go_ret2
      exact endI_yes B6.out O6.out (Nat.le_refl _) HR.out HE.out
    · skip
      have hbz := below1 wd (.cells (c5 (.slice none 0 0) (.slice none 0 0) (.slice none 0 0) (.slice none 0 0) .nilFunc) 95)
      have RZ := Lib.hid (show RowH _ _ _ _ _ from Row.alloc RD.out (.cells (c5 (.slice none 0 0) (.slice none 0 0) (.slice none 0 0) (.slice none 0 0) .nilFunc) 95))
      have ZZ := Lib.hid (ZD.out.below hbz)
      have BZ := Lib.hid (bst BD.out hbz BD.out.size)
      have GZ := Lib.hid (Row.new wd 95 (c5 (.slice none 0 0) (.slice none 0 0) (.slice none 0 0) (.slice none 0 0) .nilFunc))
      have LZ : Hid (w.heap.size < wd.heap.size ∧ wd.heap.size < (wd.alloc (.cells (c5 (.slice none 0 0) (.slice none 0 0) (.slice none 0 0) (.slice none 0 0) .nilFunc) 95)).heap.size) := ⟨RD.out.lt, by simp⟩
      go_simp
      refine hK.out _ _ ⟨RZ.out.c0, RZ.out.c1, RZ.out.c2⟩ (fun hHeld => ?_)
      clear hK K hbz
      (try simp only [Act.put, List.getElem_toArray, List.getElem_cons_zero, List.getElem_cons_succ, List.setIfInBounds_toArray, List.set_cons_zero, List.set_cons_succ])
      generalize hgm : wd.heap.size = gm at *
      clear hgm
      generalize wd.alloc (.cells (c5 (.slice none 0 0) (.slice none 0 0) (.slice none 0 0) (.slice none 0 0) .nilFunc) 95) = wz at *
      refine wpAnyH_ready (rs := [2]) (by kernel_rfl) (by simp) ?_
      refine AllReadyH.cons rfl (fun K hK => ?_) AllReadyH.nil
      go_simp
      refine (c_copyInts _ cs _ ZZ.out (by rw [HN.out]; omega)).mono ?_
      rintro e w3 ⟨v3, rfl, ho3, hb3⟩
      obtain ⟨pn, qn, rfl⟩ := ho3.ints.shape
      rw [HN.out] at ho3
      rw [HN.out]
      have R3 := Lib.hid (RZ.out.below hb3)
      have B3 := Lib.hid (bst BZ.out hb3 BZ.out.size)
      have O3 := Lib.hid (ho3.mono BZ.out.size)
      have G3 := Lib.hid (Row.below GZ.out hb3)
      have HGE : Hid (∀ g', (Value.slice pn n qn).ownBlock = some g' → gm + 1 ≤ g') := fun g' e => by have := (owns_lt ho3 e).1; have := LZ.out; omega
      clear ho3 hb3
      refine hK.out _ _ ⟨R3.out.c0, R3.out.c1, R3.out.c2⟩ (fun hHeld => ?_)
      clear hK K
      (try simp only [Act.put, List.getElem_toArray, List.getElem_cons_zero, List.getElem_cons_succ, List.setIfInBounds_toArray, List.set_cons_zero, List.set_cons_succ])
      refine wpAnyH_take (i := 3) (v := ?va3x4) rfl (by kernel_rfl) (by kernel_rfl) (by kernel_rfl) (fun _ _ _ h => h) (Or.inl ⟨by rfl, ?hy3x4⟩) (by assumption) ?rest3x4
      case hy3x4 => (intro w hSw; (try dsimp only at hSw); go_simp; try with_reducible rfl)
      (try simp only [Act.put, List.getElem_toArray, List.getElem_cons_zero, List.getElem_cons_succ, List.setIfInBounds_toArray, List.set_cons_zero, List.set_cons_succ])
      have hch := chgRow w3 gm (c5 (.slice aa na ac) (.slice ba nb bc) (.slice ca nc cc) (.slice pn n qn) .nilFunc)
      have RM := Lib.hid (Row.put G3.out (c5 (.slice aa na ac) (.slice ba nb bc) (.slice ca nc cc) (.slice pn n qn) .nilFunc))
      have R4 := Lib.hid (show RowH _ _ _ _ _ from Row.chg R3.out hch (by have := LZ.out; omega))
      have B4 := Lib.hid (below_chg B3.out hch (by have := LZ.out; omega) B3.out.size)
      have O4 := Lib.hid (Own.chg O3.out hch (fun g' e => .inr (HGE.out g' e)))
      have HNE : Hid ((Value.slice pn n qn).ownBlock ≠ some gm) := fun e => by have := HGE.out _ e; omega
      clear hch
      refine wpAnyH_ready (rs := [5]) (by kernel_rfl) (by simp) ?_
      refine AllReadyH.cons rfl (fun K hK => ?_) AllReadyH.nil
      refine wp_store_row 95 _ _ rfl gm (c5 (.slice aa na ac) (.slice ba nb bc) (.slice ca nc cc) (.slice pn n qn) .nilFunc) rfl rfl 95 _ G3.out info_marker rfl (by simp [Value.oneCell']) ?_
      refine hK.out _ _ ⟨R4.out.c0, R4.out.c1, R4.out.c2⟩ (fun hHeld => ?_)
      clear hK K
      (try simp only [Act.put, List.getElem_toArray, List.getElem_cons_zero, List.getElem_cons_succ])
      refine wpAnyH_done (by kernel_rfl) ?_ _
      clear hHeld
      generalize w3.setRow gm (c5 (.slice aa na ac) (.slice ba nb bc) (.slice ca nc cc) (.slice pn n qn) .nilFunc) = w4 at *
      clear d0 d1 d2
      have m0 := RM.out.cell 0
      have m1 := RM.out.cell 1
      have m2 := RM.out.cell 2
      have m3 := RM.out.cell 3
      have m4 := RM.out.cell 4
      go_wp2_with fail
      refine (c_darkenB w (.slice aa na ac) (.slice ba nb bc) (.slice ca nc cc) .nilFunc (.slice pn n qn) h.f cs t _ HF.out B4.out O4.out HCOL.out (by rw [HN.out]; exact HTN.out) (by rw [HNA.out]; exact HTF.out) (by rw [HX.out]; omega) (by rw [HN.out]; exact HIN.out) HRL.out).mono ?_
      rintro e w6 ⟨rfl, ho6, hg6⟩
      have O6 := Lib.hid ho6
      have R6 := Row.grownBy RM.out hg6 HNE.out
      have B6 := Lib.hid (B4.out.grown hg6 B4.out.size (fun g e => (owns_lt O4.out e).1))
      clear m0 m1 m2 m3 m4
      have m3 := R6.cell 3
      clear ho6 hg6 R6
      go_wp2_with fail
      go_ret2
      exact endI_yes B6.out O6.out (Nat.le_refl _) HR.out HE.out
  · have HE : Hid (ok = false) := by unfold Hid; rw [HO.out, decide_eq_false hx]; simp
    generalize cs.getD t 0 = z at *
    have hx1 : (z == 1) = false := by simpa using hx
    clear hx
    have HR := Lib.hid (HE1.out HE.out)
    go_enter Try.func57, Try.ntmps57
    go_wp2_with (first
      | (go_at_call 79; refine HC.out.mono ?_; rintro e w1 ⟨rfl, hb1⟩; have B1 := Lib.hid (bst HB.out hb1 HB.out.size); have Z1 := Lib.hid (Z0.out.below hb1); have R1 := Lib.hid (R0.out.below hb1); have d0 := R1.out.c0; have d1 := R1.out.c1; have d2 := R1.out.c2; have qz := (HZC.out _ Z1.out); clear hb1)
      | (go_at_call 115; refine (HT.out _ Z1.out).mono ?_; rintro e w2 ⟨rfl, rfl⟩))
    go_ret2
    exact endI_no B1.out HR.out HE.out
end Go.Proofs.Ytdagkbgobnaijab
