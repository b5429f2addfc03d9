/- The project's SetField and SetRoot. -/
import Derived.Test.YtdagkbgobnaijabHw7
namespace Go.Proofs.Ytdagkbgobnaijab
open Go.RowKit Ph

theorem int_getD {zs : List Int} {j : Nat} (hj : j < zs.length) : (zs.map (Value.int .i64))[j]? = some (.int .i64 (zs.getD j 0)) := by
  rw [List.getElem?_map, List.getElem?_eq_getElem hj]; simp [List.getD, List.getElem?_eq_getElem hj]
/-- A field stored in a heap that is the call's own. -/
theorem setFld_facts {w : World} {lo R : Nat} {a b c r1 r2 r3 : Value} {h : H} (ho : OwnH w lo w.heap.size a b c h) {k j : Nat} (hk : k < h.f.length) (hj : j < (h.f.getD k []).length) (z : Int) (hR : RowH w R r1 r2 r3) :
    ∃ ga ca pb qb pc qc gr cr x, a = .slice (some ⟨ga, 0, none⟩) h.f.length ca ∧ b = .slice pb h.l.length qb ∧ c = .slice pc h.r.length qc ∧ (w.alloc (.cells (c3 a b c) 27)).cell? ⟨ga, k, none⟩ = some (.slice (some ⟨gr, 0, none⟩) (h.f.getD k []).length cr) ∧
      (w.alloc (.cells (c3 a b c) 27)).cell? ⟨gr, j, none⟩ = some x ∧ (w.alloc (.cells (c3 a b c) 27)).frozen? ⟨gr, j, none⟩ = false ∧ lo ≤ gr ∧
      RowH ((w.alloc (.cells (c3 a b c) 27)).setCell ⟨gr, j, none⟩ (.int .i64 z)) w.heap.size a b c ∧ RowH ((w.alloc (.cells (c3 a b c) 27)).setCell ⟨gr, j, none⟩ (.int .i64 z)) R r1 r2 r3 ∧
      OwnH ((w.alloc (.cells (c3 a b c) 27)).setCell ⟨gr, j, none⟩ (.int .i64 z)) lo w.heap.size a b c ⟨h.f.set k ((h.f.getD k []).set j z), h.l, h.r⟩ := by
  obtain ⟨us, hf⟩ := ho
  have hrd := hf.reads
  obtain ⟨pb, qb, hb⟩ := hrd.l.shape
  obtain ⟨pc, qc, hc⟩ := hrd.r.shape
  have F1 : FamH (w.alloc (.cells (c3 a b c) 27)) lo w.heap.size a b c us h := Fam.below hf (below1 w _)
  have RA : RowH (w.alloc (.cells (c3 a b c) 27)) w.heap.size a b c := Row.new w _ _
  have RR : RowH (w.alloc (.cells (c3 a b c) 27)) R r1 r2 r3 := Row.alloc hR _
  have hrow := F1.row hk
  rcases F1.shape with ⟨_, h0⟩ | ⟨ga, ca, ha⟩
  · rw [h0] at hk; simp at hk
  rcases hrow.shape' with ⟨_, h0⟩ | ⟨gr, cr, hu⟩
  · rw [h0] at hj; simp at hj
  have hcell := (F1.cell ha hk).1
  have hown := hrow
  unfold Own at hown
  rw [hu] at hown hcell
  obtain ⟨s1, s2⟩ := hown.stored j (.int .i64 z)
  have hbl := owns_lt hown rfl
  have hlt := Fam.blk F1 (k := k + 3) (g := gr) (by omega) (by show (us k).ownBlock = _; rw [hu]; rfl)
  have ho2 : Own ((w.alloc (.cells (c3 a b c) 27)).setCell ⟨gr, j, none⟩ (.int .i64 z)) lo (us k) ((h.f.getD k []).set j z) := by
    unfold Own; rw [hu, List.length_set, List.map_set]; exact s1
  have hn1 : gr ≠ w.heap.size := by omega
  have hn2 : gr ≠ R := owns_ne_row hown RR (by decide) rfl
  refine ⟨ga, ca, pb, qb, pc, qc, gr, cr, .int .i64 ((h.f.getD k []).getD j 0), ha, hb, hc, hcell, ?_, hown.frozenAt j, hbl.1, Row.other RA ⟨gr, j, none⟩ (by simp; omega) _, Row.other RR ⟨gr, j, none⟩ (by simp; omega) _, ⟨us, F1.setRow hk (by rw [hu]; exact s2) ho2⟩⟩
  rw [hown.cellAt j (by omega)]; exact int_getD hj
/-- A root stored in a heap that is the call's own. -/
theorem setRt_facts {w : World} {lo R : Nat} {a b c r1 r2 r3 : Value} {h : H} (ho : OwnH w lo w.heap.size a b c h) {k : Nat} (hk : k < h.r.length) (z : Int) (hR : RowH w R r1 r2 r3) :
    ∃ pa qa pb qb gc cc x, a = .slice pa h.f.length qa ∧ b = .slice pb h.l.length qb ∧ c = .slice (some ⟨gc, 0, none⟩) h.r.length cc ∧
      (w.alloc (.cells (c3 a b c) 27)).cell? ⟨gc, k, none⟩ = some x ∧ (w.alloc (.cells (c3 a b c) 27)).frozen? ⟨gc, k, none⟩ = false ∧ lo ≤ gc ∧
      RowH ((w.alloc (.cells (c3 a b c) 27)).setCell ⟨gc, k, none⟩ (.int .i64 z)) w.heap.size a b c ∧ RowH ((w.alloc (.cells (c3 a b c) 27)).setCell ⟨gc, k, none⟩ (.int .i64 z)) R r1 r2 r3 ∧
      OwnH ((w.alloc (.cells (c3 a b c) 27)).setCell ⟨gc, k, none⟩ (.int .i64 z)) lo w.heap.size a b c ⟨h.f, h.l, h.r.set k z⟩ := by
  obtain ⟨us, hf⟩ := ho
  have hrd := hf.reads
  obtain ⟨pb, qb, hb⟩ := hrd.l.shape
  obtain ⟨pa, qa, ha⟩ := hrd.f.shape
  have F1 : FamH (w.alloc (.cells (c3 a b c) 27)) lo w.heap.size a b c us h := Fam.below hf (below1 w _)
  have RA : RowH (w.alloc (.cells (c3 a b c) 27)) w.heap.size a b c := Row.new w _ _
  have RR : RowH (w.alloc (.cells (c3 a b c) 27)) R r1 r2 r3 := Row.alloc hR _
  have hrow := F1.roots
  rcases hrow.shape' with ⟨_, h0⟩ | ⟨gc, cc, hc⟩
  · rw [h0] at hk; simp at hk
  subst hc
  have hown := hrow
  unfold Own at hown
  obtain ⟨s1, s2⟩ := hown.stored k (.int .i64 z)
  have hbl := owns_lt hown rfl
  have hlt := Fam.blk F1 (k := 2) (g := gc) (by omega) rfl
  have ho2 : Own ((w.alloc (.cells (c3 a b (.slice (some ⟨gc, 0, none⟩) h.r.length cc)) 27)).setCell ⟨gc, k, none⟩ (.int .i64 z)) lo (.slice (some ⟨gc, 0, none⟩) h.r.length cc) (h.r.set k z) := by
    unfold Own; rw [List.length_set, List.map_set]; exact s1
  have hn1 : gc ≠ w.heap.size := by omega
  have hn2 : gc ≠ R := owns_ne_row hown RR (by decide) rfl
  refine ⟨pa, qa, pb, qb, gc, cc, .int .i64 (h.r.getD k 0), ha, hb, rfl, ?_, hown.frozenAt k, hbl.1, Row.other RA ⟨gc, k, none⟩ (by simp; omega) _, Row.other RR ⟨gc, k, none⟩ (by simp; omega) _, ⟨us, F1.setRoots s2 ho2⟩⟩
  rw [hown.cellAt k (by omega)]; exact int_getD hk
theorem hasFB_iff {h : H} {t f : Int} (hx : hasFB h t f = true) (g : Ph.Good h) : ∃ k j : Nat, t = k ∧ f = j ∧ k < h.f.length ∧ j < (h.f.getD k []).length := by
  unfold hasFB at hx
  simp only [Bool.and_eq_true, decide_eq_true_eq] at hx
  obtain ⟨⟨h1, h2⟩, h3⟩ := hx
  have h4 := live_inRg g h1
  refine ⟨t.toNat, f.toNat, by omega, by omega, by omega, by omega⟩
theorem hasRB_iff {h : H} {t : Int} (hx : hasRB h t = true) : ∃ k : Nat, t = k ∧ k < h.r.length := by
  unfold hasRB at hx
  simp only [Bool.and_eq_true, decide_eq_true_eq] at hx
  exact ⟨t.toNat, by omega, by omega⟩
set_option maxRecDepth 100000 in
set_option maxHeartbeats 6400000 in
theorem c_SetField (a b c : Value) (h : H) (t f z : Int) (w : World) (hA : HeapAt w a b c h) : Calls Try.prog 158 #[hv a b c, .int .i64 t, .int .i64 f, .int .i64 z] w (EndH (setF h t f z) (setFOk h t f z) w) := by
  have hb0 := (below1 w (.cells (c3 a b c) 27)).alloc (by simp) (.cells (c3 (.slice none 0 0) (.slice none 0 0) (.slice none 0 0)) 27)
  have A0 := Lib.hid (hA.below hb0)
  have HB := Lib.hid hb0
  have P0 := Lib.hid (show RowH _ _ a b c from (Row.new w 27 (c3 a b c)).alloc (.cells (c3 (.slice none 0 0) (.slice none 0 0) (.slice none 0 0)) 27))
  have R0 := Lib.hid (show RowH _ (w.heap.size + 1) (.slice none 0 0) (.slice none 0 0) (.slice none 0 0) from Row.new1 w (.cells (c3 a b c) 27) 27 (c3 (.slice none 0 0) (.slice none 0 0) (.slice none 0 0)))
  clear hA hb0
  have HC := Lib.hid (c_GoodHeap a b c h _ A0.out)
  have G1 := Lib.hid (good_iff (h := h)).1
  have E1 := Lib.hid (setF_no (h := h) (t := t) (f := f) (z := z))
  have E2 := Lib.hid (setF_yes (h := h) (t := t) (f := f) (z := z))
  have hok : (setFOk h t f z) = (good h && hasFB h t f && refB h.l z) := rfl
  generalize good h = x at *
  have p0 := P0.out.c0
  have p1 := P0.out.c1
  have p2 := P0.out.c2
  generalize (setFOk h t f z) = ok at *
  cases x
  · have HE : Hid (ok = false) := by unfold Hid; rw [hok]; rfl
    clear hok
    go_enter Try.func158, Try.ntmps158
    go_wp2_with (first
      | (go_at_call 83; refine HC.out.mono ?_; rintro e w1 ⟨rfl, hb1⟩; have B1 := Lib.hid (bst HB.out hb1 HB.out.size); have A1 := Lib.hid (A0.out.below hb1); have P1 := Lib.hid (P0.out.below hb1); have R1 := Lib.hid (R0.out.below hb1); have d10 := P1.out.c0; have d11 := P1.out.c1; have d12 := P1.out.c2; clear hb1)
      | (refine wl_storeH rfl _ _ rfl (w.heap.size + 1) (.slice none 0 0) (.slice none 0 0) (.slice none 0 0) _ _ _ R1.out rfl rfl rfl rfl rfl ?_))
    refine bodyPost_ret (res_row_slot Try.results158 (Row.put R1.out (c3 (.slice none 0 0) (.slice none 0 0) (.slice none 0 0))) rfl rfl Try.underlying27 rfl info_heap) rfl (endH_no (below_setRow B1.out (by omega) _) (E1.out HE.out) HE.out)
  · have G := Lib.hid (G1.out rfl)
    generalize hb2 : hasFB h t f = x2 at *
    have HX2 := Lib.hid hb2
    clear hb2
    generalize hb3 : refB h.l z = x3 at *
    have HX3 := Lib.hid hb3
    clear hb3
    cases x2
    · have HE : Hid (ok = false) := by unfold Hid; rw [hok]; simp
      clear hok
      go_enter Try.func158, Try.ntmps158
      go_wp2_with (first
        | (go_at_call 83; refine HC.out.mono ?_; rintro e w1 ⟨rfl, hb1⟩; have B1 := Lib.hid (bst HB.out hb1 HB.out.size); have A1 := Lib.hid (A0.out.below hb1); have P1 := Lib.hid (P0.out.below hb1); have R1 := Lib.hid (R0.out.below hb1); have d10 := P1.out.c0; have d11 := P1.out.c1; have d12 := P1.out.c2; clear hb1)
        | (go_at_call 164; refine (c_hasField a b c h t f _ A1.out G.out).mono ?_; rintro e w2 ⟨rfl, hb2⟩; rw [HX2.out]; have B2 := Lib.hid (bst B1.out hb2 B1.out.size); have A2 := Lib.hid (A1.out.below hb2); have P2 := Lib.hid (P1.out.below hb2); have R2 := Lib.hid (R1.out.below hb2); have d20 := P2.out.c0; have d21 := P2.out.c1; have d22 := P2.out.c2; clear hb2)
        | (refine wl_storeH rfl _ _ rfl (w.heap.size + 1) (.slice none 0 0) (.slice none 0 0) (.slice none 0 0) _ _ _ R2.out rfl rfl rfl rfl rfl ?_))
      refine bodyPost_ret (res_row_slot Try.results158 (Row.put R2.out (c3 (.slice none 0 0) (.slice none 0 0) (.slice none 0 0))) rfl rfl Try.underlying27 rfl info_heap) rfl (endH_no (below_setRow B2.out (by omega) _) (E1.out HE.out) HE.out)
    · skip
      cases x3
      · have HE : Hid (ok = false) := by unfold Hid; rw [hok]; simp
        clear hok
        go_enter Try.func158, Try.ntmps158
        go_wp2_with (first
          | (go_at_call 83; refine HC.out.mono ?_; rintro e w1 ⟨rfl, hb1⟩; have B1 := Lib.hid (bst HB.out hb1 HB.out.size); have A1 := Lib.hid (A0.out.below hb1); have P1 := Lib.hid (P0.out.below hb1); have R1 := Lib.hid (R0.out.below hb1); have d10 := P1.out.c0; have d11 := P1.out.c1; have d12 := P1.out.c2; clear hb1)
          | (go_at_call 164; refine (c_hasField a b c h t f _ A1.out G.out).mono ?_; rintro e w2 ⟨rfl, hb2⟩; rw [HX2.out]; have B2 := Lib.hid (bst B1.out hb2 B1.out.size); have A2 := Lib.hid (A1.out.below hb2); have P2 := Lib.hid (P1.out.below hb2); have R2 := Lib.hid (R1.out.below hb2); have d20 := P2.out.c0; have d21 := P2.out.c1; have d22 := P2.out.c2; clear hb2)
          | (go_at_call 152; refine (c_isReference a b c h.l z _ A2.out.l).mono ?_; rintro e w3 ⟨rfl, hb3⟩; rw [HX3.out]; have B3 := Lib.hid (bst B2.out hb3 B2.out.size); have A3 := Lib.hid (A2.out.below hb3); have P3 := Lib.hid (P2.out.below hb3); have R3 := Lib.hid (R2.out.below hb3); have d30 := P3.out.c0; have d31 := P3.out.c1; have d32 := P3.out.c2; clear hb3)
          | (refine wl_storeH rfl _ _ rfl (w.heap.size + 1) (.slice none 0 0) (.slice none 0 0) (.slice none 0 0) _ _ _ R3.out rfl rfl rfl rfl rfl ?_))
        refine bodyPost_ret (res_row_slot Try.results158 (Row.put R3.out (c3 (.slice none 0 0) (.slice none 0 0) (.slice none 0 0))) rfl rfl Try.underlying27 rfl info_heap) rfl (endH_no (below_setRow B3.out (by omega) _) (E1.out HE.out) HE.out)
      · skip
        have HE : Hid (ok = true) := by unfold Hid; rw [hok]; rfl
        clear hok
        go_enter Try.func158, Try.ntmps158
        go_wp2_with (first
          | (go_at_call 83; refine HC.out.mono ?_; rintro e w1 ⟨rfl, hb1⟩; have B1 := Lib.hid (bst HB.out hb1 HB.out.size); have A1 := Lib.hid (A0.out.below hb1); have P1 := Lib.hid (P0.out.below hb1); have R1 := Lib.hid (R0.out.below hb1); have d10 := P1.out.c0; have d11 := P1.out.c1; have d12 := P1.out.c2; clear hb1)
          | (go_at_call 164; refine (c_hasField a b c h t f _ A1.out G.out).mono ?_; rintro e w2 ⟨rfl, hb2⟩; rw [HX2.out]; have B2 := Lib.hid (bst B1.out hb2 B1.out.size); have A2 := Lib.hid (A1.out.below hb2); have P2 := Lib.hid (P1.out.below hb2); have R2 := Lib.hid (R1.out.below hb2); have d20 := P2.out.c0; have d21 := P2.out.c1; have d22 := P2.out.c2; clear hb2)
          | (go_at_call 152; refine (c_isReference a b c h.l z _ A2.out.l).mono ?_; rintro e w3 ⟨rfl, hb3⟩; rw [HX3.out]; have B3 := Lib.hid (bst B2.out hb3 B2.out.size); have A3 := Lib.hid (A2.out.below hb3); have P3 := Lib.hid (P2.out.below hb3); have R3 := Lib.hid (R2.out.below hb3); have d30 := P3.out.c0; have d31 := P3.out.c1; have d32 := P3.out.c2; clear hb3))
        refine (c_copyHeap a b c h _ A3.out G.out).mono ?_
        rintro e w9 ⟨a', b', c', rfl, ho, hb9⟩
        have B9 := Lib.hid (bst B3.out hb9 B3.out.size); have R9 := Lib.hid (R3.out.below hb9)
        have hfl := hasFB_iff HX2.out G.out
        obtain ⟨k, j, rfl, rfl, hk, hj⟩ := hfl
        obtain ⟨ga, ca, pb, qb, pc, qc, gr, cr, x, rfl, rfl, rfl, q1, q2, q3, hgr, rA, rR, oN⟩ := setFld_facts ho hk hj z R9.out
        have hE2 := E2.out HE.out
        rw [Int.toNat_natCast, Int.toNat_natCast] at hE2
        have RA := Lib.hid rA; have RR := Lib.hid rR; have ON := Lib.hid oN; have EE := Lib.hid hE2
        have LL : Hid (w.heap.size ≤ gr) := Nat.le_trans B3.out.size hgr
        have L9 : Hid (w.heap.size ≤ w9.heap.size) := B9.out.size
        have LK := Lib.hid B3.out.size
        clear rA rR oN hE2 ho hb9 hgr
        have i1 : (k : Int) < (h.f.length : Int) := by omega
        have i2 : (j : Int) < ((h.f.getD k []).length : Int) := by omega
        have j1 : (0 : Int) ≤ (k : Int) := by omega
        have j2 : (0 : Int) ≤ (j : Int) := by omega
        generalize h.f.length = nf at *
        generalize h.l.length = nl at *
        generalize h.r.length = nr at *
        generalize (h.f.getD k []).length = nm at *
        go_wp2_with (first
          | (refine wl_loadH rfl _ rfl w9.heap.size _ _ _ RA.out rfl ?_)
          | (refine wl_storeH rfl _ _ rfl (w.heap.size + 1) (.slice (some ⟨ga, 0, none⟩) nf ca) (.slice pb nl qb) (.slice pc nr qc) _ _ _ RR.out rfl rfl rfl rfl rfl ?_))
        refine bodyPost_ret (res_row_slot Try.results158 (Row.put RR.out (c3 (.slice (some ⟨ga, 0, none⟩) nf ca) (.slice pb nl qb) (.slice pc nr qc))) rfl rfl Try.underlying27 rfl info_heap) rfl (endH_yes (below_setRow ((B9.out.alloc L9.out _).setCell (p := ⟨gr, j, none⟩) LL.out _) (by omega) _) (ON.out.wholeRow RR.out _) LK.out (by rw [size_setRow, World.size_setCell, World.size_alloc]; omega) EE.out HE.out)
set_option maxRecDepth 100000 in
set_option maxHeartbeats 6400000 in
theorem c_SetRoot (a b c : Value) (h : H) (t z : Int) (w : World) (hA : HeapAt w a b c h) : Calls Try.prog 160 #[hv a b c, .int .i64 t, .int .i64 z] w (EndH (setR h t z) (setROk h t z) w) := by
  have hb0 := (below1 w (.cells (c3 a b c) 27)).alloc (by simp) (.cells (c3 (.slice none 0 0) (.slice none 0 0) (.slice none 0 0)) 27)
  have A0 := Lib.hid (hA.below hb0)
  have HB := Lib.hid hb0
  have P0 := Lib.hid (show RowH _ _ a b c from (Row.new w 27 (c3 a b c)).alloc (.cells (c3 (.slice none 0 0) (.slice none 0 0) (.slice none 0 0)) 27))
  have R0 := Lib.hid (show RowH _ (w.heap.size + 1) (.slice none 0 0) (.slice none 0 0) (.slice none 0 0) from Row.new1 w (.cells (c3 a b c) 27) 27 (c3 (.slice none 0 0) (.slice none 0 0) (.slice none 0 0)))
  clear hA hb0
  have HC := Lib.hid (c_GoodHeap a b c h _ A0.out)
  have G1 := Lib.hid (good_iff (h := h)).1
  have E1 := Lib.hid (setR_no (h := h) (t := t) (z := z))
  have E2 := Lib.hid (setR_yes (h := h) (t := t) (z := z))
  have hok : (setROk h t z) = (good h && hasRB h t && refB h.l z) := rfl
  generalize good h = x at *
  have p0 := P0.out.c0
  have p1 := P0.out.c1
  have p2 := P0.out.c2
  generalize (setROk h t z) = ok at *
  cases x
  · have HE : Hid (ok = false) := by unfold Hid; rw [hok]; rfl
    clear hok
    go_enter Try.func160, Try.ntmps160
    go_wp2_with (first
      | (go_at_call 83; refine HC.out.mono ?_; rintro e w1 ⟨rfl, hb1⟩; have B1 := Lib.hid (bst HB.out hb1 HB.out.size); have A1 := Lib.hid (A0.out.below hb1); have P1 := Lib.hid (P0.out.below hb1); have R1 := Lib.hid (R0.out.below hb1); have d10 := P1.out.c0; have d11 := P1.out.c1; have d12 := P1.out.c2; clear hb1)
      | (refine wl_storeH rfl _ _ rfl (w.heap.size + 1) (.slice none 0 0) (.slice none 0 0) (.slice none 0 0) _ _ _ R1.out rfl rfl rfl rfl rfl ?_))
    refine bodyPost_ret (res_row_slot Try.results160 (Row.put R1.out (c3 (.slice none 0 0) (.slice none 0 0) (.slice none 0 0))) rfl rfl Try.underlying27 rfl info_heap) rfl (endH_no (below_setRow B1.out (by omega) _) (E1.out HE.out) HE.out)
  · have G := Lib.hid (G1.out rfl)
    generalize hb2 : hasRB h t = x2 at *
    have HX2 := Lib.hid hb2
    clear hb2
    generalize hb3 : refB h.l z = x3 at *
    have HX3 := Lib.hid hb3
    clear hb3
    cases x2
    · have HE : Hid (ok = false) := by unfold Hid; rw [hok]; simp
      clear hok
      go_enter Try.func160, Try.ntmps160
      go_wp2_with (first
        | (go_at_call 83; refine HC.out.mono ?_; rintro e w1 ⟨rfl, hb1⟩; have B1 := Lib.hid (bst HB.out hb1 HB.out.size); have A1 := Lib.hid (A0.out.below hb1); have P1 := Lib.hid (P0.out.below hb1); have R1 := Lib.hid (R0.out.below hb1); have d10 := P1.out.c0; have d11 := P1.out.c1; have d12 := P1.out.c2; clear hb1)
        | (go_at_call 161; refine (c_hasRoot a b c h t _ A1.out).mono ?_; rintro e w2 ⟨rfl, hb2⟩; rw [HX2.out]; have B2 := Lib.hid (bst B1.out hb2 B1.out.size); have A2 := Lib.hid (A1.out.below hb2); have P2 := Lib.hid (P1.out.below hb2); have R2 := Lib.hid (R1.out.below hb2); have d20 := P2.out.c0; have d21 := P2.out.c1; have d22 := P2.out.c2; clear hb2)
        | (refine wl_storeH rfl _ _ rfl (w.heap.size + 1) (.slice none 0 0) (.slice none 0 0) (.slice none 0 0) _ _ _ R2.out rfl rfl rfl rfl rfl ?_))
      refine bodyPost_ret (res_row_slot Try.results160 (Row.put R2.out (c3 (.slice none 0 0) (.slice none 0 0) (.slice none 0 0))) rfl rfl Try.underlying27 rfl info_heap) rfl (endH_no (below_setRow B2.out (by omega) _) (E1.out HE.out) HE.out)
    · skip
      cases x3
      · have HE : Hid (ok = false) := by unfold Hid; rw [hok]; simp
        clear hok
        go_enter Try.func160, Try.ntmps160
        go_wp2_with (first
          | (go_at_call 83; refine HC.out.mono ?_; rintro e w1 ⟨rfl, hb1⟩; have B1 := Lib.hid (bst HB.out hb1 HB.out.size); have A1 := Lib.hid (A0.out.below hb1); have P1 := Lib.hid (P0.out.below hb1); have R1 := Lib.hid (R0.out.below hb1); have d10 := P1.out.c0; have d11 := P1.out.c1; have d12 := P1.out.c2; clear hb1)
          | (go_at_call 161; refine (c_hasRoot a b c h t _ A1.out).mono ?_; rintro e w2 ⟨rfl, hb2⟩; rw [HX2.out]; have B2 := Lib.hid (bst B1.out hb2 B1.out.size); have A2 := Lib.hid (A1.out.below hb2); have P2 := Lib.hid (P1.out.below hb2); have R2 := Lib.hid (R1.out.below hb2); have d20 := P2.out.c0; have d21 := P2.out.c1; have d22 := P2.out.c2; clear hb2)
          | (go_at_call 152; refine (c_isReference a b c h.l z _ A2.out.l).mono ?_; rintro e w3 ⟨rfl, hb3⟩; rw [HX3.out]; have B3 := Lib.hid (bst B2.out hb3 B2.out.size); have A3 := Lib.hid (A2.out.below hb3); have P3 := Lib.hid (P2.out.below hb3); have R3 := Lib.hid (R2.out.below hb3); have d30 := P3.out.c0; have d31 := P3.out.c1; have d32 := P3.out.c2; clear hb3)
          | (refine wl_storeH rfl _ _ rfl (w.heap.size + 1) (.slice none 0 0) (.slice none 0 0) (.slice none 0 0) _ _ _ R3.out rfl rfl rfl rfl rfl ?_))
        refine bodyPost_ret (res_row_slot Try.results160 (Row.put R3.out (c3 (.slice none 0 0) (.slice none 0 0) (.slice none 0 0))) rfl rfl Try.underlying27 rfl info_heap) rfl (endH_no (below_setRow B3.out (by omega) _) (E1.out HE.out) HE.out)
      · skip
        have HE : Hid (ok = true) := by unfold Hid; rw [hok]; rfl
        clear hok
        go_enter Try.func160, Try.ntmps160
        go_wp2_with (first
          | (go_at_call 83; refine HC.out.mono ?_; rintro e w1 ⟨rfl, hb1⟩; have B1 := Lib.hid (bst HB.out hb1 HB.out.size); have A1 := Lib.hid (A0.out.below hb1); have P1 := Lib.hid (P0.out.below hb1); have R1 := Lib.hid (R0.out.below hb1); have d10 := P1.out.c0; have d11 := P1.out.c1; have d12 := P1.out.c2; clear hb1)
          | (go_at_call 161; refine (c_hasRoot a b c h t _ A1.out).mono ?_; rintro e w2 ⟨rfl, hb2⟩; rw [HX2.out]; have B2 := Lib.hid (bst B1.out hb2 B1.out.size); have A2 := Lib.hid (A1.out.below hb2); have P2 := Lib.hid (P1.out.below hb2); have R2 := Lib.hid (R1.out.below hb2); have d20 := P2.out.c0; have d21 := P2.out.c1; have d22 := P2.out.c2; clear hb2)
          | (go_at_call 152; refine (c_isReference a b c h.l z _ A2.out.l).mono ?_; rintro e w3 ⟨rfl, hb3⟩; rw [HX3.out]; have B3 := Lib.hid (bst B2.out hb3 B2.out.size); have A3 := Lib.hid (A2.out.below hb3); have P3 := Lib.hid (P2.out.below hb3); have R3 := Lib.hid (R2.out.below hb3); have d30 := P3.out.c0; have d31 := P3.out.c1; have d32 := P3.out.c2; clear hb3))
        refine (c_copyHeap a b c h _ A3.out G.out).mono ?_
        rintro e w9 ⟨a', b', c', rfl, ho, hb9⟩
        have B9 := Lib.hid (bst B3.out hb9 B3.out.size); have R9 := Lib.hid (R3.out.below hb9)
        have hfl := hasRB_iff HX2.out
        obtain ⟨k, rfl, hk⟩ := hfl
        obtain ⟨pa, qa, pb, qb, gc, cc, x, rfl, rfl, rfl, q2, q3, hgr, rA, rR, oN⟩ := setRt_facts ho hk z R9.out
        have hE2 := E2.out HE.out
        rw [Int.toNat_natCast] at hE2
        have RA := Lib.hid rA; have RR := Lib.hid rR; have ON := Lib.hid oN; have EE := Lib.hid hE2
        have LL : Hid (w.heap.size ≤ gc) := Nat.le_trans B3.out.size hgr
        have L9 : Hid (w.heap.size ≤ w9.heap.size) := B9.out.size
        have LK := Lib.hid B3.out.size
        clear rA rR oN hE2 ho hb9 hgr
        have i1 : (k : Int) < (h.r.length : Int) := by omega
        have j1 : (0 : Int) ≤ (k : Int) := by omega
        generalize h.f.length = nf at *
        generalize h.l.length = nl at *
        generalize h.r.length = nr at *
        go_wp2_with (first
          | (refine wl_loadH rfl _ rfl w9.heap.size _ _ _ RA.out rfl ?_)
          | (refine wl_storeH rfl _ _ rfl (w.heap.size + 1) (.slice pa nf qa) (.slice pb nl qb) (.slice (some ⟨gc, 0, none⟩) nr cc) _ _ _ RR.out rfl rfl rfl rfl rfl ?_))
        refine bodyPost_ret (res_row_slot Try.results160 (Row.put RR.out (c3 (.slice pa nf qa) (.slice pb nl qb) (.slice (some ⟨gc, 0, none⟩) nr cc))) rfl rfl Try.underlying27 rfl info_heap) rfl (endH_yes (below_setRow ((B9.out.alloc L9.out _).setCell (p := ⟨gc, k, none⟩) LL.out _) (by omega) _) (ON.out.wholeRow RR.out _) LK.out (by rw [size_setRow, World.size_setCell, World.size_alloc]; omega) EE.out HE.out)
end Go.Proofs.Ytdagkbgobnaijab
