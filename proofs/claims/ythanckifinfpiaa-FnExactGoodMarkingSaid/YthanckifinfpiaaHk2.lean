/- The project's CleanHeap. -/
import Derived.Test.YthanckifinfpiaaHk1
import Derived.Test.YthanckifinfpiaaHp1
namespace Go.Proofs.Ythanckifinfpiaa.Ph
noncomputable def cleanP (h : H) : H × Nat := if good h = true then keepTo h (reachL h.f h.r) h.f.length else (⟨[], [], []⟩, 0)
theorem cleanP_no {h : H} (k : good h = false) : cleanP h = (⟨[], [], []⟩, 0) := by unfold cleanP; rw [k]; rfl
theorem cleanP_yes {h : H} (k : good h = true) : cleanP h = keepTo h (reachL h.f h.r) h.f.length := by unfold cleanP; rw [k]; rfl
theorem keepTo_rows {h : H} {ks : List Bool} (hr : ∀ i, i < h.f.length → (h.f.getD i []).length ≤ 3) (j : Nat) : ∀ i, i < h.f.length → ((keepTo h ks j).1.f.getD i []).length ≤ 3 := by
  induction j with
  | zero => exact hr
  | succ j ih =>
    intro i hi
    simp only [keepTo, keepStep]
    split
    · simp only
      by_cases hj : j < (keepTo h ks j).1.f.length
      · rw [getD_setL hj]
        by_cases e : i = j
        · rw [if_pos e]; simp
        · rw [if_neg e]; exact ih i hi
      · rw [List.set_eq_of_length_le (by omega)]; exact ih i hi
    · exact ih i hi
end Go.Proofs.Ythanckifinfpiaa.Ph
namespace Go.Proofs.Ythanckifinfpiaa
open Go.RowKit Ph

theorem clean_wt (h : H) : wtH (cleanP h).1 ≤ 1000 := by
  cases hg : good h with
  | false => rw [cleanP_no hg]; exact nil_wt
  | true =>
    rw [cleanP_yes hg]
    obtain ⟨_, e1, e2, e3, e4⟩ := good_wt (good_iff.1 hg)
    obtain ⟨k1, k2, k3, _⟩ := keepTo_len h (reachL h.f h.r) h.f.length
    exact small_wt (by omega) (fun i hi => keepTo_rows e4 _ i (by omega)) (by omega) (by rw [k3]; exact e2)
theorem endHI_no {w w' : World} {h : H} {n : Int} {ok : Bool} (hb : Below w.heap.size w w') (h1 : h = ⟨[], [], []⟩) (h2 : n = 0) (h3 : ok = false) : EndHI h n ok w (.returned (.tuple #[hv (.slice none 0 0) (.slice none 0 0) (.slice none 0 0), .int .i64 0, .bool false])) w' := by
  subst h1; subst h2; subst h3
  exact ⟨_, _, _, rfl, OwnH.nil w' _ _, hb⟩
theorem endHI_yes {w w' : World} {h h' : H} {n n' : Int} {ok : Bool} {a b c : Value} {lo hi : Nat} (hb : Below w.heap.size w w') (ho : OwnH w' lo hi a b c h') (hl : w.heap.size ≤ lo) (hi' : hi ≤ w'.heap.size) (h1 : h = h') (h2 : n = n') (h3 : ok = true) : EndHI h n ok w (.returned (.tuple #[hv a b c, .int .i64 n', .bool true])) w' := by
  subst h1; subst h2; subst h3
  exact ⟨_, _, _, rfl, ho.wide hl hi', hb⟩
theorem res_row_slot2 {P : Program} {fn : Func} {p q r : Tmp} {ty : TypeId} (h : fn.results = #[.cell p ty, .tmp q, .tmp r]) {tmps : Array Value} {w : World} {g : Nat} {t : TypeId} {cs : Array Value} {d : TypeDesc} {v u : Value} (hg : Row w g t cs)
    (hp : tmps.getD p undef = .pointer (some ⟨g, 0, none⟩)) (hq : tmps.getD q undef = v) (hr : tmps.getD r undef = u) (hu : P.underlying ty = some d) (hd : (match d with | .struct _ | .array _ _ => true | _ => false) = true) (hi : (P.info? ty).map (·.size) = some cs.size) :
    (results fn tmps).run P w = .ok (.tuple #[.agg cs, v, u]) w := by
  have hp' : tmps[p]?.getD undef = .pointer (some ⟨g, 0, none⟩) := by simpa using hp
  have hq' : tmps[q]?.getD undef = v := by simpa using hq
  have hr' : tmps[r]?.getD undef = u := by simpa using hr
  simp [results, h, hp', hq', hr', asAddr, run_loadVar_row w g t ty cs (0, 0) d hg hu hd hi]
set_option maxRecDepth 100000 in
set_option maxHeartbeats 6400000 in
theorem c_CleanHeap (a b c : Value) (h : H) (w : World) (hA : HeapAt w a b c h) : Calls Try.prog 14 #[hv a b c] w (EndHI (cleanP h).1 ((cleanP h).2 : Int) (good h) w) := by
  have hb0 := (below1 w (.cells (c3 a b c) 27)).alloc (by simp) (.cells (c3 (.slice none 0 0) (.slice none 0 0) (.slice none 0 0)) 27)
  have A0 := Lib.hid (hA.below hb0)
  have HB := Lib.hid hb0
  have P0 := Lib.hid (show RowH _ _ a b c from (Row.new w 27 (c3 a b c)).alloc (.cells (c3 (.slice none 0 0) (.slice none 0 0) (.slice none 0 0)) 27))
  have R0 := Lib.hid (show RowH _ (w.heap.size + 1) (.slice none 0 0) (.slice none 0 0) (.slice none 0 0) from Row.new1 w (.cells (c3 a b c) 27) 27 (c3 (.slice none 0 0) (.slice none 0 0) (.slice none 0 0)))
  clear hA hb0
  have HC := Lib.hid (c_GoodHeap a b c h _ A0.out)
  have G1 := Lib.hid (good_iff (h := h)).1
  have E1 := Lib.hid (cleanP_no (h := h))
  have E2 := Lib.hid (cleanP_yes (h := h))
  generalize good h = x at *
  have p0 := P0.out.c0
  have p1 := P0.out.c1
  have p2 := P0.out.c2
  cases x
  · have HE := Lib.hid (E1.out rfl)
    go_enter Try.func14, Try.ntmps14
    go_wp2_with (first
      | (go_at_call 20; refine HC.out.mono ?_; rintro e w1 ⟨rfl, hb1⟩; have B1 := Lib.hid (bst HB.out hb1 HB.out.size); have R1 := Lib.hid (R0.out.below hb1); clear hb1)
      | (refine wl_storeH rfl _ _ rfl (w.heap.size + 1) (.slice none 0 0) (.slice none 0 0) (.slice none 0 0) _ _ _ R1.out rfl rfl rfl rfl rfl ?_))
    refine bodyPost_ret (res_row_slot2 Try.results14 (Row.put R1.out (c3 (.slice none 0 0) (.slice none 0 0) (.slice none 0 0))) rfl rfl rfl Try.underlying27 rfl info_heap) rfl (endHI_no (below_setRow B1.out (by omega) _) (by rw [HE.out]) (by rw [HE.out]; rfl) rfl)
  · have HE := Lib.hid (E2.out rfl)
    have G := Lib.hid (G1.out rfl)
    go_enter Try.func14, Try.ntmps14
    go_wp2_with (go_at_call 20; refine HC.out.mono ?_; rintro e w1 ⟨rfl, hb1⟩; have B1 := Lib.hid (bst HB.out hb1 HB.out.size); have A1 := Lib.hid (A0.out.below hb1); have P1 := Lib.hid (P0.out.below hb1); have R1 := Lib.hid (R0.out.below hb1); have d10 := P1.out.c0; have d11 := P1.out.c1; have d12 := P1.out.c2; clear hb1)
    refine (c_copyHeap a b c h _ A1.out G.out).mono ?_
    rintro e w9 ⟨a', b', c', rfl, ho, hb9⟩
    obtain ⟨⟨pa, qa, rfl⟩, ⟨pb, qb, rfl⟩, ⟨pc, qc, rfl⟩⟩ := ho.shapes
    have hbA := below1 w9 (.cells (c3 (.slice pa h.f.length qa) (.slice pb h.l.length qb) (.slice pc h.r.length qc)) 27)
    have BX := Lib.hid ((bst B1.out hb9 B1.out.size).alloc (bst B1.out hb9 B1.out.size).size (.cells (c3 (.slice pa h.f.length qa) (.slice pb h.l.length qb) (.slice pc h.r.length qc)) 27))
    have RX := Lib.hid (show RowH _ _ _ _ _ from Row.alloc (R1.out.below hb9) (.cells (c3 (.slice pa h.f.length qa) (.slice pb h.l.length qb) (.slice pc h.r.length qc)) 27))
    have PX := Lib.hid (show RowH _ _ _ _ _ from Row.alloc (P1.out.below hb9) (.cells (c3 (.slice pa h.f.length qa) (.slice pb h.l.length qb) (.slice pc h.r.length qc)) 27))
    have AX := Lib.hid (A1.out.below (bst hb9 hbA hb9.size))
    have VX := Lib.hid (show RowH _ _ _ _ _ from Row.new w9 27 (c3 (.slice pa h.f.length qa) (.slice pb h.l.length qb) (.slice pc h.r.length qc)))
    have OX := Lib.hid (ho.below hbA)
    have S9 := Lib.hid hb9.size
    clear ho hb9 hbA d10 d11 d12 p0 p1 p2
    go_wp2_with fail
    have hszX : (w9.alloc (.cells (c3 (.slice pa h.f.length qa) (.slice pb h.l.length qb) (.slice pc h.r.length qc)) 27)).heap.size = w9.heap.size + 1 := World.size_alloc _ _
    generalize (w9.alloc (.cells (c3 (.slice pa h.f.length qa) (.slice pb h.l.length qb) (.slice pc h.r.length qc)) 27)) = wx at *
    have HSX := Lib.hid hszX
    clear hszX
    have cA : wx.drew.cell? ⟨w9.heap.size, 0, none⟩ = some (.slice pa h.f.length qa) ∧ wx.drew.cell? ⟨w9.heap.size, 1, none⟩ = some (.slice pb h.l.length qb) ∧ wx.drew.cell? ⟨w9.heap.size, 2, none⟩ = some (.slice pc h.r.length qc) := ⟨VX.out.c0, VX.out.c1, VX.out.c2⟩
    have cP : wx.drew.cell? ⟨w.heap.size, 0, none⟩ = some a ∧ wx.drew.cell? ⟨w.heap.size, 1, none⟩ = some b ∧ wx.drew.cell? ⟨w.heap.size, 2, none⟩ = some c := ⟨PX.out.c0, PX.out.c1, PX.out.c2⟩
    refine wp_region_held_drew (S := (fun w' => (w'.cell? ⟨w9.heap.size, 0, none⟩ = some (.slice pa h.f.length qa) ∧ w'.cell? ⟨w9.heap.size, 1, none⟩ = some (.slice pb h.l.length qb) ∧ w'.cell? ⟨w9.heap.size, 2, none⟩ = some (.slice pc h.r.length qc)) ∧ w'.cell? ⟨w.heap.size, 0, none⟩ = some a ∧ w'.cell? ⟨w.heap.size, 1, none⟩ = some b ∧ w'.cell? ⟨w.heap.size, 2, none⟩ = some c)) (by kernel_rfl) (⟨cA, cP⟩) (fun hHeld => ?_)
    refine wpAnyH_take (i := 0) (v := ?va0x1) rfl (by kernel_rfl) (by kernel_rfl) (by kernel_rfl) (fun _ _ _ h => h) (Or.inl ⟨by rfl, ?hy0x1⟩) (by assumption) ?rest0x1
    case hy0x1 => (intro w hSw; (try dsimp only at hSw); go_simp; try with_reducible rfl)
    (try simp only [Act.put, List.getElem_toArray, List.getElem_cons_zero, List.setIfInBounds_toArray, List.set_cons_zero, List.set_cons_succ])
    refine wpAnyH_take (i := 1) (v := ?va1x2) rfl (by kernel_rfl) (by kernel_rfl) (by kernel_rfl) (fun _ _ _ h => h) (Or.inl ⟨by rfl, ?hy1x2⟩) (by assumption) ?rest1x2
    case hy1x2 => (intro w hSw; (try dsimp only at hSw); go_simp; try with_reducible rfl)
    (try simp only [Act.put, List.getElem_toArray, List.getElem_cons_zero, List.getElem_cons_succ, List.setIfInBounds_toArray, List.set_cons_zero, List.set_cons_succ])
    refine wpAnyH_take (i := 2) (v := ?va2x3) rfl (by kernel_rfl) (by kernel_rfl) (by kernel_rfl) (fun _ _ _ h => h) (Or.inl ⟨by rfl, ?hy2x3⟩) (by assumption) ?rest2x3
    case hy2x3 => (intro w hSw; (try dsimp only at hSw); go_simp; try with_reducible rfl)
    (try simp only [Act.put, List.getElem_toArray, List.getElem_cons_zero, List.getElem_cons_succ, List.setIfInBounds_toArray, List.set_cons_zero, List.set_cons_succ])
    refine wpAnyH_take (i := 3) (v := ?va3x4) rfl (by kernel_rfl) (by kernel_rfl) (by kernel_rfl) (fun _ _ _ h => h) (Or.inl ⟨by rfl, ?hy3x4⟩) (by assumption) ?rest3x4
    case hy3x4 => (intro w hSw; (try dsimp only at hSw); go_simp; try with_reducible rfl)
    (try simp only [Act.put, List.getElem_toArray, List.getElem_cons_zero, List.getElem_cons_succ, List.setIfInBounds_toArray, List.set_cons_zero, List.set_cons_succ])
    refine wpAnyH_ready (rs := [4]) (by kernel_rfl) (by simp) ?_
    refine AllReadyH.cons rfl (fun K hK => ?_) AllReadyH.nil
    go_simp
    have AD := AX.out.below (below_drew (Below.refl wx.heap.size wx))
    refine (c_reachedOver a b c c h h.r _ AD G.out AD.r (by have := G.out.rn; omega) (fun z hz => (refs_bound G.out G.out.rr z hz).imp id (fun h => ⟨h.1, h.2.1⟩))).mono ?_
    rintro e w2 ⟨kv, rfl, hok, hb2⟩
    have hbx := bst (below_drew (Below.refl wx.heap.size wx)) hb2 (below_drew (Below.refl wx.heap.size wx)).size
    have V2 := VX.out.below hbx; have P2 := PX.out.below hbx
    obtain ⟨pk, qk, hpk⟩ := (owns_bools hok).shape
    subst hpk
    refine hK.out _ _ ⟨⟨V2.c0, V2.c1, V2.c2⟩, P2.c0, P2.c1, P2.c2⟩ (fun hHeld => ?_)
    clear hK K
    (try simp only [Act.put, List.getElem_toArray, List.getElem_cons_zero, List.getElem_cons_succ, List.setIfInBounds_toArray, List.set_cons_zero, List.set_cons_succ])
    refine wpAnyH_ready (rs := [5]) (by kernel_rfl) (by simp) ?_
    refine AllReadyH.cons rfl (fun K hK => ?_) AllReadyH.nil
    go_simp
    refine (c_keepThings _ _ _ _ h (reachL h.f h.r) w1.heap.size w9.heap.size _ (OX.out.below hbx) (owns_mono hok fun g hg => by have := (owns_lt hok hg).1; have := HSX.out; have e : wx.drew.heap.size = wx.heap.size := rfl; omega) (by have := hbx.size; have := HSX.out; omega) G.out.ll (reachL_length _ _) G.out.n).mono ?_
    rintro e w3 ⟨rfl, ho3, hch⟩
    have V3 : RowH _ _ _ _ _ := Row.chg V2 hch (.inr (Nat.le_refl _))
    have P3 : RowH _ _ _ _ _ := Row.chg P2 hch (.inl (by have := B1.out.size; have := R1.out.lt; omega))
    have R3 : RowH _ _ _ _ _ := Row.chg (RX.out.below hbx) hch (.inl (by have := R1.out.lt; omega))
    have B3 := below_chg (bst BX.out hbx BX.out.size) hch B1.out.size (by have := B1.out.size; have := S9.out; have := hbx.size; have := HSX.out; omega)
    refine hK.out _ _ ⟨⟨V3.c0, V3.c1, V3.c2⟩, P3.c0, P3.c1, P3.c2⟩ (fun hHeld => ?_)
    clear hK K
    (try simp only [Act.put, List.getElem_toArray, List.getElem_cons_zero, List.getElem_cons_succ, List.setIfInBounds_toArray, List.set_cons_zero, List.set_cons_succ])
    refine wpAnyH_take (i := 6) (v := ?va6x5) rfl (by kernel_rfl) (by kernel_rfl) (by kernel_rfl) (fun _ _ _ h => h) (Or.inl ⟨by rfl, ?hy6x5⟩) (by assumption) ?rest6x5
    case hy6x5 => (intro w hSw; (try dsimp only at hSw); go_simp; try with_reducible rfl)
    (try simp only [Act.put, List.getElem_toArray, List.getElem_cons_zero, List.getElem_cons_succ, List.setIfInBounds_toArray, List.set_cons_zero, List.set_cons_succ])
    refine wpAnyH_done (by kernel_rfl) ?_ _
    have VV := Lib.hid V3; have RR := Lib.hid R3; have OO := Lib.hid ho3; have BB := Lib.hid B3; have CC := Lib.hid hch.size; have XX := Lib.hid hbx.size
    clear V3 P3 R3 ho3 B3 hch V2 P2 hok hb2 hbx AD cA cP hHeld
    have hE := HE.out
    have HE1 : Hid ((cleanP h).1 = (keepTo h (reachL h.f h.r) h.f.length).1) := by unfold Hid; rw [hE]
    have HE2 : Hid (((cleanP h).2 : Int) = ((keepTo h (reachL h.f h.r) h.f.length).2 : Int)) := by unfold Hid; rw [hE]
    clear hE
    generalize (cleanP h).1 = c1 at *
    generalize (cleanP h).2 = c2 at *
    generalize (keepTo h (reachL h.f h.r) h.f.length).1 = k1 at *
    generalize (keepTo h (reachL h.f h.r) h.f.length).2 = k2 at *
    generalize h.f.length = nf at *
    generalize h.l.length = nl at *
    generalize h.r.length = nr at *
    go_wp2_with (first
      | (refine wl_loadH rfl _ rfl w9.heap.size _ _ _ VV.out rfl ?_)
      | (refine wl_storeH rfl _ _ rfl (w.heap.size + 1) (.slice pa nf qa) (.slice pb nl qb) (.slice pc nr qc) _ _ _ RR.out rfl rfl rfl rfl rfl ?_))
    refine bodyPost_ret (res_row_slot2 Try.results14 (Row.put RR.out (c3 (.slice pa nf qa) (.slice pb nl qb) (.slice pc nr qc))) rfl rfl rfl Try.underlying27 rfl info_heap) rfl (endHI_yes (below_setRow BB.out (by omega) _) (OO.out.wholeRow RR.out _) B1.out.size (by rw [size_setRow]; have := CC.out; have := XX.out; have := HSX.out; omega) HE1.out HE2.out rfl)
end Go.Proofs.Ythanckifinfpiaa
