/- What the laws rest on, part 5. -/
import Derived.Test.YtbmfkgfmibpkjaaPC4
namespace Go.Proofs.Ytbmfkgfmibpkjaa.Ph
def startH (h : H) : H := if good h = true then h else ⟨[], [], []⟩
theorem startH_no {h : H} (k : good h = false) : startH h = ⟨[], [], []⟩ := by unfold startH; rw [k]; rfl
theorem startH_yes {h : H} (k : good h = true) : startH h = h := by unfold startH; rw [if_pos k]
end Go.Proofs.Ytbmfkgfmibpkjaa.Ph
namespace Go.Proofs.Ytbmfkgfmibpkjaa
open Go.RowKit Ph

theorem endM_yes {w w' : World} {lo hi : Nat} {a b c d : Value} {h h' : H} {cs cs' : List Int} {ok : Bool} (hb : Below w.heap.size w w') (om : OwnM w' lo hi a b c d h' cs') (h1 : w.heap.size ≤ lo) (h2 : hi ≤ w'.heap.size) (e1 : h = h') (e2 : cs = cs') (e3 : ok = true) : EndM h cs ok w (.returned (.tuple #[mv a b c d, .bool true])) w' := by
  subst e1; subst e2; subst e3
  exact ⟨_, _, _, _, rfl, om.wide h1 h2, hb⟩
set_option maxHeartbeats 3200000 in
set_option maxRecDepth 100000 in
theorem c_StartMarking (a b c : Value) (h : H) (w : World) (hA : HeapAt w a b c h) : Calls Try.prog 72 #[hv a b c] w (EndM (startH h) (startR h) (good h) w) := by
  have hb0 := (below1 w (.cells (c3 a b c) 32)).alloc (by simp) (.cells (m4 nilS nilS nilS nilS) 34)
  have A0 := Lib.hid (hA.below hb0)
  have HB := Lib.hid hb0
  have P0 := Lib.hid (show RowH _ w.heap.size a b c from (Row.new w 32 (c3 a b c)).alloc (.cells (m4 nilS nilS nilS nilS) 34))
  have R0 := Lib.hid (show RowM _ (w.heap.size + 1) nilS nilS nilS nilS from Row.new1 w (.cells (c3 a b c) 32) 34 (m4 nilS nilS nilS nilS))
  clear hA hb0
  have HC := Lib.hid (c_GoodHeap a b c h _ A0.out)
  generalize hg : good h = x at *
  have HX := Lib.hid hg
  clear hg
  have c0 := P0.out.c0
  have c1 := P0.out.c1
  have c2 := P0.out.c2
  cases x
  · have HE := Lib.hid (startR_no HX.out); have HE2 := Lib.hid (startH_no HX.out)
    go_enter Try.func72, Try.ntmps72
    go_wp2_with (first
      | (go_at_call 106; refine HC.out.mono ?_; rintro e w1 ⟨rfl, hb1⟩; have B1 := Lib.hid (bst HB.out hb1 HB.out.size); have A1 := Lib.hid (A0.out.below hb1); have P1 := Lib.hid (show RowH _ _ _ _ _ from Row.below P0.out hb1); have R1 := Lib.hid (show RowM _ _ _ _ _ _ from Row.below R0.out hb1); clear hb1)
      | (refine wl_storeM rfl _ _ rfl (w.heap.size + 1) nilS nilS nilS nilS _ _ _ _ R1.out rfl rfl rfl rfl rfl rfl ?_))
    refine bodyPost_ret (res_row_slot Try.results72 (Row.put R1.out (m4 nilS nilS nilS nilS)) rfl rfl Try.underlying34 rfl info_marking) rfl (endM_none (below_setRow B1.out (by omega) _) HE2.out HE.out rfl)
  · have HE := Lib.hid (startR_yes HX.out); have HE2 := Lib.hid (startH_yes HX.out)
    have G := Lib.hid (good_iff.1 HX.out)
    go_enter Try.func72, Try.ntmps72
    go_wp2_with (go_at_call 106; refine HC.out.mono ?_; rintro e w1 ⟨rfl, hb1⟩; have B1 := Lib.hid (bst HB.out hb1 HB.out.size); have A1 := Lib.hid (A0.out.below hb1); have P1 := Lib.hid (show RowH _ _ _ _ _ from Row.below P0.out hb1); have R1 := Lib.hid (show RowM _ _ _ _ _ _ from Row.below R0.out hb1); clear hb1)
    have A2 := Lib.hid (A1.out.below (below_drew (Below.refl w1.heap.size w1))); have B2 := Lib.hid (below_drew B1.out)
    have P2 := Lib.hid (show RowH w1.drew _ _ _ _ from P1.out); have R2 := Lib.hid (show RowM w1.drew _ _ _ _ _ from R1.out)
    clear A1 B1 P1 R1 c0 c1 c2
    refine wp_region_held_drew (S := (fun w' => w'.cell? ⟨w.heap.size, 0, none⟩ = some a ∧ w'.cell? ⟨w.heap.size, 1, none⟩ = some b ∧ w'.cell? ⟨w.heap.size, 2, none⟩ = some c)) (by kernel_rfl) (⟨P2.out.c0, P2.out.c1, P2.out.c2⟩) (fun hHeld => ?_)
    generalize w1.drew = x0 at *
    refine wpAnyH_take (i := 0) (v := ?va0x1) rfl (by kernel_rfl) (by kernel_rfl) (by kernel_rfl) (fun _ _ _ h => h) (Or.inl ⟨by rfl, ?hy0x1⟩) (by assumption) ?rest0x1
    case hy0x1 => (intro w hSw; (try dsimp only at hSw); go_simp; try with_reducible rfl)
    (try simp only [Act.put, List.getElem_toArray, List.getElem_cons_zero, List.setIfInBounds_toArray, List.set_cons_zero, List.set_cons_succ])
    refine wpAnyH_take (i := 2) (v := ?va2x2) rfl (by kernel_rfl) (by kernel_rfl) (by kernel_rfl) (fun _ _ _ h => h) (Or.inl ⟨by rfl, ?hy2x2⟩) (by assumption) ?rest2x2
    case hy2x2 => (intro w hSw; (try dsimp only at hSw); go_simp; try with_reducible rfl)
    (try simp only [Act.put, List.getElem_toArray, List.getElem_cons_zero, List.getElem_cons_succ, List.setIfInBounds_toArray, List.set_cons_zero, List.set_cons_succ])
    refine wpAnyH_ready (rs := [1]) (by kernel_rfl) (by simp) ?_
    refine AllReadyH.cons rfl (fun K hK => ?_) AllReadyH.nil
    go_simp
    refine (c_copyHeap a b c h _ A2.out G.out).mono ?_
    rintro e w2 ⟨a2, b2, c2, rfl, ho2, hb2⟩
    have B3 := Lib.hid (bst B2.out hb2 B2.out.size); have A3 := Lib.hid (A2.out.below hb2); have O3 := Lib.hid ho2
    have P3 := Lib.hid (show RowH _ _ _ _ _ from Row.below P2.out hb2); have R3 := Lib.hid (show RowM _ _ _ _ _ _ from Row.below R2.out hb2)
    have L3 : Hid (w.heap.size + 1 < x0.heap.size) := R2.out.lt
    have L3b : Hid (x0.heap.size ≤ w2.heap.size) := hb2.size
    clear ho2 hb2
    refine hK.out _ _ (⟨P3.out.c0, P3.out.c1, P3.out.c2⟩) (fun hHeld => ?_)
    clear hK K
    (try simp only [Act.put, List.getElem_toArray, List.getElem_cons_zero, List.getElem_cons_succ, List.setIfInBounds_toArray, List.set_cons_zero, List.set_cons_succ])
    refine wpAnyH_ready (rs := [3]) (by kernel_rfl) (by simp) ?_
    refine AllReadyH.cons rfl (fun K hK => ?_) AllReadyH.nil
    go_simp
    refine (c_coloursAtStart a b c h _ A3.out G.out).mono ?_
    rintro e w3 ⟨d3, rfl, ho3, hb3⟩
    have B4 := Lib.hid (bst B3.out hb3 B3.out.size)
    have P4 := Lib.hid (show RowH _ _ _ _ _ from Row.below P3.out hb3); have R4 := Lib.hid (show RowM _ _ _ _ _ _ from Row.below R3.out hb3)
    have M4 := Lib.hid (OwnM.hc (O3.out.below hb3) (OwnC.ofOwn ho3 hb3.size) L3b.out hb3.size)
    clear ho3 hb3
    obtain ⟨⟨pa, qa, e1⟩, ⟨pb, qb, e2⟩, ⟨pc, qc, e3⟩, ⟨pd, qd, e4⟩⟩ := M4.out.shapes
    subst e1 e2 e3 e4
    generalize h.f.length = nf at *
    generalize h.l.length = nl at *
    generalize h.r.length = nr at *
    generalize (startC h).length = nc at *
    refine hK.out _ _ (⟨P4.out.c0, P4.out.c1, P4.out.c2⟩) (fun hHeld => ?_)
    clear hK K
    (try simp only [Act.put, List.getElem_toArray, List.getElem_cons_zero, List.getElem_cons_succ, List.setIfInBounds_toArray, List.set_cons_zero, List.set_cons_succ])
    refine wpAnyH_take (i := 4) (v := ?va4x3) rfl (by kernel_rfl) (by kernel_rfl) (by kernel_rfl) (fun _ _ _ h => h) (Or.inl ⟨by rfl, ?hy4x3⟩) (by assumption) ?rest4x3
    case hy4x3 => (intro w hSw; (try dsimp only at hSw); go_simp; try with_reducible rfl)
    (try simp only [Act.put, List.getElem_toArray, List.getElem_cons_zero, List.getElem_cons_succ, List.setIfInBounds_toArray, List.set_cons_zero, List.set_cons_succ])
    have P5 := Lib.hid (show RowH _ _ _ _ _ from Row.putOther P4.out (m4 (.slice pa nf qa) (.slice pb nl qb) (.slice pc nr qc) (.slice pd nc qd)) (by omega : w.heap.size ≠ w.heap.size + 1))
    refine wpAnyH_ready (rs := [5]) (by kernel_rfl) (by simp) ?_
    refine AllReadyH.cons rfl (fun K hK => ?_) AllReadyH.nil
    refine wp_store_row 34 _ _ rfl (w.heap.size + 1) (m4 (.slice pa nf qa) (.slice pb nl qb) (.slice pc nr qc) (.slice pd nc qd)) rfl rfl 34 _ R4.out info_marking rfl (by simp [Value.oneCell']) ?_
    refine hK.out _ _ ⟨P5.out.c0, P5.out.c1, P5.out.c2⟩ (fun hHeld => ?_)
    clear hK K
    (try simp only [Act.put, List.getElem_toArray, List.getElem_cons_zero, List.getElem_cons_succ])
    refine wpAnyH_take (i := 6) (v := ?va6x4) rfl (by kernel_rfl) (by kernel_rfl) (by kernel_rfl) (fun _ _ _ h => h) (Or.inl ⟨by rfl, ?hy6x4⟩) (by assumption) ?rest6x4
    case hy6x4 => (intro w hSw; (try dsimp only at hSw); go_simp; try with_reducible rfl)
    (try simp only [Act.put, List.getElem_toArray, List.getElem_cons_zero, List.getElem_cons_succ, List.setIfInBounds_toArray, List.set_cons_zero, List.set_cons_succ])
    refine wpAnyH_done (by kernel_rfl) ?_ _
    clear hHeld
    go_wp2_with fail
    refine bodyPost_ret (res_row_slot Try.results72 (Row.put R4.out (m4 (.slice pa nf qa) (.slice pb nl qb) (.slice pc nr qc) (.slice pd nc qd))) rfl rfl Try.underlying34 rfl info_marking) rfl (endM_yes (below_setRow B4.out (by omega) _) (M4.out.whole (w.heap.size + 1) L3.out _) (by have := L3.out; omega) (by rw [size_setRow]; exact Nat.le_refl _) HE2.out HE.out rfl)
set_option maxHeartbeats 3200000 in
set_option maxRecDepth 100000 in
theorem s_StartMarking (a b c : Value) (h : H) (w : World) (hA : HeapAt w a b c h) : Calls Try.prog 73 #[hv a b c] w (EndM (startH h) (startR h) (good h) w) := by
  have hb0 := (below1 w (.cells (c3 a b c) 32)).alloc (by simp) (.cells (m4 nilS nilS nilS nilS) 34)
  have A0 := Lib.hid (hA.below hb0)
  have HB := Lib.hid hb0
  have P0 := Lib.hid (show RowH _ w.heap.size a b c from (Row.new w 32 (c3 a b c)).alloc (.cells (m4 nilS nilS nilS nilS) 34))
  have R0 := Lib.hid (show RowM _ (w.heap.size + 1) nilS nilS nilS nilS from Row.new1 w (.cells (c3 a b c) 32) 34 (m4 nilS nilS nilS nilS))
  clear hA hb0
  have HC := Lib.hid (s_GoodHeap a b c h _ A0.out)
  generalize hg : good h = x at *
  have HX := Lib.hid hg
  clear hg
  have c0 := P0.out.c0
  have c1 := P0.out.c1
  have c2 := P0.out.c2
  cases x
  · have HE := Lib.hid (startR_no HX.out); have HE2 := Lib.hid (startH_no HX.out)
    go_enter Try.func73, Try.ntmps73
    go_wp2_with (first
      | (go_at_call 104; refine HC.out.mono ?_; rintro e w1 ⟨rfl, hb1⟩; have B1 := Lib.hid (bst HB.out hb1 HB.out.size); have A1 := Lib.hid (A0.out.below hb1); have P1 := Lib.hid (show RowH _ _ _ _ _ from Row.below P0.out hb1); have R1 := Lib.hid (show RowM _ _ _ _ _ _ from Row.below R0.out hb1); clear hb1)
      | (refine wl_storeM rfl _ _ rfl (w.heap.size + 1) nilS nilS nilS nilS _ _ _ _ R1.out rfl rfl rfl rfl rfl rfl ?_))
    refine bodyPost_ret (res_row_slot Try.results73 (Row.put R1.out (m4 nilS nilS nilS nilS)) rfl rfl Try.underlying34 rfl info_marking) rfl (endM_none (below_setRow B1.out (by omega) _) HE2.out HE.out rfl)
  · have HE := Lib.hid (startR_yes HX.out); have HE2 := Lib.hid (startH_yes HX.out)
    have G := Lib.hid (good_iff.1 HX.out)
    go_enter Try.func73, Try.ntmps73
    go_wp2_with (go_at_call 104; refine HC.out.mono ?_; rintro e w1 ⟨rfl, hb1⟩; have B1 := Lib.hid (bst HB.out hb1 HB.out.size); have A1 := Lib.hid (A0.out.below hb1); have P1 := Lib.hid (show RowH _ _ _ _ _ from Row.below P0.out hb1); have R1 := Lib.hid (show RowM _ _ _ _ _ _ from Row.below R0.out hb1); clear hb1)
    have A2 := Lib.hid (A1.out.below (below_drew (Below.refl w1.heap.size w1))); have B2 := Lib.hid (below_drew B1.out)
    have P2 := Lib.hid (show RowH w1.drew _ _ _ _ from P1.out); have R2 := Lib.hid (show RowM w1.drew _ _ _ _ _ from R1.out)
    clear A1 B1 P1 R1 c0 c1 c2
    refine wp_region_held_drew (S := (fun w' => w'.cell? ⟨w.heap.size, 0, none⟩ = some a ∧ w'.cell? ⟨w.heap.size, 1, none⟩ = some b ∧ w'.cell? ⟨w.heap.size, 2, none⟩ = some c)) (by kernel_rfl) (⟨P2.out.c0, P2.out.c1, P2.out.c2⟩) (fun hHeld => ?_)
    generalize w1.drew = x0 at *
    refine wpAnyH_take (i := 0) (v := ?va0x5) rfl (by kernel_rfl) (by kernel_rfl) (by kernel_rfl) (fun _ _ _ h => h) (Or.inl ⟨by rfl, ?hy0x5⟩) (by assumption) ?rest0x5
    case hy0x5 => (intro w hSw; (try dsimp only at hSw); go_simp; try with_reducible rfl)
    (try simp only [Act.put, List.getElem_toArray, List.getElem_cons_zero, List.setIfInBounds_toArray, List.set_cons_zero, List.set_cons_succ])
    refine wpAnyH_take (i := 2) (v := ?va2x6) rfl (by kernel_rfl) (by kernel_rfl) (by kernel_rfl) (fun _ _ _ h => h) (Or.inl ⟨by rfl, ?hy2x6⟩) (by assumption) ?rest2x6
    case hy2x6 => (intro w hSw; (try dsimp only at hSw); go_simp; try with_reducible rfl)
    (try simp only [Act.put, List.getElem_toArray, List.getElem_cons_zero, List.getElem_cons_succ, List.setIfInBounds_toArray, List.set_cons_zero, List.set_cons_succ])
    refine wpAnyH_ready (rs := [1]) (by kernel_rfl) (by simp) ?_
    refine AllReadyH.cons rfl (fun K hK => ?_) AllReadyH.nil
    go_simp
    refine (s_l5Own a b c h _ A2.out G.out).mono ?_
    rintro e w2 ⟨a2, b2, c2, rfl, ho2, hb2⟩
    have B3 := Lib.hid (bst B2.out hb2 B2.out.size); have A3 := Lib.hid (A2.out.below hb2); have O3 := Lib.hid ho2
    have P3 := Lib.hid (show RowH _ _ _ _ _ from Row.below P2.out hb2); have R3 := Lib.hid (show RowM _ _ _ _ _ _ from Row.below R2.out hb2)
    have L3 : Hid (w.heap.size + 1 < x0.heap.size) := R2.out.lt
    have L3b : Hid (x0.heap.size ≤ w2.heap.size) := hb2.size
    clear ho2 hb2
    refine hK.out _ _ (⟨P3.out.c0, P3.out.c1, P3.out.c2⟩) (fun hHeld => ?_)
    clear hK K
    (try simp only [Act.put, List.getElem_toArray, List.getElem_cons_zero, List.getElem_cons_succ, List.setIfInBounds_toArray, List.set_cons_zero, List.set_cons_succ])
    refine wpAnyH_ready (rs := [3]) (by kernel_rfl) (by simp) ?_
    refine AllReadyH.cons rfl (fun K hK => ?_) AllReadyH.nil
    go_simp
    refine (s_l6Start a b c h _ A3.out G.out).mono ?_
    rintro e w3 ⟨d3, rfl, ho3, hb3⟩
    have B4 := Lib.hid (bst B3.out hb3 B3.out.size)
    have P4 := Lib.hid (show RowH _ _ _ _ _ from Row.below P3.out hb3); have R4 := Lib.hid (show RowM _ _ _ _ _ _ from Row.below R3.out hb3)
    have M4 := Lib.hid (OwnM.hc (O3.out.below hb3) (OwnC.ofOwn ho3 hb3.size) L3b.out hb3.size)
    clear ho3 hb3
    obtain ⟨⟨pa, qa, e1⟩, ⟨pb, qb, e2⟩, ⟨pc, qc, e3⟩, ⟨pd, qd, e4⟩⟩ := M4.out.shapes
    subst e1 e2 e3 e4
    generalize h.f.length = nf at *
    generalize h.l.length = nl at *
    generalize h.r.length = nr at *
    generalize (startC h).length = nc at *
    refine hK.out _ _ (⟨P4.out.c0, P4.out.c1, P4.out.c2⟩) (fun hHeld => ?_)
    clear hK K
    (try simp only [Act.put, List.getElem_toArray, List.getElem_cons_zero, List.getElem_cons_succ, List.setIfInBounds_toArray, List.set_cons_zero, List.set_cons_succ])
    refine wpAnyH_take (i := 4) (v := ?va4x7) rfl (by kernel_rfl) (by kernel_rfl) (by kernel_rfl) (fun _ _ _ h => h) (Or.inl ⟨by rfl, ?hy4x7⟩) (by assumption) ?rest4x7
    case hy4x7 => (intro w hSw; (try dsimp only at hSw); go_simp; try with_reducible rfl)
    (try simp only [Act.put, List.getElem_toArray, List.getElem_cons_zero, List.getElem_cons_succ, List.setIfInBounds_toArray, List.set_cons_zero, List.set_cons_succ])
    have P5 := Lib.hid (show RowH _ _ _ _ _ from Row.putOther P4.out (m4 (.slice pa nf qa) (.slice pb nl qb) (.slice pc nr qc) (.slice pd nc qd)) (by omega : w.heap.size ≠ w.heap.size + 1))
    refine wpAnyH_ready (rs := [5]) (by kernel_rfl) (by simp) ?_
    refine AllReadyH.cons rfl (fun K hK => ?_) AllReadyH.nil
    refine wp_store_row 34 _ _ rfl (w.heap.size + 1) (m4 (.slice pa nf qa) (.slice pb nl qb) (.slice pc nr qc) (.slice pd nc qd)) rfl rfl 34 _ R4.out info_marking rfl (by simp [Value.oneCell']) ?_
    refine hK.out _ _ ⟨P5.out.c0, P5.out.c1, P5.out.c2⟩ (fun hHeld => ?_)
    clear hK K
    (try simp only [Act.put, List.getElem_toArray, List.getElem_cons_zero, List.getElem_cons_succ])
    refine wpAnyH_take (i := 6) (v := ?va6x8) rfl (by kernel_rfl) (by kernel_rfl) (by kernel_rfl) (fun _ _ _ h => h) (Or.inl ⟨by rfl, ?hy6x8⟩) (by assumption) ?rest6x8
    case hy6x8 => (intro w hSw; (try dsimp only at hSw); go_simp; try with_reducible rfl)
    (try simp only [Act.put, List.getElem_toArray, List.getElem_cons_zero, List.getElem_cons_succ, List.setIfInBounds_toArray, List.set_cons_zero, List.set_cons_succ])
    refine wpAnyH_done (by kernel_rfl) ?_ _
    clear hHeld
    go_wp2_with fail
    refine bodyPost_ret (res_row_slot Try.results73 (Row.put R4.out (m4 (.slice pa nf qa) (.slice pb nl qb) (.slice pc nr qc) (.slice pd nc qd))) rfl rfl Try.underlying34 rfl info_marking) rfl (endM_yes (below_setRow B4.out (by omega) _) (M4.out.whole (w.heap.size + 1) L3.out _) (by have := L3.out; omega) (by rw [size_setRow]; exact Nat.le_refl _) HE2.out HE.out rfl)
end Go.Proofs.Ytbmfkgfmibpkjaa
namespace Go.Proofs.Ytbmfkgfmibpkjaa
open Go.RowKit Ph

theorem small_good {h : H} (g : Ph.Good h) : Sml h := by obtain ⟨_, h1, h2, h3, h4⟩ := good_wt g; exact ⟨h1, h2, h3, h4⟩
/-- A copy of a marking under way. -/
structure OwnT (w x : World) (a b c d : Value) : Prop where
  p : Row x w.heap.size 34 (m4 a b c d)
  r : RowM x (w.heap.size + 1) nilS nilS nilS nilS
  l : Below w.heap.size w x
  z : w.heap.size + 2 ≤ x.heap.size
theorem OwnT.below {w x y : World} {a b c d : Value} (k : OwnT w x a b c d) (hb : Below x.heap.size x y) : OwnT w y a b c d := ⟨Row.below k.p hb, Row.below k.r hb, bst k.l hb k.l.size, Nat.le_trans k.z hb.size⟩
theorem OwnT.grown {w x y : World} {a b c d : Value} {g : Nat} (k : OwnT w x a b c d) (hg : x.grownBy y (some g)) (hl : w.heap.size + 2 ≤ g) : OwnT w y a b c d := ⟨Row.grownBy k.p hg (by simp; omega), Row.grownBy k.r hg (by simp; omega), k.l.grown hg k.l.size (fun _ e => by cases e; omega), Nat.le_trans k.z hg.size⟩
theorem appInts {w : World} {base g : Nat} {v x : Value} {cs : List Int} (ty : TypeId) (ho : Own w base v []) (hg : v.ownBlock = some g) (hx : IntsAt w x cs) (hm : cs.length ≤ 1048576) (hb : base ≤ w.heap.size) :
    ∃ v' w', (Builtin.append_ #[24, 24] ty #[v, x]).run Try.prog w = .ok v' w' ∧ Own w' base v' cs ∧ w.grownBy w' (some g) ∧ (v'.ownBlock = some g ∨ v'.ownBlock = some w.heap.size) := by
  obtain ⟨i0, hi, hz0, hz1, hz2⟩ := info_parts info_int
  obtain ⟨v', w', hr, h1, h2, h3⟩ := run_appOwn (P := Try.prog) w base 24 ty 3 i0 (.int .i64 0) 8 Try.underlying24 hi hz0 hz1 hz2 rfl v 0 [] ho x _ hx.src (by rw [List.length_map]; unfold maxLen; omega) (by rw [List.length_map]; omega) hb
  rw [hg] at h2 h3
  rw [List.nil_append, Nat.zero_add, List.length_map] at h1
  exact ⟨v', w', hr, h1, h2, h3⟩
set_option maxHeartbeats 3200000 in
set_option maxRecDepth 100000 in
theorem s_l7Own (a b c d : Value) (h : H) (cs : List Int) (w : World) (hA : HeapAt w a b c h) (hC : IntsAt w d cs) (hS : Sml h) (hm : cs.length ≤ 13) : Calls Try.prog 98 #[mv a b c d] w fun e w' => ∃ a' b' c' d', e = .returned (mv a' b' c' d') ∧ OwnM w' w.heap.size w'.heap.size a' b' c' d' h cs ∧ Below w.heap.size w w' := by
  have hb0 := (below1 w (.cells (m4 a b c d) 34)).alloc (by simp) (.cells (m4 nilS nilS nilS nilS) 34)
  have T0 := Lib.hid (OwnT.mk (a := a) (b := b) (c := c) (d := d) ((Row.new w 34 (m4 a b c d)).alloc (.cells (m4 nilS nilS nilS nilS) 34)) (Row.new1 w (.cells (m4 a b c d) 34) 34 (m4 nilS nilS nilS nilS)) hb0 (by simp))
  have HA := Lib.hid hA; have HC := Lib.hid hC; have HS := Lib.hid hS; have HM := Lib.hid hm
  clear hA hC hS hm hb0
  go_enter Try.func98, Try.ntmps98
  go_wp2_with fail
  generalize hx0 : ((w.alloc (.cells (m4 a b c d) 34)).alloc (.cells (m4 nilS nilS nilS nilS) 34)) = x1 at *
  have T1 : Hid (OwnT w x1.drew a b c d) := T0.out.below (below_drew (Below.refl _ _))
  clear T0 hx0
  refine wp_region_held_drew (S := (fun w' => w'.cell? ⟨w.heap.size, 0, none⟩ = some a ∧ w'.cell? ⟨w.heap.size, 1, none⟩ = some b ∧ w'.cell? ⟨w.heap.size, 2, none⟩ = some c ∧ w'.cell? ⟨w.heap.size, 3, none⟩ = some d)) (by kernel_rfl) (⟨T1.out.p.cell 0, T1.out.p.cell 1, T1.out.p.cell 2, T1.out.p.cell 3⟩) (fun hHeld => ?_)
  generalize x1.drew = x0 at *
  refine wpAnyH_take (i := 0) (v := ?va0x1) rfl (by kernel_rfl) (by kernel_rfl) (by kernel_rfl) (fun _ _ _ h => h) (Or.inl ⟨by rfl, ?hy0x1⟩) (by assumption) ?rest0x1
  case hy0x1 => (intro w hSw; (try dsimp only at hSw); go_simp; try with_reducible rfl)
  (try simp only [Act.put, List.getElem_toArray, List.getElem_cons_zero, List.setIfInBounds_toArray, List.set_cons_zero, List.set_cons_succ])
  refine wpAnyH_take (i := 1) (v := ?va1x2) rfl (by kernel_rfl) (by kernel_rfl) (by kernel_rfl) (fun _ _ _ h => h) (Or.inl ⟨by rfl, ?hy1x2⟩) (by assumption) ?rest1x2
  case hy1x2 => (intro w hSw; (try dsimp only at hSw); go_simp; try with_reducible rfl)
  (try simp only [Act.put, List.getElem_toArray, List.getElem_cons_zero, List.getElem_cons_succ, List.setIfInBounds_toArray, List.set_cons_zero, List.set_cons_succ])
  refine wpAnyH_take (i := 4) (v := ?va4x3) rfl (by kernel_rfl) (by kernel_rfl) (by kernel_rfl) (fun _ _ _ h => h) (Or.inl ⟨by rfl, ?hy4x3⟩) (by assumption) ?rest4x3
  case hy4x3 => (intro w hSw; (try dsimp only at hSw); go_simp; try with_reducible rfl)
  (try simp only [Act.put, List.getElem_toArray, List.getElem_cons_zero, List.getElem_cons_succ, List.setIfInBounds_toArray, List.set_cons_zero, List.set_cons_succ])
  refine wpAnyH_take (i := 5) (v := ?va5x4) rfl (by kernel_rfl) (by kernel_rfl) (by kernel_rfl) (fun _ _ _ h => h) (Or.inl ⟨by rfl, ?hy5x4⟩) (by assumption) ?rest5x4
  case hy5x4 => (intro w hSw; (try dsimp only at hSw); go_simp; try with_reducible rfl)
  (try simp only [Act.put, List.getElem_toArray, List.getElem_cons_zero, List.getElem_cons_succ, List.setIfInBounds_toArray, List.set_cons_zero, List.set_cons_succ])
  have ZL : Hid (w.heap.size + 2 ≤ x0.heap.size) := T1.out.z
  refine wpAnyH_ready (rs := [2, 3]) (by kernel_rfl) (by simp) ?_
  refine AllReadyH.cons rfl (fun K hK => ?_) (AllReadyH.cons rfl (fun K hK => ?_) AllReadyH.nil)
  · skip
    go_simp
    refine (s_l5OwnS a b c h _ (HA.out.below T1.out.l) HS.out).mono ?_
    rintro e w2 ⟨a2, b2, c2, rfl, ho2, hb2⟩
    have ba := below1 w2 (.cells #[] 3)
    have T2 := Lib.hid ((T1.out.below hb2).below ba); have O2 := Lib.hid (ho2.below ba); have E2 := Lib.hid (own_nil0 w2)
    have T1b := Lib.hid (T1.out.below hb2)
    have SZ2 : Hid (x0.heap.size ≤ w2.heap.size) := hb2.size
    clear ho2 ba hb2
    refine hK.out _ _ (⟨T1b.out.p.cell 0, T1b.out.p.cell 1, T1b.out.p.cell 2, T1b.out.p.cell 3⟩) (fun hHeld => ?_)
    clear hK K
    (try simp only [Act.put, List.getElem_toArray, List.getElem_cons_zero, List.getElem_cons_succ, List.setIfInBounds_toArray, List.set_cons_zero, List.set_cons_succ])
    refine wpAnyH_ready (rs := [3]) (by kernel_rfl) (by simp) ?_
    refine AllReadyH.cons rfl (fun K hK => ?_) AllReadyH.nil
    go_simp
    refine hK.out _ _ (⟨T2.out.p.cell 0, T2.out.p.cell 1, T2.out.p.cell 2, T2.out.p.cell 3⟩) (fun hHeld => ?_)
    clear hK K
    (try simp only [Act.put, List.getElem_toArray, List.getElem_cons_zero, List.getElem_cons_succ, List.setIfInBounds_toArray, List.set_cons_zero, List.set_cons_succ])
    obtain ⟨v3, w3, hrun, ho3, hg3, _⟩ := appInts (g := w2.heap.size) 24 E2.out rfl (HC.out.below T2.out.l) (by have := HM.out; omega) (by simp)
    have T3 := Lib.hid (T2.out.grown hg3 (by have := ZL.out; have := SZ2.out; omega))
    have M3 := Lib.hid (OwnM.hc (O2.out.chg (Chg.of_grown (lo := w2.heap.size) (hi := w2.heap.size + 1) hg3 (fun g e => by cases e; omega)) (.inl (Nat.le_refl _))) (OwnC.ofOwn ho3 (by have := hg3.size; simp at this; omega)) SZ2.out (by have := hg3.size; simp at this; omega))
    clear ho3 hg3 T2 O2 E2
    refine wpAnyH_ready (rs := [6]) (by kernel_rfl) (by simp) ?_
    refine AllReadyH.cons rfl (fun K hK => ?_) AllReadyH.nil
    rw [if_pos (by rfl)]
    refine op_app _ _ _ rfl rfl rfl hrun ?_
    refine hK.out _ _ (⟨T3.out.p.cell 0, T3.out.p.cell 1, T3.out.p.cell 2, T3.out.p.cell 3⟩) (fun hHeld => ?_)
    clear hK K hrun
    (try simp only [Act.put, List.getElem_toArray, List.getElem_cons_zero, List.getElem_cons_succ, List.setIfInBounds_toArray, List.set_cons_zero, List.set_cons_succ])
    obtain ⟨⟨pa, qa, e1⟩, ⟨pb, qb, e2⟩, ⟨pc, qc, e3⟩, ⟨pd, qd, e4⟩⟩ := M3.out.shapes
    subst e1 e2 e3 e4
    generalize h.f.length = nf at *
    generalize h.l.length = nl at *
    generalize h.r.length = nr at *
    generalize cs.length = nc at *
    refine wpAnyH_take (i := 7) (v := ?va7x5) rfl (by kernel_rfl) (by kernel_rfl) (by kernel_rfl) (fun _ _ _ h => h) (Or.inl ⟨by rfl, ?hy7x5⟩) (by assumption) ?rest7x5
    case hy7x5 => (intro w hSw; (try dsimp only at hSw); go_simp; try with_reducible rfl)
    (try simp only [Act.put, List.getElem_toArray, List.getElem_cons_zero, List.getElem_cons_succ, List.setIfInBounds_toArray, List.set_cons_zero, List.set_cons_succ])
    have P5 := Lib.hid (show Row _ w.heap.size 34 (m4 a b c d) from Row.putOther T3.out.p (m4 (.slice pa nf qa) (.slice pb nl qb) (.slice pc nr qc) (.slice pd nc qd)) (by omega : w.heap.size ≠ w.heap.size + 1))
    refine wpAnyH_ready (rs := [8]) (by kernel_rfl) (by simp) ?_
    refine AllReadyH.cons rfl (fun K hK => ?_) AllReadyH.nil
    refine wp_store_row 34 _ _ rfl (w.heap.size + 1) (m4 (.slice pa nf qa) (.slice pb nl qb) (.slice pc nr qc) (.slice pd nc qd)) rfl rfl 34 _ T3.out.r info_marking rfl (by simp [Value.oneCell']) ?_
    refine hK.out _ _ ⟨P5.out.cell 0, P5.out.cell 1, P5.out.cell 2, P5.out.cell 3⟩ (fun hHeld => ?_)
    clear hK K
    (try simp only [Act.put, List.getElem_toArray, List.getElem_cons_zero, List.getElem_cons_succ])
    refine wpAnyH_done (by kernel_rfl) ?_ _
    clear hHeld
    go_wp2_with fail
    refine bodyPost_ret (res_row Try.results98 (Row.put T3.out.r (m4 (.slice pa nf qa) (.slice pb nl qb) (.slice pc nr qc) (.slice pd nc qd))) rfl Try.underlying34 rfl info_marking) rfl ⟨_, _, _, _, rfl, (M3.out.whole (w.heap.size + 1) (by have := ZL.out; omega) _).wide (by have := ZL.out; omega) (by rw [size_setRow]; exact Nat.le_refl _), below_setRow T3.out.l (by omega) _⟩
  · skip
    have ba := below1 x0 (.cells #[] 3)
    have T2 := Lib.hid (T1.out.below ba); have E1 := Lib.hid (own_nil0 x0)
    clear ba
    go_simp
    refine hK.out _ _ (⟨T2.out.p.cell 0, T2.out.p.cell 1, T2.out.p.cell 2, T2.out.p.cell 3⟩) (fun hHeld => ?_)
    clear hK K
    (try simp only [Act.put, List.getElem_toArray, List.getElem_cons_zero, List.getElem_cons_succ, List.setIfInBounds_toArray, List.set_cons_zero, List.set_cons_succ])
    refine wpAnyH_ready (rs := [2]) (by kernel_rfl) (by simp) ?_
    refine AllReadyH.cons rfl (fun K hK => ?_) AllReadyH.nil
    go_simp
    refine (s_l5OwnS a b c h _ (HA.out.below T2.out.l) HS.out).mono ?_
    rintro e w2 ⟨a2, b2, c2, rfl, ho2, hb2⟩
    have T2b := Lib.hid (T2.out.below hb2); have O2 := Lib.hid ho2; have E2 := Lib.hid (Own.below E1.out hb2)
    have SZ2 : Hid (x0.heap.size + 1 ≤ w2.heap.size) := (by { unfold Hid; have := hb2.size; rw [World.size_alloc] at this; exact this })
    clear ho2 hb2 E1
    refine hK.out _ _ (⟨T2b.out.p.cell 0, T2b.out.p.cell 1, T2b.out.p.cell 2, T2b.out.p.cell 3⟩) (fun hHeld => ?_)
    clear hK K
    (try simp only [Act.put, List.getElem_toArray, List.getElem_cons_zero, List.getElem_cons_succ, List.setIfInBounds_toArray, List.set_cons_zero, List.set_cons_succ])
    obtain ⟨v3, w3, hrun, ho3, hg3, h3⟩ := appInts (g := x0.heap.size) 24 E2.out rfl (HC.out.below T2b.out.l) (by have := HM.out; omega) (by have := SZ2.out; omega)
    have T3 := Lib.hid (T2b.out.grown hg3 (by have := ZL.out; omega))
    have M3 : Hid (OwnM w3 x0.heap.size w3.heap.size a2 b2 c2 v3 h cs) := (by {
      unfold Hid
      have hsz := hg3.size
      have hO := O2.out.chg (Chg.of_grown (lo := x0.heap.size) (hi := x0.heap.size + 1) hg3 (fun g e => by cases e; omega)) (.inr (by rw [World.size_alloc]; exact Nat.le_refl _))
      rw [World.size_alloc] at hO
      have := SZ2.out
      rcases h3 with h3 | h3
      · exact (OwnM.ch hO (OwnC.of ho3 (fun g hg => by rw [hg] at h3; cases h3; omega) (by omega)) (by omega) (by omega)).wide (Nat.le_refl _) (by omega)
      · exact (OwnM.hc hO (OwnC.ofOwn (owns_mono ho3 (fun g hg => by rw [hg] at h3; cases h3; exact Nat.le_refl _)) hsz) (by omega) hsz).wide (by omega) (Nat.le_refl _) })
    clear ho3 hg3 T2 T2b O2 E2 h3
    refine wpAnyH_ready (rs := [6]) (by kernel_rfl) (by simp) ?_
    refine AllReadyH.cons rfl (fun K hK => ?_) AllReadyH.nil
    rw [if_pos (by rfl)]
    refine op_app _ _ _ rfl rfl rfl hrun ?_
    refine hK.out _ _ (⟨T3.out.p.cell 0, T3.out.p.cell 1, T3.out.p.cell 2, T3.out.p.cell 3⟩) (fun hHeld => ?_)
    clear hK K hrun
    (try simp only [Act.put, List.getElem_toArray, List.getElem_cons_zero, List.getElem_cons_succ, List.setIfInBounds_toArray, List.set_cons_zero, List.set_cons_succ])
    obtain ⟨⟨pa, qa, e1⟩, ⟨pb, qb, e2⟩, ⟨pc, qc, e3⟩, ⟨pd, qd, e4⟩⟩ := M3.out.shapes
    subst e1 e2 e3 e4
    generalize h.f.length = nf at *
    generalize h.l.length = nl at *
    generalize h.r.length = nr at *
    generalize cs.length = nc at *
    refine wpAnyH_take (i := 7) (v := ?va7x6) rfl (by kernel_rfl) (by kernel_rfl) (by kernel_rfl) (fun _ _ _ h => h) (Or.inl ⟨by rfl, ?hy7x6⟩) (by assumption) ?rest7x6
    case hy7x6 => (intro w hSw; (try dsimp only at hSw); go_simp; try with_reducible rfl)
    (try simp only [Act.put, List.getElem_toArray, List.getElem_cons_zero, List.getElem_cons_succ, List.setIfInBounds_toArray, List.set_cons_zero, List.set_cons_succ])
    have P5 := Lib.hid (show Row _ w.heap.size 34 (m4 a b c d) from Row.putOther T3.out.p (m4 (.slice pa nf qa) (.slice pb nl qb) (.slice pc nr qc) (.slice pd nc qd)) (by omega : w.heap.size ≠ w.heap.size + 1))
    refine wpAnyH_ready (rs := [8]) (by kernel_rfl) (by simp) ?_
    refine AllReadyH.cons rfl (fun K hK => ?_) AllReadyH.nil
    refine wp_store_row 34 _ _ rfl (w.heap.size + 1) (m4 (.slice pa nf qa) (.slice pb nl qb) (.slice pc nr qc) (.slice pd nc qd)) rfl rfl 34 _ T3.out.r info_marking rfl (by simp [Value.oneCell']) ?_
    refine hK.out _ _ ⟨P5.out.cell 0, P5.out.cell 1, P5.out.cell 2, P5.out.cell 3⟩ (fun hHeld => ?_)
    clear hK K
    (try simp only [Act.put, List.getElem_toArray, List.getElem_cons_zero, List.getElem_cons_succ])
    refine wpAnyH_done (by kernel_rfl) ?_ _
    clear hHeld
    go_wp2_with fail
    refine bodyPost_ret (res_row Try.results98 (Row.put T3.out.r (m4 (.slice pa nf qa) (.slice pb nl qb) (.slice pc nr qc) (.slice pd nc qd))) rfl Try.underlying34 rfl info_marking) rfl ⟨_, _, _, _, rfl, (M3.out.whole (w.heap.size + 1) (by have := ZL.out; omega) _).wide (by have := ZL.out; omega) (by rw [size_setRow]; exact Nat.le_refl _), below_setRow T3.out.l (by omega) _⟩
end Go.Proofs.Ytbmfkgfmibpkjaa
namespace Go.Proofs.Ytbmfkgfmibpkjaa
open Go.RowKit Ph

theorem OwnC.blk {w : World} {lo hi : Nat} {d : Value} {cs : List Int} (k : OwnC w lo hi d cs) {g : Nat} (hg : d.ownBlock = some g) : lo ≤ g ∧ g < hi := by
  obtain ⟨us, k⟩ := k
  have := Fam.blk k (k := 2) (g := g) (by simp) hg
  exact ⟨this.1, this.2.1⟩
set_option maxHeartbeats 3200000 in
set_option maxRecDepth 100000 in
theorem s_l6ScanM (lo hi : Nat) (a b c d : Value) (h : H) (cs : List Int) (k : Nat) (w : World) (hO : OwnM w lo hi a b c d h cs) (hk : k < cs.length) (hkf : k < h.f.length) (hr : ∀ z ∈ h.f.getD k [], inR cs.length z) (hl : (h.f.getD k []).length ≤ 3) :
    Calls Try.prog 140 #[hv a b c, d, .int .i64 k] w fun e w' => e = .returned (.tuple #[]) ∧ OwnM w' lo hi a b c d h (scan cs (h.f.getD k []) k) ∧ Chg lo hi w w' := by
  obtain ⟨l1, h1, l2, h2, k1, k2, q1, q2, q3, q4, q5⟩ := hO
  obtain ⟨us, hf⟩ := k1
  have ho : Own w l2 d cs := k2.own
  have HBK := Lib.hid (fun g => OwnC.blk k2 (g := g))
  have HK2 := Lib.hid k2
  have HQ := Lib.hid (And.intro q1 (And.intro q2 (And.intro q3 (And.intro q4 q5))))
  clear k2
  rcases ho.shape' with ⟨_, h0'⟩ | ⟨g, cap, rfl⟩
  · rw [h0'] at hk; simp at hk
  rcases hf.shape with ⟨_, h0'⟩ | ⟨fb, fc, rfl⟩
  · rw [h0'] at hkf; simp at hkf
  have HFM : Hid (∀ w', w.grownBy w' (some g) → FamH w' l1 h1 (.slice (some ⟨fb, 0, none⟩) h.f.length fc) b c us h) := fun w' hg => Fam.chg hf (Chg.of_grown (lo := l2) (hi := h2) hg fun g' e => by cases e; exact HBK.out g rfl) (by omega)
  obtain ⟨ua, uc, hus⟩ := (hf.row hkf).ints.shape
  have HUS := Lib.hid hus
  have hgl : g < w.heap.size := (owns_lt ho rfl).2
  obtain ⟨s1, s2, s3, s4⟩ := ho.store1 rfl hk 2
  have hba := below1 (w.setCell ⟨g, k, none⟩ (.int .i64 2)) (.cells (c3 (.slice (some ⟨fb, 0, none⟩) h.f.length fc) b c) 32)
  have SS1 := Lib.hid (s1.below hba)
  have GG1 : Hid (w.grownBy ((w.setCell ⟨g, k, none⟩ (.int .i64 2)).alloc (.cells (c3 (.slice (some ⟨fb, 0, none⟩) h.f.length fc) b c) 32)) (some g)) := grownBy_trans s2 ⟨rfl, rfl, rfl, by simp, fun i hi _ => hba.block i hi⟩
  have eu := ((HFM.out _ GG1.out).cell rfl hkf).1
  rw [HUS.out] at eu
  have HR := Lib.hid hr
  have HSC : Hid (scan cs (h.f.getD k []) k = shades (cs.set k 2) (h.f.getD k [])) := rfl
  have HLL : Hid ((cs.set k 2).length = cs.length) := List.length_set
  have HZ : Hid (∀ w', w.grownBy w' (some g) → IntsAt w' (.slice ua (h.f.getD k []).length uc) (h.f.getD k [])) := fun w' hg => by rw [← HUS.out]; exact ((HFM.out w' hg).row hkf).ints
  have HDONE : Hid (∀ w', w.grownBy w' (some g) → Own w' l2 (.slice (some ⟨g, 0, none⟩) cs.length cap) (shades (cs.set k 2) (h.f.getD k [])) → OwnM w' lo hi (.slice (some ⟨fb, 0, none⟩) h.f.length fc) b c (.slice (some ⟨g, 0, none⟩) cs.length cap) h (scan cs (h.f.getD k []) k) ∧ Chg lo hi w w') := fun w' hg ho' => by
    obtain ⟨r1, r2⟩ := OwnC.set HK2.out ho' hg
    exact ⟨⟨l1, h1, l2, h2, ⟨us, HFM.out w' hg⟩, by rw [HSC.out]; exact r1, HQ.out⟩, r2.wide q3 q4⟩
  clear ho hr hf hba s1 s2 HFM HK2 q1 q2 q3 q4 q5 hus HSC
  generalize scan cs (h.f.getD k []) k = out at *
  generalize h.f.getD k [] = row at *
  generalize hm : row.length = m at *
  have HM := Lib.hid hm; clear hm
  generalize cs.set k 2 = cs1 at *
  generalize cs.length = n at *
  generalize h.f.length = fl at *
  have i1 : (k : Int) < (n : Int) := by omega
  have i2 : (k : Int) < (fl : Int) := by omega
  have i0 : (0 : Int) ≤ (k : Int) := by omega
  go_enter Try.func140, Try.ntmps140
  go_wp2_with fail
  generalize ((w.setCell ⟨g, k, none⟩ (.int .i64 2)).alloc (.cells (c3 (.slice (some ⟨fb, 0, none⟩) fl fc) b c) 32)) = w1 at *
  clear eu s3 s4
  go_loopw [17] (fun i wr => ∃ j : Nat, j ≤ m ∧ i = .int .i64 j ∧ Hid (Own wr l2 (.slice (some ⟨g, 0, none⟩) n cap) (shades cs1 (row.take j))) ∧ Hid (w1.grownBy wr (some g))) (fun i _ => m - (intOf i).toNat)
  case atStart => exact ⟨0, Nat.zero_le _, rfl, by rw [List.take_zero, shades_nil]; exact SS1, World.grownBy.refl _ _⟩
  case round =>
    obtain ⟨j, hj, rfl, how, hgr⟩ := hrel
    by_cases hlt : j < m
    · obtain ⟨zb, zo, rfl, hcz⟩ := (HZ.out wr (grownBy_trans GG1.out hgr.out)).at' (by omega)
      have q := hcz j hlt
      have hjl : j < row.length := by rw [HM.out]; exact hlt
      have hin := HR.out (row.getD j 0) (by rw [List.getD, List.getElem?_eq_getElem hjl]; exact List.getElem_mem hjl)
      have HS := Lib.hid (shades_take_succ (cs := cs1) hjl)
      have HIN : Hid (row.getD j 0 < ((shades cs1 (row.take j)).length : Int)) := by unfold Hid; rw [shades_len, HLL.out]; rcases hin with h | h <;> omega
      have j1 : (j : Int) < (m : Int) := by omega
      clear hcz hjl hin
      generalize row.getD j 0 = z at *
      go_wp2_with fail
      refine (s_l6Shade _ _ z _ wr how.out HIN.out).mono ?_
      rintro e w6 ⟨rfl, ho6, hg6⟩
      have O6 := Lib.hid ho6
      have G6 : Hid (w1.grownBy w6 (some g)) := grownBy_trans hgr.out hg6
      clear ho6 hg6 q
      go_wp2_with fail
      go_roundw
      case rel => exact ⟨j + 1, by omega, by go_num, by rw [HS.out]; exact O6, G6⟩
      case measure => simp [intOf]; omega
    · obtain rfl : j = m := by omega
      have HE : Hid (row.take j = row) := List.take_of_length_le (by rw [HM.out]; exact Nat.le_refl _)
      go_wp2_with fail
      go_end0
      exact ⟨rfl, HDONE.out _ (grownBy_trans GG1.out hgr.out) (by rw [← HE.out]; exact how.out)⟩
end Go.Proofs.Ytbmfkgfmibpkjaa
namespace Go.Proofs.Ytbmfkgfmibpkjaa.Ph
theorem tmodN {z : Int} (h : 0 ≤ z) (q : Nat) : z.tmod (q : Int) = ((z.toNat % q : Nat) : Int) := by
  rw [Int.tmod_eq_emod_of_nonneg h, Int.natCast_emod, Int.toNat_of_nonneg h]
theorem grey_at {cs : List Int} (hn : ofC cs 1 ≠ []) (z : Int) : (ofC cs 1).getD (z.toNat % (ofC cs 1).length) 0 = (greyN cs z : Int) ∧ z.toNat % (ofC cs 1).length < (ofC cs 1).length := by
  have h0 : 0 < (ofC cs 1).length := List.length_pos_iff.2 hn
  obtain ⟨k, hk, _, _⟩ := greyAt (cs := cs) (z.toNat % (ofC cs 1).length) (Nat.mod_lt _ h0)
  refine ⟨?_, Nat.mod_lt _ h0⟩
  unfold greyN
  rw [hk]; rfl
end Go.Proofs.Ytbmfkgfmibpkjaa.Ph
namespace Go.Proofs.Ytbmfkgfmibpkjaa
open Go.RowKit Ph

set_option maxHeartbeats 6400000 in
set_option maxRecDepth 100000 in
theorem s_l7Scan (lo hi : Nat) (a b c d : Value) (h : H) (cs : List Int) (z : Int) (w : World) (hO : OwnM w lo hi a b c d h cs) (hB : bothB h cs = true) (h0 : 0 ≤ z) (hs : hi ≤ w.heap.size) :
    Calls Try.prog 150 #[mv a b c d, .int .i64 z] w fun e w' => e = .returned (.bool (!(ofC cs 1).isEmpty)) ∧ OwnM w' lo hi a b c d h (scanAt h cs z) ∧ Chg lo hi w w' := by
  have hb0 := below1 w (.cells (m4 a b c d) 34)
  have O0 := Lib.hid (hO.below hb0)
  have C0 := Lib.hid (Chg.of_below (lo := lo) (hi := hi) hb0)
  have R0 := Lib.hid (Row.new w 34 (m4 a b c d))
  obtain ⟨hG, hl, hc⟩ := bothB_iff.1 hB
  have hcl : cs.length ≤ 12 := by rw [hl]; exact hG.n
  have HS := Lib.hid hs; have HG := Lib.hid hG; have HL := Lib.hid hl; have HCL := Lib.hid hcl
  have HN := Lib.hid (scanAt_no (h := h) (cs := cs) (a := z)); have HY := Lib.hid (scanAt_yes (h := h) (cs := cs) (a := z))
  have HGA := Lib.hid (grey_at (cs := cs)); have HGI := Lib.hid (greyN_is (cs := cs))
  have HT := Lib.hid (tmodN h0)
  clear hO hB hb0 hG hl hc hs hcl
  generalize hbb : (!(ofC cs 1).isEmpty) = bb at *
  generalize scanAt h cs z = out at *
  have HBB := Lib.hid hbb; clear hbb
  go_enter Try.func150, Try.ntmps150
  go_wp2_with fail
  refine (s_l6Of d cs 1 _ O0.out.cols HCL.out).mono ?_
  rintro e w1 ⟨v1, rfl, ho1, hb1⟩
  have O1 := Lib.hid (O0.out.below hb1)
  have C1 := Lib.hid (C0.out.trans (Chg.of_below hb1))
  have R1 := Lib.hid (Row.below R0.out hb1)
  obtain ⟨ta, tc, rfl⟩ := ho1.ints.shape
  have T1 := Lib.hid ho1.ints
  clear ho1 hb1
  by_cases hq : ofC cs 1 = []
  · have HE := Lib.hid (HN.out hq)
    have HF : Hid (false = bb) := by unfold Hid; rw [← HBB.out, hq]; rfl
    have hql : (ofC cs 1).length = 0 := by rw [hq]; rfl
    clear hq
    generalize (ofC cs 1).length = q at *
    subst hql
    go_wp2_with fail
    go_ret
    exact ⟨r_b HF.out, by rw [HE.out]; exact O1.out, C1.out⟩
  have HE := Lib.hid (HY.out hq)
  obtain ⟨g1, g2⟩ := HGA.out hq z
  obtain ⟨k1, k2⟩ := HGI.out hq z
  have HF : Hid (true = bb) := by
    unfold Hid; rw [← HBB.out]
    cases hx : ofC cs 1 with
    | nil => exact absurd hx hq
    | cons _ _ => rfl
  have hm := HT.out (ofC cs 1).length
  have hql : 0 < (ofC cs 1).length := List.length_pos_iff.2 hq
  clear HN HY HGA HGI HT hq HBB
  generalize greyN cs z = k at *
  generalize z.toNat % (ofC cs 1).length = r at *
  generalize hts : ofC cs 1 = ts at *
  clear hts
  generalize hqq : ts.length = q at *
  have HQ := Lib.hid hqq; clear hqq
  obtain ⟨tb, to, rfl, hct⟩ := T1.out.at' hql
  have qt := hct r g2
  rw [g1] at qt
  have HK := Lib.hid k1
  have HKF : Hid (k < h.f.length) := by unfold Hid; rw [← HL.out]; exact k1
  have HIN : Hid (∀ z ∈ h.f.getD k [], inR cs.length z) := fun z hz => by rw [HL.out]; exact (HG.out.field hz).imp id (fun h => ⟨h.1, h.2.1⟩)
  have HRL : Hid ((h.f.getD k []).length ≤ 3) := (HG.out.row k HKF.out).1
  have hq1 : ((q : Int) == 0) = false := by simp; omega
  have hqn : ¬ q = 0 := by omega
  have r0 : (0 : Int) ≤ (r : Int) := by omega
  have r1 : (r : Int) < (q : Int) := by omega
  clear hct g1 k1 k2
  go_wp2_with fail
  have OD := Lib.hid (O1.out.below (below_drew (Below.refl w1.heap.size w1)))
  have CD := Lib.hid (C1.out.trans (Chg.of_below (below_drew (Below.refl w1.heap.size w1))))
  have RD : Hid (Row w1.drew w.heap.size 34 (m4 a b c d)) := R1.out
  have dt : w1.drew.cell? ⟨tb, to + r, none⟩ = some (.int .i64 (k : Int)) := qt
  clear O1 C1 R1 qt
  refine wp_region_held_drew (S := (fun w' => w'.cell? ⟨w.heap.size, 0, none⟩ = some a ∧ w'.cell? ⟨w.heap.size, 1, none⟩ = some b ∧ w'.cell? ⟨w.heap.size, 2, none⟩ = some c ∧ w'.cell? ⟨w.heap.size, 3, none⟩ = some d)) (by kernel_rfl) (⟨RD.out.cell 0, RD.out.cell 1, RD.out.cell 2, RD.out.cell 3⟩) (fun hHeld => ?_)
  generalize w1.drew = x0 at *
  refine wpAnyH_take (i := 0) (v := ?va0x1) rfl (by kernel_rfl) (by kernel_rfl) (by kernel_rfl) (fun _ _ _ h => h) (Or.inl ⟨by rfl, ?hy0x1⟩) (by assumption) ?rest0x1
  case hy0x1 => (intro w hSw; (try dsimp only at hSw); go_simp; try with_reducible rfl)
  (try simp only [Act.put, List.getElem_toArray, List.getElem_cons_zero, List.setIfInBounds_toArray, List.set_cons_zero, List.set_cons_succ])
  refine wpAnyH_take (i := 1) (v := ?va1x2) rfl (by kernel_rfl) (by kernel_rfl) (by kernel_rfl) (fun _ _ _ h => h) (Or.inl ⟨by rfl, ?hy1x2⟩) (by assumption) ?rest1x2
  case hy1x2 => (intro w hSw; (try dsimp only at hSw); go_simp; try with_reducible rfl)
  (try simp only [Act.put, List.getElem_toArray, List.getElem_cons_zero, List.getElem_cons_succ, List.setIfInBounds_toArray, List.set_cons_zero, List.set_cons_succ])
  refine wpAnyH_take (i := 2) (v := ?va2x3) rfl (by kernel_rfl) (by kernel_rfl) (by kernel_rfl) (fun _ _ _ h => h) (Or.inl ⟨by rfl, ?hy2x3⟩) (by assumption) ?rest2x3
  case hy2x3 => (intro w hSw; (try dsimp only at hSw); go_simp; try with_reducible rfl)
  (try simp only [Act.put, List.getElem_toArray, List.getElem_cons_zero, List.getElem_cons_succ, List.setIfInBounds_toArray, List.set_cons_zero, List.set_cons_succ])
  refine wpAnyH_take (i := 3) (v := ?va3x4) rfl (by kernel_rfl) (by kernel_rfl) (by kernel_rfl) (fun _ _ _ h => h) (Or.inl ⟨by rfl, ?hy3x4⟩) (by assumption) ?rest3x4
  case hy3x4 => (intro w hSw; (try dsimp only at hSw); go_simp; try with_reducible rfl)
  (try simp only [Act.put, List.getElem_toArray, List.getElem_cons_zero, List.getElem_cons_succ, List.setIfInBounds_toArray, List.set_cons_zero, List.set_cons_succ])
  refine wpAnyH_take (i := 4) (v := ?va4x5) rfl (by kernel_rfl) (by kernel_rfl) (by kernel_rfl) (fun _ _ _ h => h) (Or.inl ⟨by rfl, ?hy4x5⟩) (by assumption) ?rest4x5
  case hy4x5 => (intro w hSw; (try dsimp only at hSw); go_simp; try with_reducible rfl)
  (try simp only [Act.put, List.getElem_toArray, List.getElem_cons_zero, List.getElem_cons_succ, List.setIfInBounds_toArray, List.set_cons_zero, List.set_cons_succ])
  refine wpAnyH_take (i := 5) (v := ?va5x6) rfl (by kernel_rfl) (by kernel_rfl) (by kernel_rfl) (fun _ _ _ h => h) (Or.inl ⟨by rfl, ?hy5x6⟩) (by assumption) ?rest5x6
  case hy5x6 => (intro w hSw; (try dsimp only at hSw); go_simp; try with_reducible rfl)
  (try simp only [Act.put, List.getElem_toArray, List.getElem_cons_zero, List.getElem_cons_succ, List.setIfInBounds_toArray, List.set_cons_zero, List.set_cons_succ])
  refine wpAnyH_take (i := 6) (v := ?va6x7) rfl (by kernel_rfl) (by kernel_rfl) (by kernel_rfl) (fun _ _ _ h => h) (Or.inl ⟨by rfl, ?hy6x7⟩) (by assumption) ?rest6x7
  case hy6x7 => (intro w hSw; (try dsimp only at hSw); go_simp; try with_reducible rfl)
  (try simp only [Act.put, List.getElem_toArray, List.getElem_cons_zero, List.getElem_cons_succ, List.setIfInBounds_toArray, List.set_cons_zero, List.set_cons_succ])
  refine wpAnyH_take (i := 7) (v := ?va7x8) rfl (by kernel_rfl) (by kernel_rfl) (by kernel_rfl) (fun _ _ _ h => h) (Or.inl ⟨by rfl, ?hy7x8⟩) (by assumption) ?rest7x8
  case hy7x8 => (intro w hSw; (try dsimp only at hSw); go_simp; try with_reducible rfl)
  (try simp only [Act.put, List.getElem_toArray, List.getElem_cons_zero, List.getElem_cons_succ, List.setIfInBounds_toArray, List.set_cons_zero, List.set_cons_succ])
  refine wpAnyH_take (i := 8) (v := ?va8x9) rfl (by kernel_rfl) (by kernel_rfl) (by kernel_rfl) (fun _ _ _ h => h) (Or.inl ⟨by rfl, ?hy8x9⟩) (by assumption) ?rest8x9
  case hy8x9 => (intro w hSw; (try dsimp only at hSw); go_simp; try with_reducible rfl)
  (try simp only [Act.put, List.getElem_toArray, List.getElem_cons_zero, List.getElem_cons_succ, List.setIfInBounds_toArray, List.set_cons_zero, List.set_cons_succ])
  refine wpAnyH_take (i := 9) (v := ?va9x10) rfl (by kernel_rfl) (by kernel_rfl) (by kernel_rfl) (fun _ _ _ h => h) (Or.inl ⟨by rfl, ?hy9x10⟩) (by assumption) ?rest9x10
  case hy9x10 => (intro w hSw; (try dsimp only at hSw); go_simp; try with_reducible rfl)
  (try simp only [Act.put, List.getElem_toArray, List.getElem_cons_zero, List.getElem_cons_succ, List.setIfInBounds_toArray, List.set_cons_zero, List.set_cons_succ])
  refine wpAnyH_ready (rs := [10]) (by kernel_rfl) (by simp) ?_
  refine AllReadyH.cons rfl (fun K hK => ?_) AllReadyH.nil
  go_simp
  refine hK.out _ _ (⟨RD.out.cell 0, RD.out.cell 1, RD.out.cell 2, RD.out.cell 3⟩) (fun hHeld => ?_)
  clear hK K
  (try simp only [Act.put, List.getElem_toArray, List.getElem_cons_zero, List.getElem_cons_succ, List.setIfInBounds_toArray, List.set_cons_zero, List.set_cons_succ])
  refine wpAnyH_ready (rs := [11]) (by kernel_rfl) (by simp) ?_
  refine AllReadyH.cons rfl (fun K hK => ?_) AllReadyH.nil
  go_simp
  refine (s_l6ScanM lo hi a b c d h cs k _ OD.out HK.out HKF.out HIN.out HRL.out).mono ?_
  rintro e w6 ⟨rfl, ho6, hc6⟩
  have O6 := Lib.hid ho6; have C6 := Lib.hid (CD.out.trans hc6)
  have R6 := Lib.hid (Row.chg RD.out hc6 (.inr (by have := HS.out; omega)))
  clear ho6 hc6
  refine hK.out _ _ (⟨R6.out.cell 0, R6.out.cell 1, R6.out.cell 2, R6.out.cell 3⟩) (fun hHeld => ?_)
  clear hK K
  (try simp only [Act.put, List.getElem_toArray, List.getElem_cons_zero, List.getElem_cons_succ, List.setIfInBounds_toArray, List.set_cons_zero, List.set_cons_succ])
  refine wpAnyH_done (by kernel_rfl) ?_ _
  clear hHeld dt
  go_wp2_with fail
  go_ret
  exact ⟨r_b HF.out, by rw [HE.out]; exact O6.out, C6.out⟩
end Go.Proofs.Ytbmfkgfmibpkjaa
namespace Go.Proofs.Ytbmfkgfmibpkjaa
open Go.RowKit Ph

/-- A world's blocks below a bound. -/
def cutW (x : World) (m : Nat) : World := {x with heap := x.heap.extract 0 m}
theorem cutW_size {x : World} {m : Nat} (hm : m ≤ x.heap.size) : (cutW x m).heap.size = m := by simp [cutW]; omega
theorem cutW_block {x : World} {m i : Nat} (hi : i < m) : (cutW x m).heap[i]? = x.heap[i]? := by
  simp only [cutW, Array.getElem?_extract]
  by_cases h : i < x.heap.size
  · rw [if_pos (by omega)]; simp
  · rw [if_neg (by omega), Array.getElem?_eq_none (by omega)]
theorem cutW_below {x : World} {m : Nat} (hm : m ≤ x.heap.size) : Below (cutW x m).heap.size (cutW x m) x := ⟨rfl, rfl, rfl, by rw [cutW_size hm]; exact hm, fun i hi => (cutW_block (by rw [cutW_size hm] at hi; exact hi)).symm⟩
theorem ne_row {w : World} {B g : Nat} {T : TypeId} {v : Value} {cs : List Int} {ds : Array Value} (ho : Own w B v cs) (hr : Row w g T ds) (hT : T ≠ 3) : v.ownBlock ≠ some g := by
  intro hg
  rcases ho.2 with ⟨rfl, _⟩ | ⟨g2, cap, cur, rfl, _, h2, _⟩
  · cases hg
  · cases hg
    unfold Row at hr
    rw [h2] at hr
    simp only [Option.some.injEq, Obj.cells.injEq] at hr
    exact hT hr.2.1.symm
theorem rows_ne {w : World} {g g' : Nat} {T T' : TypeId} {cs cs' : Array Value} (h : Row w g T cs) (h' : Row w g' T' cs') (hT : T ≠ T') : g ≠ g' := by
  intro e
  subst e
  unfold Row at h h'
  rw [h] at h'
  simp only [Option.some.injEq, Obj.cells.injEq] at h'
  exact hT h'.2.1
end Go.Proofs.Ytbmfkgfmibpkjaa
namespace Go.Proofs.Ytbmfkgfmibpkjaa
open Go.RowKit Ph

set_option maxRecDepth 100000 in
set_option maxHeartbeats 3200000 in
theorem c_shadeAllS (B : Nat) (a b c p v rv : Value) (cs zs : List Int) (w : World) (hS : ∀ w', w.grownBy w' v.ownBlock → IntsAt w' rv zs) (ho : Own w B v cs) (hc : Col cs) (hr : ∀ z ∈ zs, inR cs.length z) (hzl : zs.length ≤ 12) :
    Calls Try.prog 179 #[mkv a b c v p, rv] w fun e w' => e = .returned (.tuple #[]) ∧ Own w' B v (shades cs zs) ∧ w.grownBy w' v.ownBlock := by
  have hb0 := below1 w (.cells (c5 a b c v p) 154)
  have O0 := Lib.hid (ho.below hb0)
  have R0 := Lib.hid (Row.new w 154 (c5 a b c v p))
  have HG : Hid (w.grownBy (w.alloc (.cells (c5 a b c v p) 154)) v.ownBlock) := ⟨rfl, rfl, rfl, by simp, fun i hi _ => hb0.block i hi⟩
  have HNE : Hid (v.ownBlock ≠ some w.heap.size) := fun e => by have := (owns_lt ho e).2; omega
  obtain ⟨ra, rc, rfl⟩ := (hS w (World.grownBy.refl _ _)).shape
  have HZ := Lib.hid hS; have HR := Lib.hid hr; have HC := Lib.hid hc
  clear hS ho hc hr hb0
  generalize hm : zs.length = m at *
  have HM := Lib.hid hm; clear hm
  go_enter Try.func179, Try.ntmps179
  go_wp2
  generalize w.heap.size = gm at *
  generalize (w.alloc (.cells (c5 a b c v p) 154)) = w0 at *
  go_loopw [8] (fun i wr => ∃ j : Nat, j ≤ m ∧ i = .int .i64 j ∧ Hid (Own wr B v (shades cs (zs.take j))) ∧ Hid (w0.grownBy wr v.ownBlock)) (fun i _ => m - (intOf i).toNat)
  case atStart => exact ⟨0, Nat.zero_le _, rfl, by rw [List.take_zero, shades_nil]; exact O0, World.grownBy.refl _ _⟩
  case round =>
    obtain ⟨j, hj, rfl, how, hgr⟩ := hrel
    by_cases hlt : j < m
    · obtain ⟨zb, zo, rfl, hcz⟩ := (HZ.out wr (grownBy_trans HG.out hgr.out)).at' (by omega)
      have q := hcz j hlt
      have RW := Row.grownBy R0.out hgr.out HNE.out
      have d0 := RW.cell 0
      have d1 := RW.cell 1
      have d2 := RW.cell 2
      have d3 := RW.cell 3
      have d4 := RW.cell 4
      have hjl : j < zs.length := by rw [HM.out]; exact hlt
      have hin := HR.out (zs.getD j 0) (by rw [List.getD, List.getElem?_eq_getElem hjl]; exact List.getElem_mem hjl)
      have HS := Lib.hid (shades_take_succ (cs := cs) hjl)
      have i1 : (j : Int) < (m : Int) := by omega
      clear hcz RW hjl
      generalize zs.getD j 0 = z at *
      by_cases z1 : z = -1
      · subst z1
        have HE : Hid (shades cs (zs.take (j + 1)) = shades cs (zs.take j)) := by unfold Hid; rw [HS.out]; exact shade_neg (by omega)
        clear hin
        go_wp2_with fail
        go_roundw
        case rel => exact ⟨j + 1, by omega, by go_num, by rw [HE.out]; exact how, hgr⟩
        case measure => simp [intOf]; omega
      · obtain ⟨t, rfl⟩ : ∃ t : Nat, z = t := ⟨z.toNat, by rcases hin with h | h <;> omega⟩
        have HTN : Hid (t < (shades cs (zs.take j)).length) := by unfold Hid; rw [shades_len]; rcases hin with h | h <;> omega
        have i2 : ((t : Int) == -1) = false := by simp
        clear hin z1
        go_wp2_with fail
        refine (c_darkenG a b c p v _ t _ _ how.out HTN.out HC.out.shades).mono ?_
        rintro e w6 ⟨rfl, ho6, hg6⟩
        have O6 := Lib.hid ho6
        have G6 := Lib.hid (grownBy_trans hgr.out hg6)
        clear ho6 hg6 d0 d1 d2 d3 d4 q
        go_wp2_with fail
        go_roundw
        case rel => exact ⟨j + 1, by omega, by go_num, by rw [HS.out]; exact O6, G6⟩
        case measure => simp [intOf]; omega
    · obtain rfl : j = m := by omega
      have HE : Hid (zs.take j = zs) := List.take_of_length_le (by rw [HM.out]; exact Nat.le_refl _)
      go_wp2_with fail
      go_end0
      exact ⟨rfl, by rw [← HE.out]; exact how.out, grownBy_trans HG.out hgr.out⟩

/-- A mutator by value: its marking, its barrier, what is reached. -/
abbrev mu (a b c d f x r : Value) : Value := .agg #[a, b, c, d, f, x, r]
abbrev mu7 (a b c d f x r : Value) : Array Value := #[a, b, c, d, f, x, r]
abbrev fnB (put : Bool) : Value := if put then .func (.func 94) #[] #[] else .func (.func 92) #[] #[]
abbrev fresh (put : Bool) : Int := if put then 1 else 2
set_option maxHeartbeats 1600000 in
theorem c_isReached (a b c d f x r : Value) (rs : List Bool) (z : Int) (w : World) (hl : BoolsAt w r rs) : Calls Try.prog 207 #[mu a b c d f x r, .int .i64 z] w fun e w' => e = .returned (.bool (liveB rs z)) ∧ Below w.heap.size w w' := by
  obtain ⟨ba, bc, rfl, hL⟩ := hl
  by_cases h0 : z < 0
  · have HE : Hid (liveB rs z = false) := by unfold Hid liveB; rw [decide_eq_false (by omega)]; rfl
    have g0 : ¬ 0 ≤ z := by omega
    clear hL
    generalize rs.length = n at *
    have HB := Lib.hid (below1 w (.cells (mu7 a b c d f x (.slice ba n bc)) 164))
    go_enter Try.func207, Try.ntmps207
    go_wp2
    go_ret
    exact ⟨r_b HE.out.symm, HB.out⟩
  · obtain ⟨k, rfl⟩ : ∃ k : Nat, z = k := ⟨z.toNat, by omega⟩
    clear h0
    by_cases h1 : k < rs.length
    · obtain ⟨g, off, rfl, hc⟩ := hL (by omega)
      have q := hc k h1
      have HE : Hid (liveB rs (k : Int) = rs.getD k false) := by unfold Hid liveB; rw [decide_eq_true (by omega)]; simp
      rw [← HE.out] at q
      generalize liveB rs (k : Int) = y at *
      clear hc hL HE
      generalize rs.length = n at *
      have HB := Lib.hid (below1 w (.cells (mu7 a b c d f x (.slice (some ⟨g, off, none⟩) n bc)) 164))
      have q' := cellBelow HB.out (Nat.le_refl _) q
      have i1 : (k : Int) < (n : Int) := by omega
      have i0 : (0 : Int) ≤ (k : Int) := by omega
      clear q
      go_enter Try.func207, Try.ntmps207
      go_wp2
      go_ret
      exact ⟨rfl, HB.out⟩
    · have HE : Hid (liveB rs (k : Int) = false) := by
        unfold Hid
        cases hq : liveB rs (k : Int) with
        | false => rfl
        | true => have := liveB_lt hq; omega
      clear hL
      generalize rs.length = n at *
      have HB := Lib.hid (below1 w (.cells (mu7 a b c d f x (.slice ba n bc)) 164))
      have i1 : ¬ (k : Int) < (n : Int) := by omega
      have i0 : (0 : Int) ≤ (k : Int) := by omega
      go_enter Try.func207, Try.ntmps207
      go_wp2
      go_ret
      exact ⟨r_b HE.out.symm, HB.out⟩
set_option maxHeartbeats 1600000 in
theorem c_mayStore (a b c d f x r : Value) (rs : List Bool) (z : Int) (w : World) (hl : BoolsAt w r rs) : Calls Try.prog 208 #[mu a b c d f x r, .int .i64 z] w fun e w' => e = .returned (.bool (refB rs z)) ∧ Below w.heap.size w w' := by
  have hb0 := below1 w (.cells (mu7 a b c d f x r) 164)
  have HL := Lib.hid (hl.below hb0)
  have HB := Lib.hid hb0
  have R0 := Row.new w 164 (mu7 a b c d f x r)
  clear hl hb0
  by_cases h0 : z = -1
  · subst h0
    have HE : Hid (refB rs (-1) = true) := by unfold Hid refB; simp
    clear R0
    go_enter Try.func208, Try.ntmps208
    go_wp2
    go_ret
    exact ⟨r_b HE.out.symm, HB.out⟩
  · have HE : Hid (refB rs z = liveB rs z) := by unfold Hid refB; simp [h0]
    have i0 : (z == -1) = false := by simpa using h0
    rw [HE.out]
    generalize hx : liveB rs z = y at *
    have HX := Lib.hid hx
    have c0 := R0.cell 0
    have c1 := R0.cell 1
    have c2 := R0.cell 2
    have c3 := R0.cell 3
    have c4 := R0.cell 4
    have c5 := R0.cell 5
    have c6 := R0.cell 6
    clear hx h0 HE R0
    go_enter Try.func208, Try.ntmps208
    go_wp2_with (go_at_call 207; refine (c_isReached a b c d f x r rs z _ HL.out).mono ?_; rintro e w1 ⟨rfl, hb1⟩; rw [HX.out]; have B1 := Lib.hid (bst HB.out hb1 HB.out.size); clear hb1)
    go_ret
    exact ⟨rfl, B1.out⟩
theorem c_before (z y : Int) (w : World) : Calls Try.prog 92 #[.agg #[.int .i64 z, .int .i64 y]] w fun e w' => e = .returned (.int .i64 z) ∧ Below w.heap.size w w' := by
  have HB := Lib.hid (below1 w (.cells #[.int .i64 z, .int .i64 y] 116))
  go_enter Try.func92, Try.ntmps92
  go_wp2
  go_ret
  exact ⟨rfl, HB.out⟩
theorem c_after (z y : Int) (w : World) : Calls Try.prog 94 #[.agg #[.int .i64 z, .int .i64 y]] w fun e w' => e = .returned (.int .i64 y) ∧ Below w.heap.size w w' := by
  have HB := Lib.hid (below1 w (.cells #[.int .i64 z, .int .i64 y] 116))
  go_enter Try.func94, Try.ntmps94
  go_wp2
  go_ret
  exact ⟨rfl, HB.out⟩
end Go.Proofs.Ytbmfkgfmibpkjaa
namespace Go.Proofs.Ytbmfkgfmibpkjaa.Ph
def outH (k : Bool) (h : H) : H := if k = true then h else ⟨[], [], []⟩
def outC (k : Bool) (cs : List Int) : List Int := if k = true then cs else []
def scanK (cs : List Int) (a : Int) : Bool := decide (0 ≤ a) && decide (a ≤ 100) && !(ofC cs 1).isEmpty
def barZ (put : Bool) (was to : Int) : Int := if put = true then to else was
end Go.Proofs.Ytbmfkgfmibpkjaa.Ph
namespace Go.Proofs.Ytbmfkgfmibpkjaa
open Go.RowKit Ph
theorem info_mutator : (Try.prog.info? 164).map (·.size) = some 7 := by kernel_rfl
theorem info_move : (Try.prog.info? 38).map (·.size) = some 4 := by kernel_rfl
abbrev wr2 (z y : Int) : Value := .agg #[.int .i64 z, .int .i64 y]
theorem one_int {w w' : World} {g : Nat} {z : Int} (h : Row w g 3 #[.int .i64 z]) {c : Option Nat} (hg : w.grownBy w' c) (hn : c ≠ some g) : IntsAt w' (.slice (some ⟨g, 0, none⟩) 1 1) [z] :=
  ⟨some ⟨g, 0, none⟩, 1, rfl, fun _ => ⟨g, 0, rfl, fun i hi => by
    have hi0 : i = 0 := by simp at hi; omega
    subst hi0
    exact Row.cell (Row.grownBy h hg hn) 0⟩⟩
set_option maxHeartbeats 3200000 in
set_option maxRecDepth 100000 in
theorem c_written_false (B : Nat) (a b c d x r ha hb hc : Value) (cv : Value) (cs : List Int) (was to : Int) (w : World) (ho : Own w B cv cs) (hcol : Col cs) (hz : inR cs.length was) (hone : ha.oneCell' = true ∧ hb.oneCell' = true ∧ hc.oneCell' = true) : Calls Try.prog 209 #[mu a b c d (.func (.func 92) #[] #[]) x r, hv ha hb hc, cv, wr2 was to] w fun e w' => e = .returned (mv ha hb hc cv) ∧ Own w' B cv (shade cs was) ∧ w.grownBy w' cv.ownBlock := by
  obtain ⟨pc, qc, hcv⟩ := ho.ints.shape
  subst hcv
  generalize hcl : cs.length = nc at *
  have HCN := Lib.hid hcl; clear hcl
  have b0 := (((below1 w (.cells (mu7 a b c d (.func (.func 92) #[] #[]) x r) 164)).alloc (by simp) (.cells (c3 ha hb hc) 32)).alloc (by simp; omega) (.cells #[.int .i64 was, .int .i64 to] 116)).alloc (by simp; omega) (.cells (m4 nilS nilS nilS nilS) 34)
  have O0 := Lib.hid (ho.below b0)
  have B0 := Lib.hid b0
  have H0 := Lib.hid (show RowH _ (w.heap.size + 1) ha hb hc from ((Row.new1 w (.cells (mu7 a b c d (.func (.func 92) #[] #[]) x r) 164) 32 (c3 ha hb hc)).alloc (.cells #[.int .i64 was, .int .i64 to] 116)).alloc (.cells (m4 nilS nilS nilS nilS) 34))
  have R0 := Lib.hid (show RowM _ (w.heap.size + 1 + 1 + 1) nilS nilS nilS nilS from Row.new3 w (.cells (mu7 a b c d (.func (.func 92) #[] #[]) x r) 164) (.cells (c3 ha hb hc) 32) (.cells #[.int .i64 was, .int .i64 to] 116) 34 (m4 nilS nilS nilS nilS))
  have HONE := Lib.hid hone; have HCO := Lib.hid hcol; have HZ := Lib.hid hz
  clear ho b0 hcol hz hone
  go_enter Try.func209, Try.ntmps209
  go_wp2_with fail
  refine (c_before was to _).mono ?_
  rintro e w1 ⟨rfl, hb1⟩
  have ba := below1 w1 (.cells #[.int .i64 was] 3)
  have O1 := Lib.hid (O0.out.below hb1)
  have NE : Hid ((Value.slice pc nc qc).ownBlock ≠ some w1.heap.size) := fun q => by have := (owns_lt O1.out q).2; omega
  have O2 := Lib.hid (O1.out.below ba)
  have B2 := Lib.hid (bst (bst B0.out hb1 B0.out.size) ba (bst B0.out hb1 B0.out.size).size)
  have H2 := Lib.hid (show RowH _ _ _ _ _ from Row.below (Row.below H0.out hb1) ba)
  have R2 := Lib.hid (show RowM _ _ _ _ _ _ from Row.below (Row.below R0.out hb1) ba)
  have S2 := Lib.hid (Row.new w1 3 #[.int .i64 was])
  clear hb1 ba
  go_wp2_with fail
  refine (c_shadeAllS B nilS nilS nilS .nilFunc (.slice pc nc qc) (.slice (some ⟨w1.heap.size, 0, none⟩) 1 1) cs [was] _ (fun w' hg => one_int S2.out hg NE.out) O2.out HCO.out (fun z hz => by rw [List.mem_singleton.1 hz]; rw [HCN.out]; exact HZ.out) (by simp)).mono ?_
  rintro e w3 ⟨rfl, ho3, hg3⟩
  have O3 := Lib.hid ho3
  have G3 : Hid (w.grownBy w3 (Value.slice pc nc qc).ownBlock) := ⟨hg3.os.trans B2.out.os, hg3.tape.trans B2.out.tape, hg3.output.trans B2.out.output, Nat.le_trans B2.out.size hg3.size, fun i hi hx => (hg3.block i (by have := B2.out.size; omega) hx).trans (B2.out.block i hi)⟩
  have H3 := Lib.hid (show RowH _ _ _ _ _ from Row.grownBy H2.out hg3 (ne_row O2.out H2.out (by decide)))
  have R3 := Lib.hid (show RowM _ _ _ _ _ _ from Row.grownBy R2.out hg3 (ne_row O2.out R2.out (by decide)))
  have NR := Lib.hid (ne_row O3.out R3.out (by decide))
  have d0 := H3.out.c0
  have d1 := H3.out.c1
  have d2 := H3.out.c2
  clear O0 O1 O2 H0 R0 H2 R2 S2 hg3 ho3
  have OA : Hid (ha.oneCell' = true ∧ hb.oneCell' = true ∧ hc.oneCell' = true) := HONE
  go_wp2_with (refine wl_storeM rfl _ _ rfl (w.heap.size + 1 + 1 + 1) ha hb hc (.slice pc nc qc) _ _ _ _ R3.out rfl rfl OA.out.1 OA.out.2.1 OA.out.2.2 rfl ?_)
  refine bodyPost_ret (res_row Try.results209 (Row.put R3.out (m4 ha hb hc (.slice pc nc qc))) rfl Try.underlying34 rfl info_marking) rfl ⟨rfl, owns_block O3.out fun g hg => setRow_other w3 _ g _ (fun q => NR.out (by rw [hg, q])), ⟨G3.out.os, G3.out.tape, G3.out.output, by rw [size_setRow]; exact G3.out.size, fun i hi hx => (setRow_other w3 _ i _ (by omega)).trans (G3.out.block i hi hx)⟩⟩
set_option maxHeartbeats 3200000 in
set_option maxRecDepth 100000 in
theorem c_written_true (B : Nat) (a b c d x r ha hb hc : Value) (cv : Value) (cs : List Int) (was to : Int) (w : World) (ho : Own w B cv cs) (hcol : Col cs) (hz : inR cs.length to) (hone : ha.oneCell' = true ∧ hb.oneCell' = true ∧ hc.oneCell' = true) : Calls Try.prog 209 #[mu a b c d (.func (.func 94) #[] #[]) x r, hv ha hb hc, cv, wr2 was to] w fun e w' => e = .returned (mv ha hb hc cv) ∧ Own w' B cv (shade cs to) ∧ w.grownBy w' cv.ownBlock := by
  obtain ⟨pc, qc, hcv⟩ := ho.ints.shape
  subst hcv
  generalize hcl : cs.length = nc at *
  have HCN := Lib.hid hcl; clear hcl
  have b0 := (((below1 w (.cells (mu7 a b c d (.func (.func 94) #[] #[]) x r) 164)).alloc (by simp) (.cells (c3 ha hb hc) 32)).alloc (by simp; omega) (.cells #[.int .i64 was, .int .i64 to] 116)).alloc (by simp; omega) (.cells (m4 nilS nilS nilS nilS) 34)
  have O0 := Lib.hid (ho.below b0)
  have B0 := Lib.hid b0
  have H0 := Lib.hid (show RowH _ (w.heap.size + 1) ha hb hc from ((Row.new1 w (.cells (mu7 a b c d (.func (.func 94) #[] #[]) x r) 164) 32 (c3 ha hb hc)).alloc (.cells #[.int .i64 was, .int .i64 to] 116)).alloc (.cells (m4 nilS nilS nilS nilS) 34))
  have R0 := Lib.hid (show RowM _ (w.heap.size + 1 + 1 + 1) nilS nilS nilS nilS from Row.new3 w (.cells (mu7 a b c d (.func (.func 94) #[] #[]) x r) 164) (.cells (c3 ha hb hc) 32) (.cells #[.int .i64 was, .int .i64 to] 116) 34 (m4 nilS nilS nilS nilS))
  have HONE := Lib.hid hone; have HCO := Lib.hid hcol; have HZ := Lib.hid hz
  clear ho b0 hcol hz hone
  go_enter Try.func209, Try.ntmps209
  go_wp2_with fail
  refine (c_after was to _).mono ?_
  rintro e w1 ⟨rfl, hb1⟩
  have ba := below1 w1 (.cells #[.int .i64 to] 3)
  have O1 := Lib.hid (O0.out.below hb1)
  have NE : Hid ((Value.slice pc nc qc).ownBlock ≠ some w1.heap.size) := fun q => by have := (owns_lt O1.out q).2; omega
  have O2 := Lib.hid (O1.out.below ba)
  have B2 := Lib.hid (bst (bst B0.out hb1 B0.out.size) ba (bst B0.out hb1 B0.out.size).size)
  have H2 := Lib.hid (show RowH _ _ _ _ _ from Row.below (Row.below H0.out hb1) ba)
  have R2 := Lib.hid (show RowM _ _ _ _ _ _ from Row.below (Row.below R0.out hb1) ba)
  have S2 := Lib.hid (Row.new w1 3 #[.int .i64 to])
  clear hb1 ba
  go_wp2_with fail
  refine (c_shadeAllS B nilS nilS nilS .nilFunc (.slice pc nc qc) (.slice (some ⟨w1.heap.size, 0, none⟩) 1 1) cs [to] _ (fun w' hg => one_int S2.out hg NE.out) O2.out HCO.out (fun z hz => by rw [List.mem_singleton.1 hz]; rw [HCN.out]; exact HZ.out) (by simp)).mono ?_
  rintro e w3 ⟨rfl, ho3, hg3⟩
  have O3 := Lib.hid ho3
  have G3 : Hid (w.grownBy w3 (Value.slice pc nc qc).ownBlock) := ⟨hg3.os.trans B2.out.os, hg3.tape.trans B2.out.tape, hg3.output.trans B2.out.output, Nat.le_trans B2.out.size hg3.size, fun i hi hx => (hg3.block i (by have := B2.out.size; omega) hx).trans (B2.out.block i hi)⟩
  have H3 := Lib.hid (show RowH _ _ _ _ _ from Row.grownBy H2.out hg3 (ne_row O2.out H2.out (by decide)))
  have R3 := Lib.hid (show RowM _ _ _ _ _ _ from Row.grownBy R2.out hg3 (ne_row O2.out R2.out (by decide)))
  have NR := Lib.hid (ne_row O3.out R3.out (by decide))
  have d0 := H3.out.c0
  have d1 := H3.out.c1
  have d2 := H3.out.c2
  clear O0 O1 O2 H0 R0 H2 R2 S2 hg3 ho3
  have OA : Hid (ha.oneCell' = true ∧ hb.oneCell' = true ∧ hc.oneCell' = true) := HONE
  go_wp2_with (refine wl_storeM rfl _ _ rfl (w.heap.size + 1 + 1 + 1) ha hb hc (.slice pc nc qc) _ _ _ _ R3.out rfl rfl OA.out.1 OA.out.2.1 OA.out.2.2 rfl ?_)
  refine bodyPost_ret (res_row Try.results209 (Row.put R3.out (m4 ha hb hc (.slice pc nc qc))) rfl Try.underlying34 rfl info_marking) rfl ⟨rfl, owns_block O3.out fun g hg => setRow_other w3 _ g _ (fun q => NR.out (by rw [hg, q])), ⟨G3.out.os, G3.out.tape, G3.out.output, by rw [size_setRow]; exact G3.out.size, fun i hi hx => (setRow_other w3 _ i _ (by omega)).trans (G3.out.block i hi hx)⟩⟩
set_option maxHeartbeats 6400000 in
set_option maxRecDepth 100000 in
theorem c_mscan (a b c d f x r : Value) (h : H) (cs : List Int) (v : Mv) (w : World) (hA : HeapAt w a b c h) (hC : IntsAt w d cs) (hB : bothB h cs = true) : Calls Try.prog 184 #[mu a b c d f x r, mo v] w (EndM (outH (scanK cs v.a) h) (outC (scanK cs v.a) (scan cs (h.f.getD (greyN cs v.a) []) (greyN cs v.a))) (scanK cs v.a) w) := by
  have b0 := ((below1 w (.cells (mu7 a b c d f x r) 164)).alloc (by simp) (.cells (mo4 v) 38)).alloc (by simp; omega) (.cells (m4 nilS nilS nilS nilS) 34)
  have A0 := Lib.hid (hA.below b0); have Z0 := Lib.hid (hC.below b0)
  have B0 := Lib.hid b0
  have U0 := Lib.hid (show Row _ w.heap.size 164 (mu7 a b c d f x r) from ((Row.new w 164 (mu7 a b c d f x r)).alloc (.cells (mo4 v) 38)).alloc (.cells (m4 nilS nilS nilS nilS) 34))
  have V0 := Lib.hid (show Row _ (w.heap.size + 1) 38 (mo4 v) from (Row.new1 w (.cells (mu7 a b c d f x r) 164) 38 (mo4 v)).alloc (.cells (m4 nilS nilS nilS nilS) 34))
  have R0 := Lib.hid (show RowM _ (w.heap.size + 1 + 1) nilS nilS nilS nilS from Row.new2 w (.cells (mu7 a b c d f x r) 164) (.cells (mo4 v) 38) 34 (m4 nilS nilS nilS nilS))
  obtain ⟨hG, hl, _⟩ := bothB_iff.1 hB
  have HG := Lib.hid hG; have HL := Lib.hid hl; have HBB := Lib.hid hB
  have HCL : Hid (cs.length ≤ 12) := (by unfold Hid; rw [hl]; exact hG.n)
  have HK : Hid (scanK cs v.a = (decide (0 ≤ v.a) && decide (v.a ≤ 100) && !(ofC cs 1).isEmpty)) := rfl
  have HGA := Lib.hid (grey_at (cs := cs)); have HGI := Lib.hid (greyN_is (cs := cs))
  have HTM := Lib.hid (fun q : 0 ≤ v.a => tmodN q (ofC cs 1).length)
  have HSO := Lib.hid (fun k : Nat => scanR_yes (h := h) (cs := cs) (k := (k : Int)))
  clear hA hC hB b0 hG hl
  obtain ⟨vk, va, vb, vt⟩ := v
  simp only at HK HTM ⊢
  generalize scanK cs va = ok at *
  have c3 := U0.out.cell 3
  go_enter Try.func184, Try.ntmps184
  go_wp2_with fail
  clear c3
  refine (c_thingsOf d cs 1 _ Z0.out HCL.out).mono ?_
  rintro e w1 ⟨v1, rfl, ho1, hb1⟩
  have A1 := Lib.hid (A0.out.below hb1); have Z1 := Lib.hid (Z0.out.below hb1)
  have B1 := Lib.hid (bst B0.out hb1 B0.out.size)
  have U1 := Lib.hid (Row.below U0.out hb1); have V1 := Lib.hid (Row.below V0.out hb1); have R1 := Lib.hid (show RowM _ _ _ _ _ _ from Row.below R0.out hb1)
  obtain ⟨ta, tc, rfl⟩ := ho1.ints.shape
  have T1 := Lib.hid ho1.ints
  clear ho1 hb1 A0 Z0 B0 U0 V0 R0
  have m1 := V1.out.cell 1
  by_cases hq : ofC cs 1 = []
  · have HE : Hid (ok = false) := by unfold Hid; rw [HK.out, hq]; simp
    have hql : (ofC cs 1).length = 0 := by rw [hq]; rfl
    clear hq HK
    generalize (ofC cs 1).length = q at *
    subst hql
    go_wp2_with (refine wl_storeM rfl _ _ rfl (w.heap.size + 1 + 1) nilS nilS nilS nilS _ _ _ _ R1.out rfl rfl rfl rfl rfl rfl ?_)
    refine bodyPost_ret (res_row_slot Try.results184 (Row.put R1.out (m4 nilS nilS nilS nilS)) rfl rfl Try.underlying34 rfl info_marking) rfl (endM_none (below_setRow B1.out (by omega) _) (by rw [HE.out]; rfl) (by rw [HE.out]; rfl) HE.out)
  have hql : 0 < (ofC cs 1).length := List.length_pos_iff.2 hq
  have HIE : Hid ((!(ofC cs 1).isEmpty) = true) := by
    unfold Hid
    cases hx : ofC cs 1 with
    | nil => exact absurd hx hq
    | cons _ _ => rfl
  have HK2 : Hid (ok = (decide (0 ≤ va) && decide (va ≤ 100))) := by unfold Hid; rw [HK.out, HIE.out, Bool.and_true]
  obtain ⟨g1, g2⟩ := HGA.out hq va
  obtain ⟨k1, k2⟩ := HGI.out hq va
  clear HGA HGI hq HK HIE
  generalize greyN cs va = k at *
  generalize va.toNat % (ofC cs 1).length = rr at *
  generalize hts : ofC cs 1 = ts at *
  clear hts
  generalize hqq : ts.length = q at *
  clear hqq
  obtain ⟨tb, to, rfl, hct⟩ := T1.out.at' hql
  have qt := hct rr g2
  rw [g1] at qt
  clear hct g1
  have hq1 : ((q : Int) == 0) = false := by simp; omega
  have hqn : ¬ q = 0 := by omega
  have r0 : (0 : Int) ≤ (rr : Int) := by omega
  have r1 : (rr : Int) < (q : Int) := by omega
  by_cases h0 : va < 0
  · have HE : Hid (ok = false) := by unfold Hid; rw [HK2.out, decide_eq_false (by omega)]; rfl
    clear HK2 HTM
    go_wp2_with (refine wl_storeM rfl _ _ rfl (w.heap.size + 1 + 1) nilS nilS nilS nilS _ _ _ _ R1.out rfl rfl rfl rfl rfl rfl ?_)
    refine bodyPost_ret (res_row_slot Try.results184 (Row.put R1.out (m4 nilS nilS nilS nilS)) rfl rfl Try.underlying34 rfl info_marking) rfl (endM_none (below_setRow B1.out (by omega) _) (by rw [HE.out]; rfl) (by rw [HE.out]; rfl) HE.out)
  by_cases h1 : 100 < va
  · have HE : Hid (ok = false) := by unfold Hid; rw [HK2.out, decide_eq_false (show ¬ va ≤ 100 by omega), Bool.and_false]
    clear HK2 HTM
    go_wp2_with (refine wl_storeM rfl _ _ rfl (w.heap.size + 1 + 1) nilS nilS nilS nilS _ _ _ _ R1.out rfl rfl rfl rfl rfl rfl ?_)
    refine bodyPost_ret (res_row_slot Try.results184 (Row.put R1.out (m4 nilS nilS nilS nilS)) rfl rfl Try.underlying34 rfl info_marking) rfl (endM_none (below_setRow B1.out (by omega) _) (by rw [HE.out]; rfl) (by rw [HE.out]; rfl) HE.out)
  have HE : Hid (ok = true) := by unfold Hid; rw [HK2.out, decide_eq_true (by omega), decide_eq_true (by omega)]; rfl
  have hm := HTM.out (by omega)
  have HOK : Hid (scanOk h cs (k : Int) = true) := by
    unfold Hid scanOk hasB
    rw [HBB.out, Int.toNat_natCast, k2, decide_eq_true (show (0 : Int) ≤ (k : Int) by omega), decide_eq_true (show (k : Int) < (cs.length : Int) by omega)]; rfl
  have HSR := Lib.hid (HSO.out k HOK.out)
  rw [Int.toNat_natCast] at HSR
  clear HK2 HTM k1 k2 HSO
  go_wp2_with fail
  clear m1
  have A2 := Lib.hid (A1.out.below (below_drew (Below.refl w1.heap.size w1))); have Z2 := Lib.hid (Z1.out.below (below_drew (Below.refl w1.heap.size w1)))
  have B2 := Lib.hid (below_drew B1.out)
  have U2 : Hid (Row w1.drew w.heap.size 164 (mu7 a b c d f x r)) := U1.out
  have V2 : Hid (Row w1.drew (w.heap.size + 1) 38 #[.int .i64 vk, .int .i64 va, .int .i64 vb, .int .i64 vt]) := V1.out
  have R2 : Hid (RowM w1.drew (w.heap.size + 1 + 1) nilS nilS nilS nilS) := R1.out
  have dt : w1.drew.cell? ⟨tb, to + rr, none⟩ = some (.int .i64 (k : Int)) := qt
  clear A1 Z1 B1 U1 V1 R1 qt T1
  refine wp_region_held_drew (S := (fun w' => w'.cell? ⟨w.heap.size, 0, none⟩ = some a ∧ w'.cell? ⟨w.heap.size, 1, none⟩ = some b ∧ w'.cell? ⟨w.heap.size, 2, none⟩ = some c ∧ w'.cell? ⟨w.heap.size, 3, none⟩ = some d ∧ w'.cell? ⟨w.heap.size + 1, 1, none⟩ = some (.int .i64 va))) (by kernel_rfl) (⟨U2.out.cell 0, U2.out.cell 1, U2.out.cell 2, U2.out.cell 3, V2.out.cell 1⟩) (fun hHeld => ?_)
  generalize w1.drew = x0 at *
  refine wpAnyH_take (i := 0) (v := ?va0x1) rfl (by kernel_rfl) (by kernel_rfl) (by kernel_rfl) (fun _ _ _ h => h) (Or.inl ⟨by rfl, ?hy0x1⟩) (by assumption) ?rest0x1
  case hy0x1 => (intro w hSw; (try dsimp only at hSw); go_simp; try with_reducible rfl)
  (try simp only [Act.put, List.getElem_toArray, List.getElem_cons_zero, List.setIfInBounds_toArray, List.set_cons_zero, List.set_cons_succ])
  refine wpAnyH_take (i := 1) (v := ?va1x2) rfl (by kernel_rfl) (by kernel_rfl) (by kernel_rfl) (fun _ _ _ h => h) (Or.inl ⟨by rfl, ?hy1x2⟩) (by assumption) ?rest1x2
  case hy1x2 => (intro w hSw; (try dsimp only at hSw); go_simp; try with_reducible rfl)
  (try simp only [Act.put, List.getElem_toArray, List.getElem_cons_zero, List.getElem_cons_succ, List.setIfInBounds_toArray, List.set_cons_zero, List.set_cons_succ])
  refine wpAnyH_take (i := 2) (v := ?va2x3) rfl (by kernel_rfl) (by kernel_rfl) (by kernel_rfl) (fun _ _ _ h => h) (Or.inl ⟨by rfl, ?hy2x3⟩) (by assumption) ?rest2x3
  case hy2x3 => (intro w hSw; (try dsimp only at hSw); go_simp; try with_reducible rfl)
  (try simp only [Act.put, List.getElem_toArray, List.getElem_cons_zero, List.getElem_cons_succ, List.setIfInBounds_toArray, List.set_cons_zero, List.set_cons_succ])
  refine wpAnyH_take (i := 3) (v := ?va3x4) rfl (by kernel_rfl) (by kernel_rfl) (by kernel_rfl) (fun _ _ _ h => h) (Or.inl ⟨by rfl, ?hy3x4⟩) (by assumption) ?rest3x4
  case hy3x4 => (intro w hSw; (try dsimp only at hSw); go_simp; try with_reducible rfl)
  (try simp only [Act.put, List.getElem_toArray, List.getElem_cons_zero, List.getElem_cons_succ, List.setIfInBounds_toArray, List.set_cons_zero, List.set_cons_succ])
  refine wpAnyH_take (i := 4) (v := ?va4x5) rfl (by kernel_rfl) (by kernel_rfl) (by kernel_rfl) (fun _ _ _ h => h) (Or.inl ⟨by rfl, ?hy4x5⟩) (by assumption) ?rest4x5
  case hy4x5 => (intro w hSw; (try dsimp only at hSw); go_simp; try with_reducible rfl)
  (try simp only [Act.put, List.getElem_toArray, List.getElem_cons_zero, List.getElem_cons_succ, List.setIfInBounds_toArray, List.set_cons_zero, List.set_cons_succ])
  refine wpAnyH_take (i := 5) (v := ?va5x6) rfl (by kernel_rfl) (by kernel_rfl) (by kernel_rfl) (fun _ _ _ h => h) (Or.inl ⟨by rfl, ?hy5x6⟩) (by assumption) ?rest5x6
  case hy5x6 => (intro w hSw; (try dsimp only at hSw); go_simp; try with_reducible rfl)
  (try simp only [Act.put, List.getElem_toArray, List.getElem_cons_zero, List.getElem_cons_succ, List.setIfInBounds_toArray, List.set_cons_zero, List.set_cons_succ])
  refine wpAnyH_take (i := 6) (v := ?va6x7) rfl (by kernel_rfl) (by kernel_rfl) (by kernel_rfl) (fun _ _ _ h => h) (Or.inl ⟨by rfl, ?hy6x7⟩) (by assumption) ?rest6x7
  case hy6x7 => (intro w hSw; (try dsimp only at hSw); go_simp; try with_reducible rfl)
  (try simp only [Act.put, List.getElem_toArray, List.getElem_cons_zero, List.getElem_cons_succ, List.setIfInBounds_toArray, List.set_cons_zero, List.set_cons_succ])
  refine wpAnyH_take (i := 7) (v := ?va7x8) rfl (by kernel_rfl) (by kernel_rfl) (by kernel_rfl) (fun _ _ _ h => h) (Or.inl ⟨by rfl, ?hy7x8⟩) (by assumption) ?rest7x8
  case hy7x8 => (intro w hSw; (try dsimp only at hSw); go_simp; try with_reducible rfl)
  (try simp only [Act.put, List.getElem_toArray, List.getElem_cons_zero, List.getElem_cons_succ, List.setIfInBounds_toArray, List.set_cons_zero, List.set_cons_succ])
  refine wpAnyH_take (i := 8) (v := ?va8x9) rfl (by kernel_rfl) (by kernel_rfl) (by kernel_rfl) (fun _ _ _ h => h) (Or.inl ⟨by rfl, ?hy8x9⟩) (by assumption) ?rest8x9
  case hy8x9 => (intro w hSw; (try dsimp only at hSw); go_simp; try with_reducible rfl)
  (try simp only [Act.put, List.getElem_toArray, List.getElem_cons_zero, List.getElem_cons_succ, List.setIfInBounds_toArray, List.set_cons_zero, List.set_cons_succ])
  refine wpAnyH_take (i := 9) (v := ?va9x10) rfl (by kernel_rfl) (by kernel_rfl) (by kernel_rfl) (fun _ _ _ h => h) (Or.inl ⟨by rfl, ?hy9x10⟩) (by assumption) ?rest9x10
  case hy9x10 => (intro w hSw; (try dsimp only at hSw); go_simp; try with_reducible rfl)
  (try simp only [Act.put, List.getElem_toArray, List.getElem_cons_zero, List.getElem_cons_succ, List.setIfInBounds_toArray, List.set_cons_zero, List.set_cons_succ])
  refine wpAnyH_take (i := 10) (v := ?va10x11) rfl (by kernel_rfl) (by kernel_rfl) (by kernel_rfl) (fun _ _ _ h => h) (Or.inl ⟨by rfl, ?hy10x11⟩) (by assumption) ?rest10x11
  case hy10x11 => (intro w hSw; (try dsimp only at hSw); go_simp; try with_reducible rfl)
  (try simp only [Act.put, List.getElem_toArray, List.getElem_cons_zero, List.getElem_cons_succ, List.setIfInBounds_toArray, List.set_cons_zero, List.set_cons_succ])
  refine wpAnyH_take (i := 11) (v := ?va11x12) rfl (by kernel_rfl) (by kernel_rfl) (by kernel_rfl) (fun _ _ _ h => h) (Or.inl ⟨by rfl, ?hy11x12⟩) (by assumption) ?rest11x12
  case hy11x12 => (intro w hSw; (try dsimp only at hSw); go_simp; try with_reducible rfl)
  (try simp only [Act.put, List.getElem_toArray, List.getElem_cons_zero, List.getElem_cons_succ, List.setIfInBounds_toArray, List.set_cons_zero, List.set_cons_succ])
  refine wpAnyH_take (i := 12) (v := ?va12x13) rfl (by kernel_rfl) (by kernel_rfl) (by kernel_rfl) (fun _ _ _ h => h) (Or.inl ⟨by rfl, ?hy12x13⟩) (by assumption) ?rest12x13
  case hy12x13 => (intro w hSw; (try dsimp only at hSw); go_simp; try with_reducible rfl)
  (try simp only [Act.put, List.getElem_toArray, List.getElem_cons_zero, List.getElem_cons_succ, List.setIfInBounds_toArray, List.set_cons_zero, List.set_cons_succ])
  refine wpAnyH_ready (rs := [13]) (by kernel_rfl) (by simp) ?_
  refine AllReadyH.cons rfl (fun K hK => ?_) AllReadyH.nil
  go_simp
  refine hK.out _ _ (⟨U2.out.cell 0, U2.out.cell 1, U2.out.cell 2, U2.out.cell 3, V2.out.cell 1⟩) (fun hHeld => ?_)
  clear hK K
  (try simp only [Act.put, List.getElem_toArray, List.getElem_cons_zero, List.getElem_cons_succ, List.setIfInBounds_toArray, List.set_cons_zero, List.set_cons_succ])
  refine wpAnyH_ready (rs := [14]) (by kernel_rfl) (by simp) ?_
  refine AllReadyH.cons rfl (fun K hK => ?_) AllReadyH.nil
  go_simp
  refine (c_ScanThing a b c d h cs k _ A2.out Z2.out).mono ?_
  intro e w3 hend
  obtain ⟨v3, rfl, ho3, hb3⟩ := hend
  rw [HOK.out]
  rw [HSR.out] at ho3
  have A3 := Lib.hid (A2.out.below hb3); have O3 : Hid (OwnC w3 x0.heap.size w3.heap.size v3 (scan cs (h.f.getD k []) k)) := ho3
  have B3 := Lib.hid (bst B2.out hb3 B2.out.size); have U3 := Lib.hid (Row.below U2.out hb3); have V3 := Lib.hid (Row.below V2.out hb3); have R3 := Lib.hid (show RowM _ _ _ _ _ _ from Row.below R2.out hb3)
  have L3 : Hid (w.heap.size + 1 + 1 < x0.heap.size ∧ x0.heap.size ≤ w3.heap.size) := ⟨R2.out.lt, hb3.size⟩
  clear ho3 hb3
  refine hK.out _ _ (⟨U3.out.cell 0, U3.out.cell 1, U3.out.cell 2, U3.out.cell 3, V3.out.cell 1⟩) (fun hHeld => ?_)
  clear hK K
  (try simp only [Act.put, List.getElem_toArray, List.getElem_cons_zero, List.getElem_cons_succ, List.setIfInBounds_toArray, List.set_cons_zero, List.set_cons_succ])
  refine wpAnyH_take (i := 15) (v := ?va15x14) rfl (by kernel_rfl) (by kernel_rfl) (by kernel_rfl) (fun _ _ _ h => h) (Or.inl ⟨by rfl, ?hy15x14⟩) (by assumption) ?rest15x14
  case hy15x14 => (intro w hSw; (try dsimp only at hSw); go_simp; try with_reducible rfl)
  (try simp only [Act.put, List.getElem_toArray, List.getElem_cons_zero, List.getElem_cons_succ, List.setIfInBounds_toArray, List.set_cons_zero, List.set_cons_succ])
  refine wpAnyH_take (i := 16) (v := ?va16x15) rfl (by kernel_rfl) (by kernel_rfl) (by kernel_rfl) (fun _ _ _ h => h) (Or.inl ⟨by rfl, ?hy16x15⟩) (by assumption) ?rest16x15
  case hy16x15 => (intro w hSw; (try dsimp only at hSw); go_simp; try with_reducible rfl)
  (try simp only [Act.put, List.getElem_toArray, List.getElem_cons_zero, List.getElem_cons_succ, List.setIfInBounds_toArray, List.set_cons_zero, List.set_cons_succ])
  refine wpAnyH_take (i := 17) (v := ?va17x16) rfl (by kernel_rfl) (by kernel_rfl) (by kernel_rfl) (fun _ _ _ h => h) (Or.inl ⟨by rfl, ?hy17x16⟩) (by assumption) ?rest17x16
  case hy17x16 => (intro w hSw; (try dsimp only at hSw); go_simp; try with_reducible rfl)
  (try simp only [Act.put, List.getElem_toArray, List.getElem_cons_zero, List.getElem_cons_succ, List.setIfInBounds_toArray, List.set_cons_zero, List.set_cons_succ])
  refine wpAnyH_take (i := 18) (v := ?va18x17) rfl (by kernel_rfl) (by kernel_rfl) (by kernel_rfl) (fun _ _ _ h => h) (Or.inl ⟨by rfl, ?hy18x17⟩) (by assumption) ?rest18x17
  case hy18x17 => (intro w hSw; (try dsimp only at hSw); go_simp; try with_reducible rfl)
  (try simp only [Act.put, List.getElem_toArray, List.getElem_cons_zero, List.getElem_cons_succ, List.setIfInBounds_toArray, List.set_cons_zero, List.set_cons_succ])
  refine wpAnyH_take (i := 19) (v := ?va19x18) rfl (by kernel_rfl) (by kernel_rfl) (by kernel_rfl) (fun _ _ _ h => h) (Or.inl ⟨by rfl, ?hy19x18⟩) (by assumption) ?rest19x18
  case hy19x18 => (intro w hSw; (try dsimp only at hSw); go_simp; try with_reducible rfl)
  (try simp only [Act.put, List.getElem_toArray, List.getElem_cons_zero, List.getElem_cons_succ, List.setIfInBounds_toArray, List.set_cons_zero, List.set_cons_succ])
  refine wpAnyH_done (by kernel_rfl) ?_ _
  clear hHeld dt
  have e0 := U3.out.cell 0
  have e1 := U3.out.cell 1
  have e2 := U3.out.cell 2
  go_wp2_with fail
  clear e0 e1 e2
  refine (c_copyHeap a b c h _ A3.out HG.out).mono ?_
  rintro e w4 ⟨a4, b4, c4, rfl, ho4, hb4⟩
  have B4 := Lib.hid (bst B3.out hb4 B3.out.size); have R4 := Lib.hid (show RowM _ _ _ _ _ _ from Row.below R3.out hb4)
  have M4 := Lib.hid (OwnM.ch ho4 (OwnH.below O3.out hb4) L3.out.2 hb4.size)
  clear ho4 hb4
  obtain ⟨⟨pa, qa, e1⟩, ⟨pb, qb, e2⟩, ⟨pc, qc, e3⟩, ⟨pd, qd, e4⟩⟩ := M4.out.shapes
  subst e1 e2 e3 e4
  have HO1 : Hid (outH ok h = h) := by unfold Hid outH; rw [HE.out, if_pos rfl]
  have HO2 : Hid (outC ok (scan cs (h.f.getD k []) k) = scan cs (h.f.getD k []) k) := by unfold Hid outC; rw [HE.out, if_pos rfl]
  generalize scan cs (h.f.getD k []) k = out at *
  generalize h.f.length = nf at *
  generalize h.l.length = nl at *
  generalize h.r.length = nr at *
  generalize out.length = nc at *
  go_wp2_with (refine wl_storeM rfl _ _ rfl (w.heap.size + 1 + 1) (.slice pa nf qa) (.slice pb nl qb) (.slice pc nr qc) (.slice pd nc qd) _ _ _ _ R4.out rfl rfl rfl rfl rfl rfl ?_)
  refine bodyPost_ret (res_row_slot Try.results184 (Row.put R4.out (m4 (.slice pa nf qa) (.slice pb nl qb) (.slice pc nr qc) (.slice pd nc qd))) rfl rfl Try.underlying34 rfl info_marking) rfl (endM_yes (below_setRow B4.out (by omega) _) (M4.out.whole (w.heap.size + 1 + 1) L3.out.1 _) (by have := L3.out.1; omega) (by rw [size_setRow]; exact Nat.le_refl _) HO1.out HO2.out HE.out)
end Go.Proofs.Ytbmfkgfmibpkjaa
