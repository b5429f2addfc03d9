/- What the laws of chapter 4 draw. -/
import Derived.Test.YtcelebblcjhpaaaDoorDs2
namespace Go.Proofs.YtcelebblcjhpaaaDoor
open Go.RowKit Pb

def SpnOut (w : World) (e : Ending) (w' : World) : Prop := ∃ (f k l : Int) (v' : Value) (zs : List Int), SpanB f l zs ∧ e = .returned (sp f k l v') ∧ Own w' w.heap.size v' zs ∧ Below w.heap.size w w'
def SpnIntOut (w : World) (e : Ending) (w' : World) : Prop := ∃ (f k l : Int) (v' : Value) (zs : List Int) (x : Int), SpanB f l zs ∧ (-100 ≤ x ∧ x ≤ 3000) ∧ e = .returned (.tuple #[sp f k l v', .int .i64 x]) ∧ Own w' w.heap.size v' zs ∧ Below w.heap.size w w'
def SpnBitsOut (w : World) (e : Ending) (w' : World) : Prop := ∃ (f k l : Int) (v' : Value) (zs : List Int) (m : Int) (u' : Value) (ys : List Int), SpanB f l zs ∧ ys.length ≤ 6 ∧ e = .returned (.tuple #[sp f k l v', bm m u']) ∧ Own w' w.heap.size v' zs ∧ Own w' w.heap.size u' ys ∧ Below w.heap.size w w'
def drawnS (w : World) (v : Value) : World := (w.alloc (.cells (c4 0 0 0 (.slice none 0 0)) 27)).alloc (.cells #[v, .int .i64 0, .int .u64 0] 92)
theorem drawnS_cur {w : World} {v : Value} {zs : List Int} (h : BytesAt w v zs) : CurIs (drawnS w v) (w.heap.size + 1) 0 := by
  have := cur_new (h.below ((Below.refl w.heap.size w).alloc (Nat.le_refl _) (.cells (c4 0 0 0 (.slice none 0 0)) 27)))
  simpa [drawnS] using this
theorem drawnS_row (w : World) (v : Value) : RowS (drawnS w v) w.heap.size 0 0 0 (.slice none 0 0) := Row.alloc (show RowS (w.alloc (.cells (c4 0 0 0 (.slice none 0 0)) 27)) w.heap.size 0 0 0 (.slice none 0 0) from Row.new w _ _) _
theorem drawnS_out {w w' : World} {v : Value} (h : (drawnS w v).grownBy w' (some (w.heap.size + 1))) : Below w.heap.size w w' :=
  (((Below.refl w.heap.size w).alloc (Nat.le_refl _) _).alloc (by simp) _ : Below w.heap.size w (drawnS w v)).grown h (by simp; omega) (fun k hk => by simp at hk; omega)

set_option maxHeartbeats 3200000 in
set_option maxRecDepth 100000 in
theorem c_DrawGoodSpan (v : Value) (zs : List Int) (w : World) (h : BytesAt w v zs) : Calls Tryd.prog 45 #[v] w (SpnOut w) := by
  have HC := Lib.hid (drawnS_cur h)
  have r1 := drawnS_row w v
  have GG : Hid (∀ X, (drawnS w v).grownBy X (some (w.heap.size + 1)) → Below w.heap.size w X) := fun X hX => drawnS_out hX
  have hsz : (drawnS w v).heap.size = w.heap.size + 2 := by simp [drawnS]
  obtain ⟨_, _, a, cap, rfl, _⟩ := h
  generalize zs.length = m at *
  go_enter Tryd.func45, Tryd.ntmps45
  go_wp2_with fail
  refine (c_spanD (w.heap.size + 1) 0 _ HC.out (by omega)).mono ?_
  rintro e w1 ⟨f, k, l, v', ys, hSB, rfl, ho, hc1, hg1⟩
  have s1 := hg1.size
  rw [hsz] at s1
  obtain ⟨vg, vc, hvs, _⟩ := ho.shape
  subst hvs
  have HSB := Lib.hid hSB; clear hSB
  generalize hnn : ys.length = nn at *
  have HN := Lib.hid hnn; clear hnn
  have R := Row.grownBy r1 hg1 (by simp)
  have B2 := GG.out _ hg1
  have HO := Lib.hid (ho.mono (show w.heap.size ≤ _ by rw [hsz]; omega))
  clear hsz r1 hg1 hc1 HC GG ho
  go_wp2_with (refine wl_storeS rfl _ _ rfl w.heap.size f k l (.slice vg nn vc) _ _ _ _ R rfl rfl rfl ?_)
  exact bodyPost_ret (res_row Tryd.results45 (Row.put R (c4 f k l (.slice vg nn vc))) rfl Tryd.underlying27 rfl info_span) rfl ⟨f, k, l, _, ys, HSB.out, rfl, Own.put HO.out _ _ (own_row_ne' HO.out R), below_setRow B2 (Nat.le_refl _) _⟩


set_option maxHeartbeats 3200000 in
set_option maxRecDepth 100000 in
theorem c_DrawTakeSlot (v : Value) (zs : List Int) (w : World) (h : BytesAt w v zs) : Calls Tryd.prog 12 #[v] w (SpnOut w) := by
  have h1 := h.below ((Below.refl w.heap.size w).alloc (Nat.le_refl _) (.cells (c4 0 0 0 (.slice none 0 0)) 27))
  have HB := Lib.hid h1
  have r1 : RowS (w.alloc (.cells (c4 0 0 0 (.slice none 0 0)) 27)) w.heap.size 0 0 0 (.slice none 0 0) := Row.new w _ _
  clear h h1
  go_enter Tryd.func12, Tryd.ntmps12
  go_wp2_with fail
  refine (c_DrawGoodSpan v zs _ HB.out).mono ?_
  rintro e w2 ⟨f, k, l, v', ys, hSB, rfl, ho, hb⟩
  have R := Row.below r1 hb
  have B2 : Below w.heap.size w w2 := ((Below.refl w.heap.size w).alloc (Nat.le_refl _) _).trans (hb.mono (by simp))
  obtain ⟨vg, vc, hvs, _⟩ := ho.shape
  subst hvs
  have HSB := Lib.hid hSB; have HO := Lib.hid (ho.mono (show w.heap.size ≤ _ by simp)); clear hSB ho hb r1 HB
  generalize hnn : ys.length = nn at *
  have HN := Lib.hid hnn; clear hnn
  go_wp2_with (refine wl_storeS rfl _ _ rfl w.heap.size f k l (.slice vg nn vc) _ _ _ _ R rfl rfl rfl ?_)
  exact bodyPost_ret (res_row Tryd.results12 (Row.put R (c4 f k l (.slice vg nn vc))) rfl Tryd.underlying27 rfl info_span) rfl ⟨f, k, l, _, ys, HSB.out, rfl, Own.put HO.out _ _ (own_row_ne' HO.out R), below_setRow B2 (Nat.le_refl _) _⟩


set_option maxHeartbeats 3200000 in
theorem c_DrawNewSpan (v : Value) (zs : List Int) (w : World) (h : BytesAt w v zs) : Calls Tryd.prog 28 #[v] w fun e w' => ∃ x y : Int, e = .returned (.tuple #[.int .i64 x, .int .i64 y]) ∧ Below w.heap.size w w' := by
  have hc := cur_new h
  have HC := Lib.hid hc; clear hc
  obtain ⟨_, _, a, cap, rfl, _⟩ := h
  generalize zs.length = m at *
  go_enter Tryd.func28, Tryd.ntmps28
  go_wp2_with fail
  have ho : Own ((w.alloc (.cells #[.slice a m cap, .int .i64 0, .int .u64 0] 92)).alloc (.cells #[.int .i64 (-1), .int .i64 0, .int .i64 5, .int .i64 24, .int .i64 31, .int .i64 32] 3)) (w.heap.size + 1) (.slice (some ⟨w.heap.size + 1, 0, none⟩) 6 6) [-1, 0, 5, 24, 31, 32] :=
    ⟨rfl, .inr ⟨w.heap.size + 1, 6, _, rfl, Nat.le_refl _, by simpa using heap_alloc_new (w.alloc (.cells #[.slice a m cap, .int .i64 0, .int .u64 0] 92)) _, Nat.le_refl _, by decide, rfl, rfl⟩⟩
  refine (c_among w.heap.size 0 _ [-1, 0, 5, 24, 31, 32] (-1) 32 _ (HC.out.below ((Below.refl _ _).alloc (Nat.le_refl _) _)) (by omega) ho (by simp) (by simp) (by intro z hz; simp at hz; omega)).mono ?_
  rintro e w2 ⟨y, hy, rfl, hc2, hg2⟩
  have G2 := below_of_cur (grownBy_trans (World.grownBy_alloc _ _ _) hg2)
  clear ho HC
  go_wp2_with fail
  refine (c_pick w.heap.size _ 40 _ hc2 (by omega) (by omega) (by omega)).mono ?_
  rintro e w3 ⟨z, hz, rfl, hc3, hg3⟩
  have G3 := Lib.hid (G2.grown hg3 G2.size (fun k hk => by simp at hk; omega))
  have i1 : IntKind.i64.wrap (z - 1) = z - 1 := IntWalk.i64_in _ (by omega)
  clear G2 hg2 hg3 hc2 hc3
  go_wp2
  go_ret2
  exact ⟨y, z - 1, rfl, G3.out⟩


set_option maxHeartbeats 3200000 in
set_option maxRecDepth 100000 in
theorem c_DrawFreeSlot (v : Value) (zs : List Int) (w : World) (h : BytesAt w v zs) : Calls Tryd.prog 25 #[v] w (SpnIntOut w) := by
  have HC := Lib.hid (drawnS_cur h)
  have r1 := drawnS_row w v
  have GG : Hid (∀ X, (drawnS w v).grownBy X (some (w.heap.size + 1)) → Below w.heap.size w X) := fun X hX => drawnS_out hX
  have hsz : (drawnS w v).heap.size = w.heap.size + 2 := by simp [drawnS]
  obtain ⟨_, _, a, cap, rfl, _⟩ := h
  generalize zs.length = m at *
  go_enter Tryd.func25, Tryd.ntmps25
  go_wp2_with fail
  refine (c_spanD (w.heap.size + 1) 0 _ HC.out (by omega)).mono ?_
  rintro e w1 ⟨f, k, l, v', ys, hSB, rfl, ho, hc1, hg1⟩
  have s1 := hg1.size
  rw [hsz] at s1
  obtain ⟨vg, vc, hvs, _⟩ := ho.shape
  subst hvs
  have HSB := Lib.hid hSB; clear hSB
  generalize hnn : ys.length = nn at *
  have HN := Lib.hid hnn; clear hnn
  go_wp2_with fail
  refine (c_pick (w.heap.size + 1) _ 14 _ hc1 (by omega) (by omega) (by omega)).mono ?_
  rintro e w2 ⟨x, hx, rfl, hc2, hg2⟩
  have R := Row.grownBy (Row.grownBy r1 hg1 (by simp)) hg2 (by simp)
  have B2 := GG.out _ (grownBy_trans hg1 hg2)
  have i1 : IntKind.i64.wrap (x - 1) = x - 1 := IntWalk.i64_in _ (by omega)
  have HO := Lib.hid ((own_up ho hg2 (by rw [hsz]; omega)).mono (show w.heap.size ≤ _ by rw [hsz]; omega))
  clear hsz r1 hg1 hc1 HC GG ho hg2 hc2
  go_wp2_with (refine wl_storeS rfl _ _ rfl w.heap.size f k l (.slice vg nn vc) _ _ _ _ R rfl rfl rfl ?_)
  exact bodyPost_ret (res_row_slot Tryd.results25 (Row.put R (c4 f k l (.slice vg nn vc))) rfl rfl Tryd.underlying27 rfl info_span) rfl ⟨f, k, l, _, ys, x - 1, HSB.out, by omega, rfl, Own.put HO.out _ _ (own_row_ne' HO.out R), below_setRow B2 (Nat.le_refl _) _⟩


set_option maxHeartbeats 3200000 in
set_option maxRecDepth 100000 in
theorem c_DrawThingAt (v : Value) (zs : List Int) (w : World) (h : BytesAt w v zs) : Calls Tryd.prog 23 #[v] w (SpnIntOut w) := by
  have HC := Lib.hid (drawnS_cur h)
  have r1 := drawnS_row w v
  have GG : Hid (∀ X, (drawnS w v).grownBy X (some (w.heap.size + 1)) → Below w.heap.size w X) := fun X hX => drawnS_out hX
  have hsz : (drawnS w v).heap.size = w.heap.size + 2 := by simp [drawnS]
  obtain ⟨_, _, a, cap, rfl, _⟩ := h
  generalize zs.length = m at *
  go_enter Tryd.func23, Tryd.ntmps23
  go_wp2_with fail
  refine (c_spanD (w.heap.size + 1) 0 _ HC.out (by omega)).mono ?_
  rintro e w1 ⟨f, k, l, v', ys, hSB, rfl, ho, hc1, hg1⟩
  have s1 := hg1.size
  rw [hsz] at s1
  obtain ⟨vg, vc, hvs, _⟩ := ho.shape
  subst hvs
  have HSB := Lib.hid hSB; clear hSB
  generalize hnn : ys.length = nn at *
  have HN := Lib.hid hnn; clear hnn
  have X5 : RowS (w1.alloc (.cells (c4 f k l (.slice vg nn vc)) 27)) w1.heap.size f k l (.slice vg nn vc) := Row.new w1 _ _
  have R := (Row.grownBy r1 hg1 (by simp)).alloc (.cells (c4 f k l (.slice vg nn vc)) 27)
  have G1 := grownBy_alloc' hg1 (.cells (c4 f k l (.slice vg nn vc)) 27)
  have HO := (ho.mono (show w.heap.size + 2 ≤ _ by rw [hsz]; omega)).below ((Below.refl _ _).alloc (Nat.le_refl _) (.cells (c4 f k l (.slice vg nn vc)) 27))
  have hc5 := hc1.below ((Below.refl _ _).alloc (Nat.le_refl _) (.cells (c4 f k l (.slice vg nn vc)) 27))
  have GD : (w1.alloc (.cells (c4 f k l (.slice vg nn vc)) 27)).grownBy (w1.alloc (.cells (c4 f k l (.slice vg nn vc)) 27)).drew (some (w.heap.size + 1)) := grownBy_drew (World.grownBy.refl _ _)
  have hcd : CurIs (w1.alloc (.cells (c4 f k l (.slice vg nn vc)) 27)).drew ((w.heap.size + 1)) _ := hc5
  have KS : Hid (∀ X, (w1.alloc (.cells (c4 f k l (.slice vg nn vc)) 27)).grownBy X (some (w.heap.size + 1)) → X.cell? ⟨w1.heap.size, 0, none⟩ = some (.int .i64 f) ∧ X.cell? ⟨w1.heap.size, 1, none⟩ = some (.int .i64 k) ∧ X.cell? ⟨w1.heap.size, 2, none⟩ = some (.int .i64 l) ∧ X.cell? ⟨w1.heap.size, 3, none⟩ = some (.slice vg nn vc)) := fun X hX => ⟨RowS.c0 (Row.grownBy X5 hX (by (try simp); omega)), RowS.c1 (Row.grownBy X5 hX (by (try simp); omega)), RowS.c2 (Row.grownBy X5 hX (by (try simp); omega)), RowS.c3 (Row.grownBy X5 hX (by (try simp); omega))⟩
  have hfb := HSB.out.1
  have i1 : IntKind.i64.wrap (f * 64) = f * 64 := IntWalk.i64_in _ (by omega)
  go_wp2_with fail
  refine wp_region_noPanic ?_
  refine wp_region_held_drew (S := (fun w' => w'.cell? ⟨w1.heap.size, 0, none⟩ = some (.int .i64 f) ∧ w'.cell? ⟨w1.heap.size, 1, none⟩ = some (.int .i64 k) ∧ w'.cell? ⟨w1.heap.size, 2, none⟩ = some (.int .i64 l) ∧ w'.cell? ⟨w1.heap.size, 3, none⟩ = some (.slice vg nn vc))) (by kernel_rfl) (KS.out _ GD) (fun hHeld => ?_)
  refine wpAnyH_take (i := 0) (v := ?va0x10) rfl (by kernel_rfl) (by kernel_rfl) (by kernel_rfl) (fun _ _ _ h => h) (Or.inl ⟨by rfl, ?hy0x10⟩) (by assumption) ?rest0x10
  case hy0x10 => (intro w hSw; (try dsimp only at hSw); go_simp; try with_reducible rfl)
  (try simp only [Act.put, List.getElem_toArray, List.getElem_cons_zero, List.setIfInBounds_toArray, List.set_cons_zero, List.set_cons_succ])
  refine wpAnyH_take (i := 1) (v := ?va1x11) rfl (by kernel_rfl) (by kernel_rfl) (by kernel_rfl) (fun _ _ _ h => h) (Or.inl ⟨by rfl, ?hy1x11⟩) (by assumption) ?rest1x11
  case hy1x11 => (intro w hSw; (try dsimp only at hSw); go_simp; try with_reducible rfl)
  (try simp only [Act.put, List.getElem_toArray, List.getElem_cons_zero, List.getElem_cons_succ, List.setIfInBounds_toArray, List.set_cons_zero, List.set_cons_succ])
  refine wpAnyH_take (i := 2) (v := ?va2x12) rfl (by kernel_rfl) (by kernel_rfl) (by kernel_rfl) (fun _ _ _ h => h) (Or.inl ⟨by rfl, ?hy2x12⟩) (by assumption) ?rest2x12
  case hy2x12 => (intro w hSw; (try dsimp only at hSw); go_simp; try with_reducible rfl)
  (try simp only [Act.put, List.getElem_toArray, List.getElem_cons_zero, List.getElem_cons_succ, List.setIfInBounds_toArray, List.set_cons_zero, List.set_cons_succ])
  refine wpAnyH_take (i := 3) (v := ?va3x13) rfl (by kernel_rfl) (by kernel_rfl) (by kernel_rfl) (fun _ _ _ h => h) (Or.inl ⟨by rfl, ?hy3x13⟩) (by assumption) ?rest3x13
  case hy3x13 => (intro w hSw; (try dsimp only at hSw); go_simp; try with_reducible rfl)
  (try simp only [Act.put, List.getElem_toArray, List.getElem_cons_zero, List.getElem_cons_succ, List.setIfInBounds_toArray, List.set_cons_zero, List.set_cons_succ])
  refine wpAnyH_take (i := 4) (v := ?va4x14) rfl (by kernel_rfl) (by kernel_rfl) (by kernel_rfl) (fun _ _ _ h => h) (Or.inl ⟨by rfl, ?hy4x14⟩) (by assumption) ?rest4x14
  case hy4x14 => (intro w hSw; (try dsimp only at hSw); go_simp; try with_reducible rfl)
  (try simp only [Act.put, List.getElem_toArray, List.getElem_cons_zero, List.getElem_cons_succ, List.setIfInBounds_toArray, List.set_cons_zero, List.set_cons_succ])
  refine wpAnyH_take (i := 7) (v := ?va7x15) rfl (by kernel_rfl) (by kernel_rfl) (by kernel_rfl) (fun _ _ _ h => h) (Or.inl ⟨by rfl, ?hy7x15⟩) (by assumption) ?rest7x15
  case hy7x15 => (intro w hSw; (try dsimp only at hSw); go_simp; try with_reducible rfl)
  (try simp only [Act.put, List.getElem_toArray, List.getElem_cons_zero, List.getElem_cons_succ, List.setIfInBounds_toArray, List.set_cons_zero, List.set_cons_succ])
  refine wpAnyH_ready (rs := [5]) (by kernel_rfl) (by simp) ?_
  refine AllReadyH.cons rfl (fun K hK => ?_) AllReadyH.nil
  go_simp
  refine (c_pick (w.heap.size + 1) _ 200 _ hcd (by omega) (by omega) (by omega)).mono ?_
  rintro e q1 ⟨x, hx, rfl, hc6, hgk⟩
  have gk1 := grownBy_trans GD hgk
  have i2 : IntKind.i64.wrap (f * 64 + x) = f * 64 + x := IntWalk.i64_in _ (by omega)
  refine hK.out _ _ (KS.out _ gk1) (fun hHeld => ?_)
  clear hK K
  (try simp only [Act.put, List.getElem_toArray, List.getElem_cons_zero, List.getElem_cons_succ, List.setIfInBounds_toArray, List.set_cons_zero, List.set_cons_succ])
  refine wpAnyH_take (i := 6) (v := ?va6x16) rfl (by kernel_rfl) (by kernel_rfl) (by kernel_rfl) (fun _ _ _ h => h) (Or.inl ⟨by rfl, ?hy6x16⟩) (by assumption) ?rest6x16
  case hy6x16 => (intro w hSw; (try dsimp only at hSw); go_simp; try with_reducible rfl)
  (try simp only [Act.put, List.getElem_toArray, List.getElem_cons_zero, List.getElem_cons_succ, List.setIfInBounds_toArray, List.set_cons_zero, List.set_cons_succ])
  refine wpAnyH_ready (rs := [8]) (by kernel_rfl) (by simp) ?_
  refine AllReadyH.cons rfl (fun K hK => ?_) AllReadyH.nil
  go_simp
  refine (c_pick (w.heap.size + 1) _ 9 _ hc6 (by omega) (by omega) (by omega)).mono ?_
  rintro e q2 ⟨y, hy, rfl, hc7, hgk2⟩
  have gk2 := grownBy_trans gk1 hgk2
  obtain ⟨t, ht, htl⟩ : ∃ t : Int, Int.tdiv y 8 = t ∧ (0 ≤ t ∧ t ≤ 1) := ⟨y / 8, by rw [Int.tdiv_eq_ediv_of_nonneg hy.1], by omega⟩
  have i3 : IntKind.i64.wrap (Int.tdiv y 8) = t := by rw [ht]; exact IntWalk.i64_in _ (by omega)
  have i5 : y / 8 = t := by rw [← ht, Int.tdiv_eq_ediv_of_nonneg hy.1]
  have i6 : IntKind.i64.wrap t = t := IntWalk.i64_in _ (by omega)
  have i4 : IntKind.i64.wrap (f * 64 + x - t) = f * 64 + x - t := IntWalk.i64_in _ (by omega)
  refine hK.out _ _ (KS.out _ gk2) (fun hHeld => ?_)
  clear hK K
  (try simp only [Act.put, List.getElem_toArray, List.getElem_cons_zero, List.getElem_cons_succ, List.setIfInBounds_toArray, List.set_cons_zero, List.set_cons_succ])
  refine wpAnyH_take (i := 9) (v := ?va9x17) rfl (by kernel_rfl) (by kernel_rfl) (by kernel_rfl) (fun _ _ _ h => h) (Or.inl ⟨by rfl, ?hy9x17⟩) (by assumption) ?rest9x17
  case hy9x17 => (intro w hSw; (try dsimp only at hSw); go_simp; try with_reducible rfl)
  (try simp only [Act.put, List.getElem_toArray, List.getElem_cons_zero, List.getElem_cons_succ, List.setIfInBounds_toArray, List.set_cons_zero, List.set_cons_succ])
  refine wpAnyH_take (i := 10) (v := ?va10x18) rfl (by kernel_rfl) (by kernel_rfl) (by kernel_rfl) (fun _ _ _ h => h) (Or.inl ⟨by rfl, ?hy10x18⟩) (by assumption) ?rest10x18
  case hy10x18 => (intro w hSw; (try dsimp only at hSw); go_simp; try with_reducible rfl)
  (try simp only [Act.put, List.getElem_toArray, List.getElem_cons_zero, List.getElem_cons_succ, List.setIfInBounds_toArray, List.set_cons_zero, List.set_cons_succ])
  have RR := Row.grownBy R gk2 (by simp)
  have BB := GG.out _ (grownBy_trans G1 gk2)
  have OO := own_up HO gk2 (by omega)
  have hs1 : w.heap.size < w1.heap.size := by omega
  have d0 := RowS.c0 RR; have d1 := RowS.c1 RR; have d2 := RowS.c2 RR; have d3 := RowS.c3 RR
  have z0 := Row.frozen RR 0; have z1 := Row.frozen RR 1; have z2 := Row.frozen RR 2; have z3 := Row.frozen RR 3
  have K4 := Lib.hid (row_set4 (g' := w.heap.size) (Row.grownBy X5 gk2 (by (try simp); omega)) (by omega) (.int .i64 f) (.int .i64 k) (.int .i64 l) (.slice vg nn vc))
  refine wpAnyH_ready (rs := [11]) (by kernel_rfl) (by simp) ?_
  refine AllReadyH.cons rfl (fun K hK => ?_) AllReadyH.nil
  go_simp
  refine hK.out _ _ (⟨RowS.c0 K4.out, RowS.c1 K4.out, RowS.c2 K4.out, RowS.c3 K4.out⟩) (fun hHeld => ?_)
  clear hK K
  (try simp only [Act.put, List.getElem_toArray, List.getElem_cons_zero, List.getElem_cons_succ, List.setIfInBounds_toArray, List.set_cons_zero, List.set_cons_succ])
  refine wpAnyH_take (i := 12) (v := ?va12x19) rfl (by kernel_rfl) (by kernel_rfl) (by kernel_rfl) (fun _ _ _ h => h) (Or.inl ⟨by rfl, ?hy12x19⟩) (by assumption) ?rest12x19
  case hy12x19 => (intro w hSw; (try dsimp only at hSw); go_simp; try with_reducible rfl)
  (try simp only [Act.put, List.getElem_toArray, List.getElem_cons_zero, List.getElem_cons_succ, List.setIfInBounds_toArray, List.set_cons_zero, List.set_cons_succ])
  refine wpAnyH_done (by kernel_rfl) ?_ _
  refine NoPanic.normal ?_
  have SR := rowS_set4 RR f k l (.slice vg nn vc)
  have OW := Own.setApart4 (OO.mono (show w.heap.size ≤ w.heap.size + 2 by omega)) w.heap.size (.int .i64 f) (.int .i64 k) (.int .i64 l) (.slice vg nn vc) (own_row_ne' OO RR)
  have BL := below_set4 (g := w.heap.size) BB (Nat.le_refl _) (.int .i64 f) (.int .i64 k) (.int .i64 l) (.slice vg nn vc)
  clear d0 d1 d2 d3 z0 z1 z2 z3 K4
  generalize (((q2.setCell ⟨w.heap.size, 0, none⟩ (.int .i64 f)).setCell ⟨w.heap.size, 1, none⟩ (.int .i64 k)).setCell ⟨w.heap.size, 2, none⟩ (.int .i64 l)).setCell ⟨w.heap.size, 3, none⟩ (.slice vg nn vc) = w9 at *
  go_wp2
  exact bodyPost_ret (res_row_slot Tryd.results23 SR rfl rfl Tryd.underlying27 rfl info_span) rfl ⟨f, k, l, _, ys, f * 64 + x - t, HSB.out, by omega, rfl, OW, BL⟩


theorem res_row2 {P : Program} {fn : Func} {p p' : Tmp} {ty ty' : TypeId} (h : fn.results = #[.cell p ty, .cell p' ty']) {tmps : Array Value} {w : World} {g g' : Nat} {t t' : TypeId} {cs cs' : Array Value} {d d' : TypeDesc} (hg : Row w g t cs) (hg' : Row w g' t' cs')
    (hp : tmps.getD p undef = .pointer (some ⟨g, 0, none⟩)) (hp' : tmps.getD p' undef = .pointer (some ⟨g', 0, none⟩)) (hu : P.underlying ty = some d) (hd : (match d with | .struct _ | .array _ _ => true | _ => false) = true) (hi : (P.info? ty).map (·.size) = some cs.size)
    (hu' : P.underlying ty' = some d') (hd' : (match d' with | .struct _ | .array _ _ => true | _ => false) = true) (hi' : (P.info? ty').map (·.size) = some cs'.size) :
    (results fn tmps).run P w = .ok (.tuple #[.agg cs, .agg cs']) w := by
  have e1 : tmps[p]?.getD undef = .pointer (some ⟨g, 0, none⟩) := by simpa using hp
  have e2 : tmps[p']?.getD undef = .pointer (some ⟨g', 0, none⟩) := by simpa using hp'
  simp [results, h, e1, e2, asAddr, run_loadVar_row w g t ty cs (0, 0) d hg hu hd hi, run_loadVar_row w g' t' ty' cs' (0, 0) d' hg' hu' hd' hi']
def drawnS2 (w : World) (v : Value) : World := (((w.alloc (.cells (c4 0 0 0 (.slice none 0 0)) 27)).alloc (.cells (cb 0 (.slice none 0 0)) 25)).alloc (.cells #[v, .int .i64 0, .int .u64 0] 92))
theorem drawnS2_cur {w : World} {v : Value} {zs : List Int} (h : BytesAt w v zs) : CurIs (drawnS2 w v) (w.heap.size + 1 + 1) 0 := by
  have := cur_new (h.below (((Below.refl w.heap.size w).alloc (Nat.le_refl _) (.cells (c4 0 0 0 (.slice none 0 0)) 27)).alloc (by simp) (.cells (cb 0 (.slice none 0 0)) 25)))
  simpa [drawnS2] using this
set_option maxHeartbeats 6400000 in
set_option maxRecDepth 100000 in
theorem c_DrawSweepSpan (v : Value) (zs : List Int) (w : World) (h : BytesAt w v zs) : Calls Tryd.prog 31 #[v] w (SpnBitsOut w) := by
  have HC := Lib.hid (drawnS2_cur h)
  have ra : RowS (drawnS2 w v) w.heap.size 0 0 0 (.slice none 0 0) := ((Row.new w 27 (c4 0 0 0 (.slice none 0 0))).alloc _).alloc _
  have rb : RowB (drawnS2 w v) (w.heap.size + 1) 0 (.slice none 0 0) := (Row.new1 w _ 25 (cb 0 (.slice none 0 0))).alloc _
  have GG : Hid (∀ X, (drawnS2 w v).grownBy X (some (w.heap.size + 1 + 1)) → Below w.heap.size w X) := fun X hX => ((((Below.refl w.heap.size w).alloc (Nat.le_refl _) _).alloc (by simp) _).alloc (by simp; omega) _ : Below w.heap.size w (drawnS2 w v)).grown hX (by simp; omega) (fun k hk => by simp at hk; omega)
  have hsz : (drawnS2 w v).heap.size = w.heap.size + 3 := by simp [drawnS2]
  obtain ⟨_, _, a, cap, rfl, _⟩ := h
  generalize zs.length = m at *
  go_enter Tryd.func31, Tryd.ntmps31
  go_wp2_with fail
  refine (c_spanD (w.heap.size + 1 + 1) 0 _ HC.out (by omega)).mono ?_
  rintro e w1 ⟨f, k, l, v', ys, hSB, rfl, ho, hc1, hg1⟩
  have s1 := hg1.size
  rw [hsz] at s1
  obtain ⟨vg, vc, hvs, _⟩ := ho.shape
  subst hvs
  have hlb := hSB.2.1
  have HSB := Lib.hid hSB; clear hSB
  generalize hnn : ys.length = nn at *
  have HN := Lib.hid hnn; clear hnn
  have X5 : RowS (w1.alloc (.cells (c4 f k l (.slice vg nn vc)) 27)) w1.heap.size f k l (.slice vg nn vc) := Row.new w1 _ _
  have Ra := (Row.grownBy ra hg1 (by simp; omega)).alloc (.cells (c4 f k l (.slice vg nn vc)) 27)
  have Rb := (Row.grownBy rb hg1 (by simp)).alloc (.cells (c4 f k l (.slice vg nn vc)) 27)
  have G1 := grownBy_alloc' hg1 (.cells (c4 f k l (.slice vg nn vc)) 27)
  have HO := (ho.mono (show w.heap.size + 3 ≤ _ by rw [hsz]; omega)).below ((Below.refl _ _).alloc (Nat.le_refl _) (.cells (c4 f k l (.slice vg nn vc)) 27))
  have hc5 := hc1.below ((Below.refl _ _).alloc (Nat.le_refl _) (.cells (c4 f k l (.slice vg nn vc)) 27))
  have GD : (w1.alloc (.cells (c4 f k l (.slice vg nn vc)) 27)).grownBy (w1.alloc (.cells (c4 f k l (.slice vg nn vc)) 27)).drew (some (w.heap.size + 1 + 1)) := grownBy_drew (World.grownBy.refl _ _)
  have hcd : CurIs (w1.alloc (.cells (c4 f k l (.slice vg nn vc)) 27)).drew (w.heap.size + 1 + 1) _ := hc5
  obtain ⟨L, hL⟩ : ∃ L : Nat, l = L := ⟨l.toNat, by omega⟩
  subst hL
  have KS : Hid (∀ X, (w1.alloc (.cells (c4 f k L (.slice vg nn vc)) 27)).grownBy X (some (w.heap.size + 1 + 1)) → X.cell? ⟨w1.heap.size, 0, none⟩ = some (.int .i64 f) ∧ X.cell? ⟨w1.heap.size, 1, none⟩ = some (.int .i64 k) ∧ X.cell? ⟨w1.heap.size, 2, none⟩ = some (.int .i64 L) ∧ X.cell? ⟨w1.heap.size, 3, none⟩ = some (.slice vg nn vc)) := fun X hX => ⟨RowS.c0 (Row.grownBy X5 hX (by (try simp); omega)), RowS.c1 (Row.grownBy X5 hX (by (try simp); omega)), RowS.c2 (Row.grownBy X5 hX (by (try simp); omega)), RowS.c3 (Row.grownBy X5 hX (by (try simp); omega))⟩
  go_wp2_with fail
  refine wp_region_noPanic ?_
  refine wp_region_held_drew (S := (fun w' => w'.cell? ⟨w1.heap.size, 0, none⟩ = some (.int .i64 f) ∧ w'.cell? ⟨w1.heap.size, 1, none⟩ = some (.int .i64 k) ∧ w'.cell? ⟨w1.heap.size, 2, none⟩ = some (.int .i64 L) ∧ w'.cell? ⟨w1.heap.size, 3, none⟩ = some (.slice vg nn vc))) (by kernel_rfl) (KS.out _ GD) (fun hHeld => ?_)
  refine wpAnyH_take (i := 0) (v := ?va0x20) rfl (by kernel_rfl) (by kernel_rfl) (by kernel_rfl) (fun _ _ _ h => h) (Or.inl ⟨by rfl, ?hy0x20⟩) (by assumption) ?rest0x20
  case hy0x20 => (intro w hSw; (try dsimp only at hSw); go_simp; try with_reducible rfl)
  (try simp only [Act.put, List.getElem_toArray, List.getElem_cons_zero, List.setIfInBounds_toArray, List.set_cons_zero, List.set_cons_succ])
  refine wpAnyH_take (i := 1) (v := ?va1x21) rfl (by kernel_rfl) (by kernel_rfl) (by kernel_rfl) (fun _ _ _ h => h) (Or.inl ⟨by rfl, ?hy1x21⟩) (by assumption) ?rest1x21
  case hy1x21 => (intro w hSw; (try dsimp only at hSw); go_simp; try with_reducible rfl)
  (try simp only [Act.put, List.getElem_toArray, List.getElem_cons_zero, List.getElem_cons_succ, List.setIfInBounds_toArray, List.set_cons_zero, List.set_cons_succ])
  refine wpAnyH_take (i := 2) (v := ?va2x22) rfl (by kernel_rfl) (by kernel_rfl) (by kernel_rfl) (fun _ _ _ h => h) (Or.inl ⟨by rfl, ?hy2x22⟩) (by assumption) ?rest2x22
  case hy2x22 => (intro w hSw; (try dsimp only at hSw); go_simp; try with_reducible rfl)
  (try simp only [Act.put, List.getElem_toArray, List.getElem_cons_zero, List.getElem_cons_succ, List.setIfInBounds_toArray, List.set_cons_zero, List.set_cons_succ])
  refine wpAnyH_take (i := 3) (v := ?va3x23) rfl (by kernel_rfl) (by kernel_rfl) (by kernel_rfl) (fun _ _ _ h => h) (Or.inl ⟨by rfl, ?hy3x23⟩) (by assumption) ?rest3x23
  case hy3x23 => (intro w hSw; (try dsimp only at hSw); go_simp; try with_reducible rfl)
  (try simp only [Act.put, List.getElem_toArray, List.getElem_cons_zero, List.getElem_cons_succ, List.setIfInBounds_toArray, List.set_cons_zero, List.set_cons_succ])
  refine wpAnyH_take (i := 4) (v := ?va4x24) rfl (by kernel_rfl) (by kernel_rfl) (by kernel_rfl) (fun _ _ _ h => h) (Or.inl ⟨by rfl, ?hy4x24⟩) (by assumption) ?rest4x24
  case hy4x24 => (intro w hSw; (try dsimp only at hSw); go_simp; try with_reducible rfl)
  (try simp only [Act.put, List.getElem_toArray, List.getElem_cons_zero, List.getElem_cons_succ, List.setIfInBounds_toArray, List.set_cons_zero, List.set_cons_succ])
  refine wpAnyH_ready (rs := [5]) (by kernel_rfl) (by simp) ?_
  refine AllReadyH.cons rfl (fun K hK => ?_) AllReadyH.nil
  go_simp
  refine (c_bits (w.heap.size + 1 + 1) _ L _ hcd (by omega) (by omega)).mono ?_
  rintro e q2 ⟨lr, u', us, hul, hlr, rfl, hou, hc7, hgk2⟩
  have gk2 := grownBy_trans GD hgk2
  obtain ⟨ug, uc, hus, _⟩ := hou.shape
  subst hus
  generalize hnu : us.length = nu at *
  have HNU := Lib.hid hnu; clear hnu
  refine hK.out _ _ (KS.out _ gk2) (fun hHeld => ?_)
  clear hK K
  (try simp only [Act.put, List.getElem_toArray, List.getElem_cons_zero, List.getElem_cons_succ, List.setIfInBounds_toArray, List.set_cons_zero, List.set_cons_succ])
  have RA := Row.grownBy Ra gk2 (by simp; omega)
  have RB := Row.grownBy Rb gk2 (by simp)
  have BB := GG.out _ (grownBy_trans G1 gk2)
  have OO := own_up HO gk2 (by omega)
  have OU := hou.mono (show w.heap.size + 3 ≤ _ by simp; omega)
  have hs1 : w.heap.size < w1.heap.size := by omega
  have d0 := RowS.c0 RA; have d1 := RowS.c1 RA; have d2 := RowS.c2 RA; have d3 := RowS.c3 RA
  have z0 := Row.frozen RA 0; have z1 := Row.frozen RA 1; have z2 := Row.frozen RA 2; have z3 := Row.frozen RA 3
  have K4 := Lib.hid (row_set4 (g' := w.heap.size) (Row.grownBy X5 gk2 (by (try simp); omega)) (by omega) (.int .i64 f) (.int .i64 k) (.int .i64 L) (.slice vg nn vc))
  refine wpAnyH_ready (rs := [6]) (by kernel_rfl) (by simp) ?_
  refine AllReadyH.cons rfl (fun K hK => ?_) AllReadyH.nil
  go_simp
  refine hK.out _ _ (⟨RowS.c0 K4.out, RowS.c1 K4.out, RowS.c2 K4.out, RowS.c3 K4.out⟩) (fun hHeld => ?_)
  clear hK K
  (try simp only [Act.put, List.getElem_toArray, List.getElem_cons_zero, List.getElem_cons_succ, List.setIfInBounds_toArray, List.set_cons_zero, List.set_cons_succ])
  have SA := rowS_set4 RA f k L (.slice vg nn vc)
  have SB := row_set4 (g' := w.heap.size) RB (by omega) (.int .i64 f) (.int .i64 k) (.int .i64 L) (.slice vg nn vc)
  have OA := Own.setApart4 OO w.heap.size (.int .i64 f) (.int .i64 k) (.int .i64 L) (.slice vg nn vc) (own_row_ne' OO RA)
  have OB := Own.setApart4 OU w.heap.size (.int .i64 f) (.int .i64 k) (.int .i64 L) (.slice vg nn vc) (own_row_ne' OU RA)
  have BL := below_set4 (g := w.heap.size) BB (Nat.le_refl _) (.int .i64 f) (.int .i64 k) (.int .i64 L) (.slice vg nn vc)
  have X9 := K4.out
  clear d0 d1 d2 d3 z0 z1 z2 z3 K4 RA RB OO OU BB
  generalize (((q2.setCell ⟨w.heap.size, 0, none⟩ (.int .i64 f)).setCell ⟨w.heap.size, 1, none⟩ (.int .i64 k)).setCell ⟨w.heap.size, 2, none⟩ (.int .i64 L)).setCell ⟨w.heap.size, 3, none⟩ (.slice vg nn vc) = w9 at *
  have d0 := RowB.c0 SB; have d1 := RowB.c1 SB
  have z0 := Row.frozen SB 0; have z1 := Row.frozen SB 1
  have K5 := Lib.hid ((Row.other (Row.other X9 ⟨w.heap.size + 1, 0, none⟩ (by (try simp); omega) (.int .i64 lr)) ⟨w.heap.size + 1, 1, none⟩ (by (try simp); omega) (.slice ug nu uc)))
  refine wpAnyH_ready (rs := [7]) (by kernel_rfl) (by simp) ?_
  refine AllReadyH.cons rfl (fun K hK => ?_) AllReadyH.nil
  go_simp
  refine hK.out _ _ (⟨RowS.c0 K5.out, RowS.c1 K5.out, RowS.c2 K5.out, RowS.c3 K5.out⟩) (fun hHeld => ?_)
  clear hK K
  (try simp only [Act.put, List.getElem_toArray, List.getElem_cons_zero, List.getElem_cons_succ, List.setIfInBounds_toArray, List.set_cons_zero, List.set_cons_succ])
  refine wpAnyH_done (by kernel_rfl) ?_ _
  refine NoPanic.normal ?_
  have TB := rowB_set2 SB lr (.slice ug nu uc)
  have TA := Row.other (Row.other SA ⟨w.heap.size + 1, 0, none⟩ (by (try simp)) (.int .i64 lr)) ⟨w.heap.size + 1, 1, none⟩ (by (try simp)) (.slice ug nu uc)
  have PA := Own.setApart (OA.mono (show w.heap.size ≤ w.heap.size + 3 by omega)) (w.heap.size + 1) lr (.slice ug nu uc) (own_row_ne' OA SB)
  have PB := Own.setApart (OB.mono (show w.heap.size ≤ w.heap.size + 3 by omega)) (w.heap.size + 1) lr (.slice ug nu uc) (own_row_ne' OB SB)
  have BM := (BL.setCell (p := ⟨w.heap.size + 1, 0, none⟩) (by simp) (.int .i64 lr)).setCell (p := ⟨w.heap.size + 1, 1, none⟩) (by simp) (.slice ug nu uc)
  clear d0 d1 z0 z1 K5
  generalize (w9.setCell ⟨w.heap.size + 1, 0, none⟩ (.int .i64 lr)).setCell ⟨w.heap.size + 1, 1, none⟩ (.slice ug nu uc) = wz at *
  go_wp2
  exact bodyPost_ret (res_row2 Tryd.results31 TA TB rfl rfl Tryd.underlying27 rfl info_span Tryd.underlying25 rfl info_bits) rfl ⟨f, k, L, _, ys, lr, _, us, HSB.out, by rw [HNU.out]; exact hul, rfl, PA, PB, BM⟩

end Go.Proofs.YtcelebblcjhpaaaDoor
