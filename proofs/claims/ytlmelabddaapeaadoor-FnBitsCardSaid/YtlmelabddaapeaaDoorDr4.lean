/- What the laws of chapter 2 draw: the draws themselves. -/
import Derived.Test.YtlmelabddaapeaaDoorDr3
namespace Go.Proofs.YtlmelabddaapeaaDoor
open Go.RowKit Pb

/-- A drawn bitmap, seen from outside. -/
def BitsOut (w : World) (e : Ending) (w' : World) : Prop := ∃ (lr : Int) (v' : Value) (zs : List Int), zs.length ≤ 6 ∧ (0 ≤ lr ∧ lr ≤ 96) ∧ e = .returned (bm lr v') ∧ Own w' w.heap.size v' zs ∧ Below w.heap.size w w'
/-- A drawn bitmap and a small number. -/
def BitsIntOut (w : World) (e : Ending) (w' : World) : Prop := ∃ (lr : Int) (v' : Value) (zs : List Int) (x : Int), zs.length ≤ 6 ∧ (0 ≤ lr ∧ lr ≤ 96) ∧ (-1 ≤ x ∧ x ≤ 97) ∧ e = .returned (.tuple #[bm lr v', .int .i64 x]) ∧ Own w' w.heap.size v' zs ∧ Below w.heap.size w w'
/-- Where a draw stands behind its first two variables: the result's row, and the reader. -/
def drawnAt (w : World) (v : Value) : World := (w.alloc (.cells (cb 0 (.slice none 0 0)) 25)).alloc (.cells #[v, .int .i64 0, .int .u64 0] 62)
theorem drawnAt_cur {w : World} {v : Value} {zs : List Int} (h : BytesAt w v zs) : CurIs (drawnAt w v) (w.heap.size + 1) 0 := by
  have := cur_new (h.below ((Below.refl w.heap.size w).alloc (Nat.le_refl _) (.cells (cb 0 (.slice none 0 0)) 25)))
  simpa [drawnAt] using this
theorem drawnAt_row (w : World) (v : Value) : RowB (drawnAt w v) w.heap.size 0 (.slice none 0 0) :=
  Row.alloc (show RowB (w.alloc (.cells (cb 0 (.slice none 0 0)) 25)) w.heap.size 0 (.slice none 0 0) from Row.new w _ _) _
theorem drawnAt_below (w : World) (v : Value) : Below w.heap.size w (drawnAt w v) :=
  ((Below.refl w.heap.size w).alloc (Nat.le_refl _) _).alloc (by simp) _
theorem drawnAt_out {w w' : World} {v : Value} (h : (drawnAt w v).grownBy w' (some (w.heap.size + 1))) : Below w.heap.size w w' :=
  (drawnAt_below w v).grown h (by simp [drawnAt]; omega) (fun k hk => by simp at hk; omega)

set_option maxHeartbeats 1000000 in
theorem c_DrawGoodBits (v : Value) (zs : List Int) (w : World) (h : BytesAt w v zs) : Calls Tryd.prog 62 #[v] w (BitsOut w) := by
  have HC := Lib.hid (drawnAt_cur h)
  have r1 := drawnAt_row w v
  have GG : Hid (∀ X, (drawnAt w v).grownBy X (some (w.heap.size + 1)) → Below w.heap.size w X) := fun X hX => drawnAt_out hX
  have hsz : (drawnAt w v).heap.size = w.heap.size + 2 := by simp [drawnAt]
  obtain ⟨_, _, a, cap, rfl, _⟩ := h
  generalize zs.length = m at *
  go_enter Tryd.func62, Tryd.ntmps62
  go_wp2_with fail
  refine (c_long (w.heap.size + 1) 0 _ HC.out (by omega)).mono ?_
  rintro e w1 ⟨x, hx, rfl, hc1, hg1⟩
  have hs1 := hg1.size
  rw [hsz] at hs1
  go_wp2_with fail
  refine (c_bits (w.heap.size + 1) 4 x _ hc1 (by omega) (by omega)).mono ?_
  rintro e w2 ⟨lr, v', ys, hl, hr, rfl, ho, hc2, hg2⟩
  have R := Row.grownBy (Row.grownBy r1 hg1 (by simp)) hg2 (by simp)
  have B2 := GG.out _ (grownBy_trans hg1 hg2)
  obtain ⟨vg, vc, hvs, _⟩ := ho.shape
  subst hvs
  clear hsz r1 hg1 hg2 hc1 hc2 HC GG
  have HL := Lib.hid hl; have HO := Lib.hid (ho.mono (show w.heap.size ≤ w1.heap.size by omega)); clear hl ho
  generalize hnn : ys.length = nn at *
  have HN := Lib.hid hnn; clear hnn
  go_wp2_with (refine wl_storeB rfl _ _ rfl w.heap.size lr (.slice vg nn vc) _ _ R rfl rfl rfl ?_)
  exact bodyPost_ret (res_row Tryd.results62 (Row.put R (cb lr (.slice vg nn vc))) rfl Tryd.underlying25 rfl info_bits) rfl ⟨lr, _, ys, by rw [HN.out]; exact HL.out, hr, rfl, own_putRow HO.out _ _ (own_row_ne HO.out R), below_setRow B2 (Nat.le_refl _) _⟩

set_option maxHeartbeats 1000000 in
theorem c_DrawSetList (v : Value) (zs : List Int) (w : World) (h : BytesAt w v zs) : Calls Tryd.prog 20 #[v] w (BitsOut w) := by
  have h1 := h.below ((Below.refl w.heap.size w).alloc (Nat.le_refl _) (.cells (cb 0 (.slice none 0 0)) 25))
  have HB := Lib.hid h1
  have r1 : RowB (w.alloc (.cells (cb 0 (.slice none 0 0)) 25)) w.heap.size 0 (.slice none 0 0) := Row.new w _ _
  clear h h1
  go_enter Tryd.func20, Tryd.ntmps20
  go_wp2_with fail
  refine (c_DrawGoodBits v zs _ HB.out).mono ?_
  rintro e w2 ⟨lr, v', ys, hl, hr, rfl, ho, hb⟩
  have R := Row.below r1 hb
  have B2 : Below w.heap.size w w2 := ((Below.refl w.heap.size w).alloc (Nat.le_refl _) _).trans (hb.mono (by simp))
  obtain ⟨vg, vc, hvs, _⟩ := ho.shape
  subst hvs
  have HL := Lib.hid hl; have HO := Lib.hid (ho.mono (show w.heap.size ≤ _ by simp)); clear hl ho hb r1 HB
  generalize hnn : ys.length = nn at *
  have HN := Lib.hid hnn; clear hnn
  go_wp2_with (refine wl_storeB rfl _ _ rfl w.heap.size lr (.slice vg nn vc) _ _ R rfl rfl rfl ?_)
  exact bodyPost_ret (res_row Tryd.results20 (Row.put R (cb lr (.slice vg nn vc))) rfl Tryd.underlying25 rfl info_bits) rfl ⟨lr, _, ys, by rw [HN.out]; exact HL.out, hr, rfl, own_putRow HO.out _ _ (own_row_ne HO.out R), below_setRow B2 (Nat.le_refl _) _⟩

set_option maxHeartbeats 1000000 in
theorem c_DrawNewBits (v : Value) (zs : List Int) (w : World) (h : BytesAt w v zs) : Calls Tryd.prog 22 #[v] w fun e w' => ∃ x : Int, (-1 ≤ x ∧ x ≤ 97) ∧ e = .returned (.int .i64 x) ∧ Below w.heap.size w w' := by
  have hc := cur_new h
  have HC := Lib.hid hc; clear hc
  obtain ⟨_, _, a, cap, rfl, _⟩ := h
  generalize zs.length = m at *
  go_enter Tryd.func22, Tryd.ntmps22
  go_wp2_with fail
  have ho : Own ((w.alloc (.cells #[.slice a m cap, .int .i64 0, .int .u64 0] 62)).alloc (.cells #[.int .i64 (-1), .int .i64 0, .int .i64 16, .int .i64 17, .int .i64 96, .int .i64 97] 3)) (w.heap.size + 1) (.slice (some ⟨w.heap.size + 1, 0, none⟩) 6 6) [-1, 0, 16, 17, 96, 97] :=
    ⟨rfl, .inr ⟨w.heap.size + 1, 6, _, rfl, Nat.le_refl _, by simpa using heap_alloc_new (w.alloc (.cells #[.slice a m cap, .int .i64 0, .int .u64 0] 62)) _, Nat.le_refl _, by decide, rfl, rfl⟩⟩
  refine (c_among w.heap.size 0 _ [-1, 0, 16, 17, 96, 97] (-1) 97 _ (HC.out.below ((Below.refl _ _).alloc (Nat.le_refl _) _)) (by omega) ho (by simp) (by simp) (by intro z hz; simp at hz; omega)).mono ?_
  rintro e w2 ⟨y, hy, rfl, hc2, hg2⟩
  go_wp2
  go_ret
  exact ⟨y, hy, rfl, below_of_cur (grownBy_trans (World.grownBy_alloc _ _ _) hg2)⟩

set_option maxHeartbeats 2000000 in
theorem c_DrawIsSet (v : Value) (zs : List Int) (w : World) (h : BytesAt w v zs) : Calls Tryd.prog 18 #[v] w (BitsIntOut w) := by
  have HC := Lib.hid (drawnAt_cur h)
  have r1 := drawnAt_row w v
  have GG : Hid (∀ X, (drawnAt w v).grownBy X (some (w.heap.size + 1)) → Below w.heap.size w X) := fun X hX => drawnAt_out hX
  have hsz : (drawnAt w v).heap.size = w.heap.size + 2 := by simp [drawnAt]
  obtain ⟨_, _, a, cap, rfl, _⟩ := h
  generalize zs.length = m at *
  go_enter Tryd.func18, Tryd.ntmps18
  go_wp2_with fail
  refine (c_long (w.heap.size + 1) 0 _ HC.out (by omega)).mono ?_
  rintro e w1 ⟨x, hx, rfl, hc1, hg1⟩
  have hs1 := hg1.size
  rw [hsz] at hs1
  go_wp2_with fail
  refine (c_bits (w.heap.size + 1) 4 x _ hc1 (by omega) (by omega)).mono ?_
  rintro e w2 ⟨lr, v', ys, hl, hr, rfl, ho, hc2, hg2⟩
  have i1 : IntKind.i64.wrap ((x : Int) + 2) = (x : Int) + 2 := IntWalk.i64_in _ (by omega)
  go_wp2_with fail
  refine (c_pick (w.heap.size + 1) _ ((x : Int) + 2) _ hc2 (by omega) (by omega) (by omega)).mono ?_
  rintro e w3 ⟨y, hy, rfl, hc3, hg3⟩
  have R := Row.grownBy (Row.grownBy (Row.grownBy r1 hg1 (by simp)) hg2 (by simp)) hg3 (by simp)
  have B2 := GG.out _ (grownBy_trans hg1 (grownBy_trans hg2 hg3))
  have i2 : IntKind.i64.wrap (y - 1) = y - 1 := IntWalk.i64_in _ (by omega)
  have ho3 := own_up (ho.mono (show w.heap.size + 2 ≤ w1.heap.size by omega)) hg3 (by omega)
  obtain ⟨vg, vc, hvs, _⟩ := ho3.shape
  subst hvs
  have HL := Lib.hid hl; have HO := Lib.hid (ho3.mono (show w.heap.size ≤ w.heap.size + 2 by omega)); clear hl ho ho3
  clear hsz r1 hg1 hg2 hc1 hc2 HC GG hg3 hc3
  generalize hnn : ys.length = nn at *
  have HN := Lib.hid hnn; clear hnn
  go_wp2_with (refine wl_storeB rfl _ _ rfl w.heap.size lr (.slice vg nn vc) _ _ R rfl rfl rfl ?_)
  exact bodyPost_ret (res_row_slot Tryd.results18 (Row.put R (cb lr (.slice vg nn vc))) rfl rfl Tryd.underlying25 rfl info_bits) rfl ⟨lr, _, ys, y - 1, by rw [HN.out]; exact HL.out, hr, by omega, rfl, own_putRow HO.out _ _ (own_row_ne HO.out R), below_setRow B2 (Nat.le_refl _) _⟩

set_option maxHeartbeats 1000000 in
theorem c_DrawNextFree (v : Value) (zs : List Int) (w : World) (h : BytesAt w v zs) : Calls Tryd.prog 26 #[v] w (BitsIntOut w) := by
  have h1 := h.below ((Below.refl w.heap.size w).alloc (Nat.le_refl _) (.cells (cb 0 (.slice none 0 0)) 25))
  have HB := Lib.hid h1
  have r1 : RowB (w.alloc (.cells (cb 0 (.slice none 0 0)) 25)) w.heap.size 0 (.slice none 0 0) := Row.new w _ _
  clear h h1
  go_enter Tryd.func26, Tryd.ntmps26
  go_wp2_with fail
  refine (c_DrawIsSet v zs _ HB.out).mono ?_
  rintro e w2 ⟨lr, v', ys, x, hl, hr, hx, rfl, ho, hb⟩
  have R := Row.below r1 hb
  have B2 : Below w.heap.size w w2 := ((Below.refl w.heap.size w).alloc (Nat.le_refl _) _).trans (hb.mono (by simp))
  obtain ⟨vg, vc, hvs, _⟩ := ho.shape
  subst hvs
  have HL := Lib.hid hl; have HO := Lib.hid (ho.mono (show w.heap.size ≤ _ by simp)); clear hl ho hb r1 HB
  generalize hnn : ys.length = nn at *
  have HN := Lib.hid hnn; clear hnn
  go_wp2_with (refine wl_storeB rfl _ _ rfl w.heap.size lr (.slice vg nn vc) _ _ R rfl rfl rfl ?_)
  exact bodyPost_ret (res_row_slot Tryd.results26 (Row.put R (cb lr (.slice vg nn vc))) rfl rfl Tryd.underlying25 rfl info_bits) rfl ⟨lr, _, ys, x, by rw [HN.out]; exact HL.out, hr, hx, rfl, own_putRow HO.out _ _ (own_row_ne HO.out R), below_setRow B2 (Nat.le_refl _) _⟩
end Go.Proofs.YtlmelabddaapeaaDoor
