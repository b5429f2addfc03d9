/- What the laws of chapter 2 draw: runs, and pairs. -/
import Derived.Test.YtlmelabddaapeaaDoorDr4
namespace Go.Proofs.YtlmelabddaapeaaDoor
open Go.RowKit Pb

theorem res_row_slot3 {P : Program} {fn : Func} {p q r s : Tmp} {ty : TypeId} (h : fn.results = #[.cell p ty, .tmp q, .tmp r, .tmp s]) {tmps : Array Value} {w : World} {g : Nat} {t : TypeId} {cs : Array Value} {d : TypeDesc} {v v1 v2 : Value} (hg : Row w g t cs)
    (hp : tmps.getD p undef = .pointer (some ⟨g, 0, none⟩)) (hq : tmps.getD q undef = v) (hr : tmps.getD r undef = v1) (hs : tmps.getD s undef = v2) (hu : P.underlying ty = some d) (hd : (match d with | .struct _ | .array _ _ => true | _ => false) = true) (hi : (P.info? ty).map (·.size) = some cs.size) :
    (results fn tmps).run P w = .ok (.tuple #[.agg cs, v, v1, v2]) w := by
  have e1 : tmps[p]?.getD undef = .pointer (some ⟨g, 0, none⟩) := by simpa using hp
  have e2 : tmps[q]?.getD undef = v := by simpa using hq
  have e3 : tmps[r]?.getD undef = v1 := by simpa using hr
  have e4 : tmps[s]?.getD undef = v2 := by simpa using hs
  simp [results, h, e1, e2, e3, e4, asAddr, run_loadVar_row w g t ty cs (0, 0) d hg hu hd hi]
theorem res_row_slot2 {P : Program} {fn : Func} {p q r : Tmp} {ty : TypeId} (h : fn.results = #[.cell p ty, .tmp q, .tmp r]) {tmps : Array Value} {w : World} {g : Nat} {t : TypeId} {cs : Array Value} {d : TypeDesc} {v v1 : Value} (hg : Row w g t cs)
    (hp : tmps.getD p undef = .pointer (some ⟨g, 0, none⟩)) (hq : tmps.getD q undef = v) (hr : tmps.getD r undef = v1) (hu : P.underlying ty = some d) (hd : (match d with | .struct _ | .array _ _ => true | _ => false) = true) (hi : (P.info? ty).map (·.size) = some cs.size) :
    (results fn tmps).run P w = .ok (.tuple #[.agg cs, v, v1]) w := by
  have e1 : tmps[p]?.getD undef = .pointer (some ⟨g, 0, none⟩) := by simpa using hp
  have e2 : tmps[q]?.getD undef = v := by simpa using hq
  have e3 : tmps[r]?.getD undef = v1 := by simpa using hr
  simp [results, h, e1, e2, e3, asAddr, run_loadVar_row w g t ty cs (0, 0) d hg hu hd hi]

/-- A drawn bitmap, a drawn run, and what to set. -/
def RunOut (w : World) (e : Ending) (w' : World) : Prop := ∃ (lr : Int) (v' : Value) (zs : List Int) (a b : Int) (on : Bool), zs.length ≤ 6 ∧ (0 ≤ lr ∧ lr ≤ 96) ∧ (-1 ≤ a ∧ a ≤ 97) ∧ (-1 ≤ b ∧ b ≤ 117) ∧ e = .returned (.tuple #[bm lr v', .int .i64 a, .int .i64 b, .bool on]) ∧ Own w' w.heap.size v' zs ∧ Below w.heap.size w w'
set_option maxHeartbeats 3200000 in
theorem c_DrawSetRun (v : Value) (zs : List Int) (w : World) (h : BytesAt w v zs) : Calls Tryd.prog 7 #[v] w (RunOut w) := by
  have HC := Lib.hid (drawnAt_cur h)
  have r1 := drawnAt_row w v
  have GG : Hid (∀ X, (drawnAt w v).grownBy X (some (w.heap.size + 1)) → Below w.heap.size w X) := fun X hX => drawnAt_out hX
  have hsz : (drawnAt w v).heap.size = w.heap.size + 2 := by simp [drawnAt]
  obtain ⟨_, _, a, cap, rfl, _⟩ := h
  generalize zs.length = m at *
  go_enter Tryd.func7, Tryd.ntmps7
  go_wp2_with fail
  refine (c_long (w.heap.size + 1) 0 _ HC.out (by omega)).mono ?_
  rintro e w1 ⟨x, hx, rfl, hc1, hg1⟩
  have hs1 := hg1.size
  rw [hsz] at hs1
  go_wp2_with fail
  refine (c_bits (w.heap.size + 1) 4 x _ hc1 (by omega) (by omega)).mono ?_
  rintro e w2 ⟨lr, v', ys, hl, hr, rfl, ho, hc2, hg2⟩
  obtain ⟨vg, vc, hvs, _⟩ := ho.shape
  subst hvs
  have HL := Lib.hid hl; clear hl
  have HO := Lib.hid ho; clear ho
  have s2 := hg2.size
  generalize hnn : ys.length = nn at *
  have HN := Lib.hid hnn; clear hnn
  have R2 := Row.alloc (Row.grownBy (Row.grownBy r1 hg1 (by simp)) hg2 (by simp)) (.cells (cb lr (.slice vg nn vc)) 25)
  have R8 : RowB (w2.alloc (.cells (cb lr (.slice vg nn vc)) 25)) w2.heap.size lr (.slice vg nn vc) := Row.new w2 _ _
  have O8 : Hid (Own (w2.alloc (.cells (cb lr (.slice vg nn vc)) 25)) (w.heap.size + 2) (.slice vg nn vc) ys) := (HO.out.mono (show w.heap.size + 2 ≤ w1.heap.size by omega)).below ((Below.refl _ _).alloc (Nat.le_refl _) _)
  have C8 := hc2.below ((Below.refl _ _).alloc (Nat.le_refl _) (.cells (cb lr (.slice vg nn vc)) 25))
  have G8 := grownBy_alloc' (grownBy_trans hg1 hg2) (.cells (cb lr (.slice vg nn vc)) 25)
  clear hsz r1 hg1 hg2 hc1 hc2 HC HO
  have i1 : IntKind.i64.wrap ((x : Int) + 2) = (x : Int) + 2 := IntWalk.i64_in _ (by omega)
  go_wp2_with fail
  refine (c_pick (w.heap.size + 1) _ ((x : Int) + 2) _ C8 (by omega) (by omega) (by omega)).mono ?_
  rintro e w3 ⟨y, hy, rfl, hc3, hg3⟩
  go_wp2_with fail
  refine (c_pick (w.heap.size + 1) _ 9 _ hc3 (by omega) (by omega) (by omega)).mono ?_
  rintro e w4 ⟨z, hz, rfl, hc4, hg4⟩
  have ht : 0 ≤ Int.tdiv z 8 ∧ Int.tdiv z 8 ≤ 1 := by rw [Int.tdiv_eq_ediv_of_nonneg hz.1]; omega
  have i2 : IntKind.i64.wrap (Int.tdiv z 8) = Int.tdiv z 8 := IntWalk.i64_in _ (by omega)
  have i3 : IntKind.i64.wrap (y - Int.tdiv z 8) = y - Int.tdiv z 8 := IntWalk.i64_in _ (by omega)
  replace R2 := Row.grownBy (Row.grownBy R2 hg3 (by simp)) hg4 (by simp)
  replace R8 := Row.grownBy (Row.grownBy R8 hg3 (by simp; omega)) hg4 (by simp; omega)
  have O4 := Lib.hid (own_up (own_up O8.out hg3 (by omega)) hg4 (by omega))
  have G4 := grownBy_trans G8 (grownBy_trans hg3 hg4)
  clear O8 C8 G8 hc3 hg3 hg4
  generalize hg8 : w2.heap.size = g8 at *
  have hg8w : w.heap.size + 2 ≤ g8 := by omega
  clear hg8
  have hcd : CurIs w4.drew (w.heap.size + 1) (4 + 60 + 2 + 2) := hc4
  have KS : Hid (∀ X, w4.grownBy X (some (w.heap.size + 1)) → X.cell? ⟨g8, 0, none⟩ = some (.int .i64 lr) ∧ X.cell? ⟨g8, 1, none⟩ = some (.slice vg nn vc)) := fun X hX => ⟨RowB.c0 (Row.grownBy R8 hX (by simp; omega)), RowB.c1 (Row.grownBy R8 hX (by simp; omega))⟩
  have KT : Hid (∀ X, w4.grownBy X (some (w.heap.size + 1)) → ((X.setCell ⟨w.heap.size, 0, none⟩ (.int .i64 lr)).setCell ⟨w.heap.size, 1, none⟩ (.slice vg nn vc)).cell? ⟨g8, 0, none⟩ = some (.int .i64 lr) ∧ ((X.setCell ⟨w.heap.size, 0, none⟩ (.int .i64 lr)).setCell ⟨w.heap.size, 1, none⟩ (.slice vg nn vc)).cell? ⟨g8, 1, none⟩ = some (.slice vg nn vc)) := fun X hX =>
    have hh := ((Row.grownBy R8 hX (by simp; omega)).other ⟨w.heap.size, 0, none⟩ (by simp; omega) (.int .i64 lr)).other ⟨w.heap.size, 1, none⟩ (by simp; omega) (.slice vg nn vc)
    ⟨RowB.c0 hh, RowB.c1 hh⟩
  have GD := grownBy_drew (World.grownBy.refl w4 (some (w.heap.size + 1)))
  go_wp2_with fail
  go_region_held3 (fun w' => w'.cell? ⟨g8, 0, none⟩ = some (.int .i64 lr) ∧ w'.cell? ⟨g8, 1, none⟩ = some (.slice vg nn vc))
    (first
      | exact KS.out _ GD
      | exact KS.out _ GL2
      | exact KS.out _ GL1
      | exact KT.out _ GL2
      | (go_split_ands; refine ⟨?_, ?_⟩ <;> assumption))
    (first
      | (go_at_call 44; (refine (c_pick (w.heap.size + 1) _ 20 _ hcd (by omega) (by omega) (by omega)).mono ?_; rintro e p1 ⟨k, hk, rfl, hc5, hgk⟩; have GL1 : w4.grownBy p1 (some (w.heap.size + 1)) := grownBy_trans GD hgk; clear hgk))
      | (go_at_call 45; (refine (c_one (w.heap.size + 1) _ 2 _ hc5 (by omega) (by omega) (by omega)).mono ?_; rintro e p2 ⟨oo, rfl, hc6, hgk⟩; have GL2 : w4.grownBy p2 (some (w.heap.size + 1)) := grownBy_trans GL1 hgk; have RZ := Row.grownBy R2 GL2 (by simp); have dz0 := RowB.c0 RZ; have dz1 := RowB.c1 RZ; have fz0 := Row.frozen RZ 0; have fz1 := Row.frozen RZ 1; clear hgk)))
  have i4 : IntKind.i64.wrap (y - Int.tdiv z 8 + k) = y - Int.tdiv z 8 + k := IntWalk.i64_in _ (by omega)
  have R := rowB_set2 RZ lr (.slice vg nn vc)
  have hO := own_up O4.out GL2 (by omega)
  have HOz := (Own.setApart hO w.heap.size lr (.slice vg nn vc) (own_row_ne hO RZ)).mono (show w.heap.size ≤ w.heap.size + 2 by omega)
  have B2 := ((GG.out _ (grownBy_trans G4 GL2)).setCell (p := ⟨w.heap.size, 0, none⟩) (Nat.le_refl _) (.int .i64 lr)).setCell (p := ⟨w.heap.size, 1, none⟩) (Nat.le_refl _) (.slice vg nn vc)
  rw [i4]
  clear dz0 dz1 fz0 fz1 RZ GL1 GL2 hO KS KT GD hcd hc4 hc5 hc6 i1 i2 i3 i4 G4 O4 R2 R8 GG
  generalize (p2.setCell ⟨w.heap.size, 0, none⟩ (.int .i64 lr)).setCell ⟨w.heap.size, 1, none⟩ (.slice vg nn vc) = wN at *
  go_wp2
  exact bodyPost_ret (res_row_slot3 Tryd.results7 R rfl rfl rfl rfl Tryd.underlying25 rfl info_bits) rfl ⟨lr, _, ys, y - Int.tdiv z 8, y - Int.tdiv z 8 + k, oo, by rw [HN.out]; exact HL.out, hr, by omega, by omega, rfl, HOz, B2⟩

/-- A drawn bitmap and a drawn run. -/
def SpanOut (w : World) (e : Ending) (w' : World) : Prop := ∃ (lr : Int) (v' : Value) (zs : List Int) (a b : Int), zs.length ≤ 6 ∧ (0 ≤ lr ∧ lr ≤ 96) ∧ (-1 ≤ a ∧ a ≤ 97) ∧ (-1 ≤ b ∧ b ≤ 117) ∧ e = .returned (.tuple #[bm lr v', .int .i64 a, .int .i64 b]) ∧ Own w' w.heap.size v' zs ∧ Below w.heap.size w w'
set_option maxHeartbeats 1600000 in
theorem c_DrawCountSet (v : Value) (zs : List Int) (w : World) (h : BytesAt w v zs) : Calls Tryd.prog 16 #[v] w (SpanOut w) := by
  have h1 := h.below ((Below.refl w.heap.size w).alloc (Nat.le_refl _) (.cells (cb 0 (.slice none 0 0)) 25))
  have HB := Lib.hid h1
  have r1 : RowB (w.alloc (.cells (cb 0 (.slice none 0 0)) 25)) w.heap.size 0 (.slice none 0 0) := Row.new w _ _
  clear h h1
  go_enter Tryd.func16, Tryd.ntmps16
  go_wp2_with fail
  refine (c_DrawSetRun v zs _ HB.out).mono ?_
  rintro e w2 ⟨lr, v', ys, a, b, on, hl, hr, ha, hb', rfl, ho, hb⟩
  have R := Row.below r1 hb
  have B2 : Below w.heap.size w w2 := ((Below.refl w.heap.size w).alloc (Nat.le_refl _) _).trans (hb.mono (by simp))
  have hsz := hb.size
  simp only [World.size_alloc] at hsz
  obtain ⟨vg, vc, hvs, _⟩ := ho.shape
  subst hvs
  have HL := Lib.hid hl; have HO := Lib.hid (ho.mono (show w.heap.size ≤ _ by simp)); clear hl ho hb r1 HB
  generalize hnn : ys.length = nn at *
  have HN := Lib.hid hnn; clear hnn
  have R5 : RowB (w2.alloc (.cells (cb lr (.slice vg nn vc)) 25)) w2.heap.size lr (.slice vg nn vc) := Row.new w2 _ _
  have R2 := Row.alloc R (.cells (cb lr (.slice vg nn vc)) 25)
  have O5 : Hid (Own (w2.alloc (.cells (cb lr (.slice vg nn vc)) 25)) w.heap.size (.slice vg nn vc) ys) := HO.out.below ((Below.refl _ _).alloc (Nat.le_refl _) _)
  have B5 := B2.alloc (by omega) (.cells (cb lr (.slice vg nn vc)) 25)
  clear R HO B2
  go_wp2_with (first
    | (refine wl_loadB rfl _ rfl w2.heap.size lr (.slice vg nn vc) R5 rfl ?_)
    | (refine wl_storeB rfl _ _ rfl w.heap.size lr (.slice vg nn vc) _ _ R2 rfl rfl rfl ?_))
  exact bodyPost_ret (res_row_slot2 Tryd.results16 (Row.put R2 (cb lr (.slice vg nn vc))) rfl rfl rfl Tryd.underlying25 rfl info_bits) rfl ⟨lr, _, ys, a, b, by rw [HN.out]; exact HL.out, hr, ha, hb', rfl, own_putRow O5.out _ _ (own_row_ne O5.out R2), below_setRow B5 (Nat.le_refl _) _⟩
end Go.Proofs.YtlmelabddaapeaaDoor
