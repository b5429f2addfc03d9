/- What the laws rest on, part 6. -/
import Derived.Test.YtkkigoamphkalaaQE5
import Derived.Test.YtkkigoamphkalaaRows
import Derived.Lib.SmallJoins
import Derived.WalkKit
import Derived.ProofKit
import Derived.OpenShut
import Derived.WalkSmall
import Derived.Deep.DeepHandedRow
import Derived.Lib.LaidTab
namespace Go.Proofs.Ytkkigoamphkalaa
open Go.RowKit Ph

set_option maxRecDepth 100000 in
set_option maxHeartbeats 3200000 in
theorem d_NewThing (v : Value) (zs : List Int) (w : World) (hby : BytesAt w v zs) : Calls Try.prog 61 #[v] w fun e w' => ∃ a b cc h k, e = .returned (.tuple #[hv a b cc, .int .i64 k]) ∧ Sh h ∧ (-1 ≤ k ∧ k ≤ 20) ∧ HeapAt w' a b cc h ∧ Below w.heap.size w w' := by
  have hb1 := below1 w (.cells (c3 (.slice none 0 0) (.slice none 0 0) (.slice none 0 0)) 30)
  have D0 := Lib.hid (dv_new (hby.below hb1))
  have hs1 : (w.alloc (.cells (c3 (.slice none 0 0) (.slice none 0 0) (.slice none 0 0)) 30)).heap.size = w.heap.size + 1 := World.size_alloc _ _
  have hsW : ((w.alloc (.cells (c3 (.slice none 0 0) (.slice none 0 0) (.slice none 0 0)) 30)).alloc (.cells #[v, .int .i64 0, .int .u64 0] 128)).heap.size = w.heap.size + 1 + 1 := by simp
  rw [hs1] at D0
  have R0 := Lib.hid (show zrow ((w.alloc (.cells (c3 (.slice none 0 0) (.slice none 0 0) (.slice none 0 0)) 30)).alloc (.cells #[v, .int .i64 0, .int .u64 0] 128)) w.heap.size from (Row.new w 30 (c3 (.slice none 0 0) (.slice none 0 0) (.slice none 0 0))).alloc (.cells #[v, .int .i64 0, .int .u64 0] 128))
  have HB1 := Lib.hid hb1
  have HS1 := Lib.hid hs1; have HSW := Lib.hid hsW
  have DB : Hid (∀ X m, Dv ((w.alloc (.cells (c3 (.slice none 0 0) (.slice none 0 0) (.slice none 0 0)) 30)).alloc (.cells #[v, .int .i64 0, .int .u64 0] 128)) (w.heap.size + 1) m X → Below w.heap.size w X) := fun X m q => HB1.out.trans ((dv_below (w := w.alloc (.cells (c3 (.slice none 0 0) (.slice none 0 0) (.slice none 0 0)) 30)) (v := v) (m := m) (X := X) (by rw [HS1.out]; exact q)).mono HB1.out.size)
  obtain ⟨_, _, va, vc, rfl, _⟩ := hby
  clear hb1 hs1 hsW
  go_enter Try.func61, Try.ntmps61
  go_wp2_with fail
  refine (c_heap (w.heap.size + 1) 0 _ D0.out.1 (by omega)).mono ?_
  rintro e w2 ⟨a, b, cc, h, rfl, hsh, hf1, ho2, hc2, hg2⟩
  obtain ⟨⟨pa, qa, rfl⟩, ⟨pb, qb, rfl⟩, ⟨pc, qc, rfl⟩⟩ := ho2.shapes
  rw [HSW.out] at ho2
  have SH := Lib.hid hsh
  have hf12 := hsh.n
  generalize h.f.length = nf at *
  generalize h.l.length = nl at *
  generalize h.r.length = nr at *
  have D2 := Lib.hid (D0.out.step hc2 hg2)
  have R2 := Lib.hid (show zrow w2 w.heap.size from row_stepC R0.out (by omega) hg2)
  have OH := Lib.hid ho2
  clear hsh ho2 hc2 hg2 D0 R0
  go_wp2_with fail
  refine (c_pick (w.heap.size + 1) (0 + 200) 6 _ D2.out.1 (by omega) (by omega) (by omega)).mono ?_
  rintro e w3 ⟨x, hx, rfl, hc3, hg3⟩
  have D3 := Lib.hid (D2.out.step hc3 hg3)
  have R3 := Lib.hid (show zrow w3 w.heap.size from row_stepC R2.out (by omega) hg3)
  have O3 := OH.out.stepC (by omega) hg3
  have ON := Lib.hid (O3.chg (chgRow w3 w.heap.size (c3 (.slice pa nf qa) (.slice pb nl qb) (.slice pc nr qc))) (.inr (by omega)))
  have BN := Lib.hid (below_setRow (g := w.heap.size) (DB.out _ _ D3.out) (Nat.le_refl _) (c3 (.slice pa nf qa) (.slice pb nl qb) (.slice pc nr qc)))
  have hwx : IntKind.i64.wrap (x - 1) = x - 1 := IntWalk.i64_in _ (by omega)
  clear hc3 hg3 O3
  go_wp2_with (refine wl_storeH rfl _ _ rfl w.heap.size (.slice pa nf qa) (.slice pb nl qb) (.slice pc nr qc) _ _ _ R3.out rfl rfl rfl rfl rfl ?_)
  refine bodyPost_ret (res_row_slot Try.results61 (Row.put R3.out (c3 (.slice pa nf qa) (.slice pb nl qb) (.slice pc nr qc))) rfl rfl Try.underlying30 rfl info_heap) rfl ⟨_, _, _, h, x - 1, rfl, SH.out, by omega, ON.out.reads, BN.out⟩
set_option maxRecDepth 100000 in
set_option maxHeartbeats 3200000 in
theorem d_SetRoot (v : Value) (zs : List Int) (w : World) (hby : BytesAt w v zs) : Calls Try.prog 64 #[v] w fun e w' => ∃ a b cc h k t, e = .returned (.tuple #[hv a b cc, .int .i64 k, .int .i64 t]) ∧ Sh h ∧ HeapAt w' a b cc h ∧ Below w.heap.size w w' := by
  have hb1 := below1 w (.cells (c3 (.slice none 0 0) (.slice none 0 0) (.slice none 0 0)) 30)
  have D0 := Lib.hid (dv_new (hby.below hb1))
  have hs1 : (w.alloc (.cells (c3 (.slice none 0 0) (.slice none 0 0) (.slice none 0 0)) 30)).heap.size = w.heap.size + 1 := World.size_alloc _ _
  have hsW : ((w.alloc (.cells (c3 (.slice none 0 0) (.slice none 0 0) (.slice none 0 0)) 30)).alloc (.cells #[v, .int .i64 0, .int .u64 0] 128)).heap.size = w.heap.size + 1 + 1 := by simp
  rw [hs1] at D0
  have R0 := Lib.hid (show zrow ((w.alloc (.cells (c3 (.slice none 0 0) (.slice none 0 0) (.slice none 0 0)) 30)).alloc (.cells #[v, .int .i64 0, .int .u64 0] 128)) w.heap.size from (Row.new w 30 (c3 (.slice none 0 0) (.slice none 0 0) (.slice none 0 0))).alloc (.cells #[v, .int .i64 0, .int .u64 0] 128))
  have HB1 := Lib.hid hb1
  have HS1 := Lib.hid hs1; have HSW := Lib.hid hsW
  have DB : Hid (∀ X m, Dv ((w.alloc (.cells (c3 (.slice none 0 0) (.slice none 0 0) (.slice none 0 0)) 30)).alloc (.cells #[v, .int .i64 0, .int .u64 0] 128)) (w.heap.size + 1) m X → Below w.heap.size w X) := fun X m q => HB1.out.trans ((dv_below (w := w.alloc (.cells (c3 (.slice none 0 0) (.slice none 0 0) (.slice none 0 0)) 30)) (v := v) (m := m) (X := X) (by rw [HS1.out]; exact q)).mono HB1.out.size)
  obtain ⟨_, _, va, vc, rfl, _⟩ := hby
  clear hb1 hs1 hsW
  go_enter Try.func64, Try.ntmps64
  go_wp2_with fail
  refine (c_heap (w.heap.size + 1) 0 _ D0.out.1 (by omega)).mono ?_
  rintro e w2 ⟨a, b, cc, h, rfl, hsh, hf1, ho2, hc2, hg2⟩
  obtain ⟨⟨pa, qa, rfl⟩, ⟨pb, qb, rfl⟩, ⟨pc, qc, rfl⟩⟩ := ho2.shapes
  rw [HSW.out] at ho2
  have SH := Lib.hid hsh
  have hf12 := hsh.n
  generalize h.f.length = nf at *
  generalize h.l.length = nl at *
  generalize h.r.length = nr at *
  have D2 := Lib.hid (D0.out.step hc2 hg2)
  have R2 := Lib.hid (show zrow w2 w.heap.size from row_stepC R0.out (by omega) hg2)
  have OH := Lib.hid ho2
  clear hsh ho2 hc2 hg2 D0 R0
  have hba := below1 w2 (.cells (c3 (.slice pa nf qa) (.slice pb nl qb) (.slice pc nr qc)) 30)
  have hs2 := D2.out.size
  rw [HSW.out] at hs2
  have DA := Lib.hid (D2.out.low (hba.mono D2.out.size))
  have RA := Lib.hid (show zrow _ _ from Row.alloc R2.out (.cells (c3 (.slice pa nf qa) (.slice pb nl qb) (.slice pc nr qc)) 30))
  have VA := Lib.hid (show RowH _ _ _ _ _ from Row.new w2 30 (c3 (.slice pa nf qa) (.slice pb nl qb) (.slice pc nr qc)))
  have OA := Lib.hid (OH.out.below hba)
  have LV : Hid (w.heap.size + 1 + 1 ≤ w2.heap.size) := hs2
  have HGA : Hid (w2.heap.size < (w2.alloc (.cells (c3 (.slice pa nf qa) (.slice pb nl qb) (.slice pc nr qc)) 30)).heap.size) := by unfold Hid; simp
  clear hba hs2 D2 R2 OH
  go_wp2_with fail
  generalize w2.heap.size = gv at *
  generalize w2.alloc (.cells (c3 (.slice pa nf qa) (.slice pb nl qb) (.slice pc nr qc)) 30) = w3 at *
  have DD := Lib.hid (DA.out.low (below_drew (Below.refl _ w3)))
  have RD : Hid (zrow w3.drew w.heap.size) := RA.out
  have VD : Hid (RowH w3.drew gv (.slice pa nf qa) (.slice pb nl qb) (.slice pc nr qc)) := VA.out
  have OD := Lib.hid (OA.out.below (below_drew (Below.refl w3.heap.size w3)))
  have d0 := VD.out.c0
  have d1 := VD.out.c1
  have d2 := VD.out.c2
  have hwn2 : IntKind.i64.wrap ((nf : Int) + 2) = (nf : Int) + 2 := IntWalk.i64_in _ (by omega)
  refine wp_region_held_drew (S := (fun w' => w'.cell? ⟨gv, 0, none⟩ = some (.slice pa nf qa) ∧ w'.cell? ⟨gv, 1, none⟩ = some (.slice pb nl qb) ∧ w'.cell? ⟨gv, 2, none⟩ = some (.slice pc nr qc))) (by kernel_rfl) (⟨d0, d1, d2⟩) (fun hHeld => ?_)
  refine wpAnyH_take (i := 0) (v := ?va0x1) rfl (by kernel_rfl) (by kernel_rfl) (by kernel_rfl) (fun _ _ _ h => h) (Or.inl ⟨by rfl, ?hy0x1⟩) (by assumption) ?rest0x1
  case hy0x1 => (intro w hSw; (try dsimp only at hSw); go_simp; try with_reducible rfl)
  (try simp only [Act.put, List.getElem_toArray, List.getElem_cons_zero, List.setIfInBounds_toArray, List.set_cons_zero, List.set_cons_succ])
  refine wpAnyH_take (i := 1) (v := ?va1x2) rfl (by kernel_rfl) (by kernel_rfl) (by kernel_rfl) (fun _ _ _ h => h) (Or.inl ⟨by rfl, ?hy1x2⟩) (by assumption) ?rest1x2
  case hy1x2 => (intro w hSw; (try dsimp only at hSw); go_simp; try with_reducible rfl)
  (try simp only [Act.put, List.getElem_toArray, List.getElem_cons_zero, List.getElem_cons_succ, List.setIfInBounds_toArray, List.set_cons_zero, List.set_cons_succ])
  refine wpAnyH_take (i := 4) (v := ?va4x3) rfl (by kernel_rfl) (by kernel_rfl) (by kernel_rfl) (fun _ _ _ h => h) (Or.inl ⟨by rfl, ?hy4x3⟩) (by assumption) ?rest4x3
  case hy4x3 => (intro w hSw; (try dsimp only at hSw); go_simp; try with_reducible rfl)
  (try simp only [Act.put, List.getElem_toArray, List.getElem_cons_zero, List.getElem_cons_succ, List.setIfInBounds_toArray, List.set_cons_zero, List.set_cons_succ])
  refine wpAnyH_take (i := 5) (v := ?va5x4) rfl (by kernel_rfl) (by kernel_rfl) (by kernel_rfl) (fun _ _ _ h => h) (Or.inl ⟨by rfl, ?hy5x4⟩) (by assumption) ?rest5x4
  case hy5x4 => (intro w hSw; (try dsimp only at hSw); go_simp; try with_reducible rfl)
  (try simp only [Act.put, List.getElem_toArray, List.getElem_cons_zero, List.getElem_cons_succ, List.setIfInBounds_toArray, List.set_cons_zero, List.set_cons_succ])
  refine wpAnyH_take (i := 6) (v := ?va6x5) rfl (by kernel_rfl) (by kernel_rfl) (by kernel_rfl) (fun _ _ _ h => h) (Or.inl ⟨by rfl, ?hy6x5⟩) (by assumption) ?rest6x5
  case hy6x5 => (intro w hSw; (try dsimp only at hSw); go_simp; try with_reducible rfl)
  (try simp only [Act.put, List.getElem_toArray, List.getElem_cons_zero, List.getElem_cons_succ, List.setIfInBounds_toArray, List.set_cons_zero, List.set_cons_succ])
  refine wpAnyH_take (i := 7) (v := ?va7x6) rfl (by kernel_rfl) (by kernel_rfl) (by kernel_rfl) (fun _ _ _ h => h) (Or.inl ⟨by rfl, ?hy7x6⟩) (by assumption) ?rest7x6
  case hy7x6 => (intro w hSw; (try dsimp only at hSw); go_simp; try with_reducible rfl)
  (try simp only [Act.put, List.getElem_toArray, List.getElem_cons_zero, List.getElem_cons_succ, List.setIfInBounds_toArray, List.set_cons_zero, List.set_cons_succ])
  refine wpAnyH_take (i := 8) (v := ?va8x7) rfl (by kernel_rfl) (by kernel_rfl) (by kernel_rfl) (fun _ _ _ h => h) (Or.inl ⟨by rfl, ?hy8x7⟩) (by assumption) ?rest8x7
  case hy8x7 => (intro w hSw; (try dsimp only at hSw); go_simp; try with_reducible rfl)
  (try simp only [Act.put, List.getElem_toArray, List.getElem_cons_zero, List.getElem_cons_succ, List.setIfInBounds_toArray, List.set_cons_zero, List.set_cons_succ])
  generalize w3.drew = wd at *
  clear d0 d1 d2
  refine wpAnyH_ready (rs := [2]) (by kernel_rfl) (by simp) ?_
  refine AllReadyH.cons rfl (fun K hK => ?_) AllReadyH.nil
  go_simp
  refine (c_pick (w.heap.size + 1) (0 + 200) (4) _ DD.out.1 (by omega) (by omega) (by omega)).mono ?_
  rintro e wp0 ⟨x1, hx1, rfl, hc5, hg5⟩
  have Dp0 := Lib.hid (DD.out.step hc5 hg5)
  have Rp0 := Lib.hid (show zrow _ _ from row_stepC RD.out (by omega) hg5)
  have Vp0 := Lib.hid (show RowH _ _ _ _ _ from row_stepC VD.out (by have := LV.out; omega) hg5)
  have Op0 := Lib.hid (OD.out.stepC (by omega) hg5)
  clear hc5 hg5
  refine hK.out _ _ ⟨Vp0.out.c0, Vp0.out.c1, Vp0.out.c2⟩ (fun hHeld => ?_)
  clear hK K
  (try simp only [Act.put, List.getElem_toArray, List.getElem_cons_zero, List.getElem_cons_succ, List.setIfInBounds_toArray, List.set_cons_zero, List.set_cons_succ])
  have hwx1 : IntKind.i64.wrap (x1 - 1) = x1 - 1 := IntWalk.i64_in _ (by omega)
  refine wpAnyH_take (i := 3) (v := ?va3x8) rfl (by kernel_rfl) (by kernel_rfl) (by kernel_rfl) (fun _ _ _ h => h) (Or.inl ⟨by rfl, ?hy3x8⟩) (by assumption) ?rest3x8
  case hy3x8 => (intro w hSw; (try dsimp only at hSw); go_simp; try with_reducible rfl)
  (try simp only [Act.put, List.getElem_toArray, List.getElem_cons_zero, List.getElem_cons_succ, List.setIfInBounds_toArray, List.set_cons_zero, List.set_cons_succ])
  refine wpAnyH_ready (rs := [9]) (by kernel_rfl) (by simp) ?_
  refine AllReadyH.cons rfl (fun K hK => ?_) AllReadyH.nil
  go_simp
  refine (c_pick (w.heap.size + 1) (0 + 200 + 2) ((nf : Int) + 2) _ Dp0.out.1 (by omega) (by omega) (by omega)).mono ?_
  rintro e wp1 ⟨x2, hx2, rfl, hc5, hg5⟩
  have Dp1 := Lib.hid (Dp0.out.step hc5 hg5)
  have Rp1 := Lib.hid (show zrow _ _ from row_stepC Rp0.out (by omega) hg5)
  have Vp1 := Lib.hid (show RowH _ _ _ _ _ from row_stepC Vp0.out (by have := LV.out; omega) hg5)
  have Op1 := Lib.hid (Op0.out.stepC (by omega) hg5)
  clear hc5 hg5
  refine hK.out _ _ ⟨Vp1.out.c0, Vp1.out.c1, Vp1.out.c2⟩ (fun hHeld => ?_)
  clear hK K
  (try simp only [Act.put, List.getElem_toArray, List.getElem_cons_zero, List.getElem_cons_succ, List.setIfInBounds_toArray, List.set_cons_zero, List.set_cons_succ])
  have hwx2 : IntKind.i64.wrap (x2 - 1) = x2 - 1 := IntWalk.i64_in _ (by omega)
  refine wpAnyH_take (i := 10) (v := ?va10x9) rfl (by kernel_rfl) (by kernel_rfl) (by kernel_rfl) (fun _ _ _ h => h) (Or.inl ⟨by rfl, ?hy10x9⟩) (by assumption) ?rest10x9
  case hy10x9 => (intro w hSw; (try dsimp only at hSw); go_simp; try with_reducible rfl)
  (try simp only [Act.put, List.getElem_toArray, List.getElem_cons_zero, List.getElem_cons_succ, List.setIfInBounds_toArray, List.set_cons_zero, List.set_cons_succ])
  refine wpAnyH_ready (rs := [11]) (by kernel_rfl) (by simp) ?_
  refine AllReadyH.cons rfl (fun K hK => ?_) AllReadyH.nil
  have hch := chgRow wp1 w.heap.size (c3 (.slice pa nf qa) (.slice pb nl qb) (.slice pc nr qc))
  have VN := Lib.hid (show RowH _ _ _ _ _ from Row.chg Vp1.out hch (.inr (by have := LV.out; omega)))
  have ON := Lib.hid (Op1.out.chg hch (.inr (by omega)))
  have BN := Lib.hid (below_setRow (g := w.heap.size) (DB.out _ _ Dp1.out) (Nat.le_refl _) (c3 (.slice pa nf qa) (.slice pb nl qb) (.slice pc nr qc)))
  clear hch
  refine wp_store_row 30 _ _ rfl w.heap.size (c3 (.slice pa nf qa) (.slice pb nl qb) (.slice pc nr qc)) rfl rfl 30 _ Rp1.out info_heap rfl (by simp [Value.oneCell']) ?_
  refine hK.out _ _ ⟨VN.out.c0, VN.out.c1, VN.out.c2⟩ (fun hHeld => ?_)
  clear hK K
  (try simp only [Act.put, List.getElem_toArray, List.getElem_cons_zero, List.getElem_cons_succ])
  refine wpAnyH_take (i := 12) (v := ?va12x10) rfl (by kernel_rfl) (by kernel_rfl) (by kernel_rfl) (fun _ _ _ h => h) (Or.inl ⟨by rfl, ?hy12x10⟩) (by assumption) ?rest12x10
  case hy12x10 => (intro w hSw; (try dsimp only at hSw); go_simp; try with_reducible rfl)
  (try simp only [Act.put, List.getElem_toArray, List.getElem_cons_zero, List.getElem_cons_succ, List.setIfInBounds_toArray, List.set_cons_zero, List.set_cons_succ])
  refine wpAnyH_take (i := 13) (v := ?va13x11) rfl (by kernel_rfl) (by kernel_rfl) (by kernel_rfl) (fun _ _ _ h => h) (Or.inl ⟨by rfl, ?hy13x11⟩) (by assumption) ?rest13x11
  case hy13x11 => (intro w hSw; (try dsimp only at hSw); go_simp; try with_reducible rfl)
  (try simp only [Act.put, List.getElem_toArray, List.getElem_cons_zero, List.getElem_cons_succ, List.setIfInBounds_toArray, List.set_cons_zero, List.set_cons_succ])
  refine wpAnyH_done (by kernel_rfl) ?_ _
  clear hHeld
  go_wp2_with fail
  refine bodyPost_ret (res_row_slot2 Try.results64 (Row.put Rp1.out (c3 (.slice pa nf qa) (.slice pb nl qb) (.slice pc nr qc))) rfl rfl rfl Try.underlying30 rfl info_heap) rfl ⟨_, _, _, h, x1 - 1, x2 - 1, rfl, SH.out, ON.out.reads, BN.out⟩
theorem res_row_slot3 {P : Program} {fn : Func} {p q r s : Tmp} {ty : TypeId} (h : fn.results = #[.cell p ty, .tmp q, .tmp r, .tmp s]) {tmps : Array Value} {w : World} {g : Nat} {t : TypeId} {cs : Array Value} {d : TypeDesc} {v v' v'' : Value} (hg : Row w g t cs)
    (hp : tmps.getD p undef = .pointer (some ⟨g, 0, none⟩)) (hq : tmps.getD q undef = v) (hr : tmps.getD r undef = v') (hs : tmps.getD s undef = v'') (hu : P.underlying ty = some d) (hd : (match d with | .struct _ | .array _ _ => true | _ => false) = true) (hi : (P.info? ty).map (·.size) = some cs.size) :
    (results fn tmps).run P w = .ok (.tuple #[.agg cs, v, v', v'']) w := by
  have hp' : tmps[p]?.getD undef = .pointer (some ⟨g, 0, none⟩) := by simpa using hp
  have hq' : tmps[q]?.getD undef = v := by simpa using hq
  have hr' : tmps[r]?.getD undef = v' := by simpa using hr
  have hs' : tmps[s]?.getD undef = v'' := by simpa using hs
  simp [results, h, hp', hq', hr', hs', asAddr, run_loadVar_row w g t ty cs (0, 0) d hg hu hd hi]
set_option maxRecDepth 100000 in
set_option maxHeartbeats 3200000 in
theorem d_SetField (v : Value) (zs : List Int) (w : World) (hby : BytesAt w v zs) : Calls Try.prog 58 #[v] w fun e w' => ∃ a b cc h t f z, e = .returned (.tuple #[hv a b cc, .int .i64 t, .int .i64 f, .int .i64 z]) ∧ Sh h ∧ HeapAt w' a b cc h ∧ Below w.heap.size w w' := by
  have hb1 := below1 w (.cells (c3 (.slice none 0 0) (.slice none 0 0) (.slice none 0 0)) 30)
  have D0 := Lib.hid (dv_new (hby.below hb1))
  have hs1 : (w.alloc (.cells (c3 (.slice none 0 0) (.slice none 0 0) (.slice none 0 0)) 30)).heap.size = w.heap.size + 1 := World.size_alloc _ _
  have hsW : ((w.alloc (.cells (c3 (.slice none 0 0) (.slice none 0 0) (.slice none 0 0)) 30)).alloc (.cells #[v, .int .i64 0, .int .u64 0] 128)).heap.size = w.heap.size + 1 + 1 := by simp
  rw [hs1] at D0
  have R0 := Lib.hid (show zrow ((w.alloc (.cells (c3 (.slice none 0 0) (.slice none 0 0) (.slice none 0 0)) 30)).alloc (.cells #[v, .int .i64 0, .int .u64 0] 128)) w.heap.size from (Row.new w 30 (c3 (.slice none 0 0) (.slice none 0 0) (.slice none 0 0))).alloc (.cells #[v, .int .i64 0, .int .u64 0] 128))
  have HB1 := Lib.hid hb1
  have HS1 := Lib.hid hs1; have HSW := Lib.hid hsW
  have DB : Hid (∀ X m, Dv ((w.alloc (.cells (c3 (.slice none 0 0) (.slice none 0 0) (.slice none 0 0)) 30)).alloc (.cells #[v, .int .i64 0, .int .u64 0] 128)) (w.heap.size + 1) m X → Below w.heap.size w X) := fun X m q => HB1.out.trans ((dv_below (w := w.alloc (.cells (c3 (.slice none 0 0) (.slice none 0 0) (.slice none 0 0)) 30)) (v := v) (m := m) (X := X) (by rw [HS1.out]; exact q)).mono HB1.out.size)
  obtain ⟨_, _, va, vc, rfl, _⟩ := hby
  clear hb1 hs1 hsW
  go_enter Try.func58, Try.ntmps58
  go_wp2_with fail
  refine (c_heap (w.heap.size + 1) 0 _ D0.out.1 (by omega)).mono ?_
  rintro e w2 ⟨a, b, cc, h, rfl, hsh, hf1, ho2, hc2, hg2⟩
  obtain ⟨⟨pa, qa, rfl⟩, ⟨pb, qb, rfl⟩, ⟨pc, qc, rfl⟩⟩ := ho2.shapes
  rw [HSW.out] at ho2
  have SH := Lib.hid hsh
  have hf12 := hsh.n
  generalize h.f.length = nf at *
  generalize h.l.length = nl at *
  generalize h.r.length = nr at *
  have D2 := Lib.hid (D0.out.step hc2 hg2)
  have R2 := Lib.hid (show zrow w2 w.heap.size from row_stepC R0.out (by omega) hg2)
  have OH := Lib.hid ho2
  clear hsh ho2 hc2 hg2 D0 R0
  have hba := below1 w2 (.cells (c3 (.slice pa nf qa) (.slice pb nl qb) (.slice pc nr qc)) 30)
  have hs2 := D2.out.size
  rw [HSW.out] at hs2
  have DA := Lib.hid (D2.out.low (hba.mono D2.out.size))
  have RA := Lib.hid (show zrow _ _ from Row.alloc R2.out (.cells (c3 (.slice pa nf qa) (.slice pb nl qb) (.slice pc nr qc)) 30))
  have VA := Lib.hid (show RowH _ _ _ _ _ from Row.new w2 30 (c3 (.slice pa nf qa) (.slice pb nl qb) (.slice pc nr qc)))
  have OA := Lib.hid (OH.out.below hba)
  have LV : Hid (w.heap.size + 1 + 1 ≤ w2.heap.size) := hs2
  have HGA : Hid (w2.heap.size < (w2.alloc (.cells (c3 (.slice pa nf qa) (.slice pb nl qb) (.slice pc nr qc)) 30)).heap.size) := by unfold Hid; simp
  clear hba hs2 D2 R2 OH
  go_wp2_with fail
  generalize w2.heap.size = gv at *
  generalize w2.alloc (.cells (c3 (.slice pa nf qa) (.slice pb nl qb) (.slice pc nr qc)) 30) = w3 at *
  have DD := Lib.hid (DA.out.low (below_drew (Below.refl _ w3)))
  have RD : Hid (zrow w3.drew w.heap.size) := RA.out
  have VD : Hid (RowH w3.drew gv (.slice pa nf qa) (.slice pb nl qb) (.slice pc nr qc)) := VA.out
  have OD := Lib.hid (OA.out.below (below_drew (Below.refl w3.heap.size w3)))
  have d0 := VD.out.c0
  have d1 := VD.out.c1
  have d2 := VD.out.c2
  have hwn1 : IntKind.i64.wrap ((nf : Int) + 1) = (nf : Int) + 1 := IntWalk.i64_in _ (by omega)
  have hwn2 : IntKind.i64.wrap ((nf : Int) + 2) = (nf : Int) + 2 := IntWalk.i64_in _ (by omega)
  refine wp_region_held_drew (S := (fun w' => w'.cell? ⟨gv, 0, none⟩ = some (.slice pa nf qa) ∧ w'.cell? ⟨gv, 1, none⟩ = some (.slice pb nl qb) ∧ w'.cell? ⟨gv, 2, none⟩ = some (.slice pc nr qc))) (by kernel_rfl) (⟨d0, d1, d2⟩) (fun hHeld => ?_)
  refine wpAnyH_take (i := 0) (v := ?va0x12) rfl (by kernel_rfl) (by kernel_rfl) (by kernel_rfl) (fun _ _ _ h => h) (Or.inl ⟨by rfl, ?hy0x12⟩) (by assumption) ?rest0x12
  case hy0x12 => (intro w hSw; (try dsimp only at hSw); go_simp; try with_reducible rfl)
  (try simp only [Act.put, List.getElem_toArray, List.getElem_cons_zero, List.setIfInBounds_toArray, List.set_cons_zero, List.set_cons_succ])
  refine wpAnyH_take (i := 1) (v := ?va1x13) rfl (by kernel_rfl) (by kernel_rfl) (by kernel_rfl) (fun _ _ _ h => h) (Or.inl ⟨by rfl, ?hy1x13⟩) (by assumption) ?rest1x13
  case hy1x13 => (intro w hSw; (try dsimp only at hSw); go_simp; try with_reducible rfl)
  (try simp only [Act.put, List.getElem_toArray, List.getElem_cons_zero, List.getElem_cons_succ, List.setIfInBounds_toArray, List.set_cons_zero, List.set_cons_succ])
  refine wpAnyH_take (i := 2) (v := ?va2x14) rfl (by kernel_rfl) (by kernel_rfl) (by kernel_rfl) (fun _ _ _ h => h) (Or.inl ⟨by rfl, ?hy2x14⟩) (by assumption) ?rest2x14
  case hy2x14 => (intro w hSw; (try dsimp only at hSw); go_simp; try with_reducible rfl)
  (try simp only [Act.put, List.getElem_toArray, List.getElem_cons_zero, List.getElem_cons_succ, List.setIfInBounds_toArray, List.set_cons_zero, List.set_cons_succ])
  refine wpAnyH_take (i := 3) (v := ?va3x15) rfl (by kernel_rfl) (by kernel_rfl) (by kernel_rfl) (fun _ _ _ h => h) (Or.inl ⟨by rfl, ?hy3x15⟩) (by assumption) ?rest3x15
  case hy3x15 => (intro w hSw; (try dsimp only at hSw); go_simp; try with_reducible rfl)
  (try simp only [Act.put, List.getElem_toArray, List.getElem_cons_zero, List.getElem_cons_succ, List.setIfInBounds_toArray, List.set_cons_zero, List.set_cons_succ])
  refine wpAnyH_take (i := 4) (v := ?va4x16) rfl (by kernel_rfl) (by kernel_rfl) (by kernel_rfl) (fun _ _ _ h => h) (Or.inl ⟨by rfl, ?hy4x16⟩) (by assumption) ?rest4x16
  case hy4x16 => (intro w hSw; (try dsimp only at hSw); go_simp; try with_reducible rfl)
  (try simp only [Act.put, List.getElem_toArray, List.getElem_cons_zero, List.getElem_cons_succ, List.setIfInBounds_toArray, List.set_cons_zero, List.set_cons_succ])
  refine wpAnyH_take (i := 5) (v := ?va5x17) rfl (by kernel_rfl) (by kernel_rfl) (by kernel_rfl) (fun _ _ _ h => h) (Or.inl ⟨by rfl, ?hy5x17⟩) (by assumption) ?rest5x17
  case hy5x17 => (intro w hSw; (try dsimp only at hSw); go_simp; try with_reducible rfl)
  (try simp only [Act.put, List.getElem_toArray, List.getElem_cons_zero, List.getElem_cons_succ, List.setIfInBounds_toArray, List.set_cons_zero, List.set_cons_succ])
  refine wpAnyH_take (i := 7) (v := ?va7x18) rfl (by kernel_rfl) (by kernel_rfl) (by kernel_rfl) (fun _ _ _ h => h) (Or.inl ⟨by rfl, ?hy7x18⟩) (by assumption) ?rest7x18
  case hy7x18 => (intro w hSw; (try dsimp only at hSw); go_simp; try with_reducible rfl)
  (try simp only [Act.put, List.getElem_toArray, List.getElem_cons_zero, List.getElem_cons_succ, List.setIfInBounds_toArray, List.set_cons_zero, List.set_cons_succ])
  refine wpAnyH_take (i := 11) (v := ?va11x19) rfl (by kernel_rfl) (by kernel_rfl) (by kernel_rfl) (fun _ _ _ h => h) (Or.inl ⟨by rfl, ?hy11x19⟩) (by assumption) ?rest11x19
  case hy11x19 => (intro w hSw; (try dsimp only at hSw); go_simp; try with_reducible rfl)
  (try simp only [Act.put, List.getElem_toArray, List.getElem_cons_zero, List.getElem_cons_succ, List.setIfInBounds_toArray, List.set_cons_zero, List.set_cons_succ])
  refine wpAnyH_take (i := 13) (v := ?va13x20) rfl (by kernel_rfl) (by kernel_rfl) (by kernel_rfl) (fun _ _ _ h => h) (Or.inl ⟨by rfl, ?hy13x20⟩) (by assumption) ?rest13x20
  case hy13x20 => (intro w hSw; (try dsimp only at hSw); go_simp; try with_reducible rfl)
  (try simp only [Act.put, List.getElem_toArray, List.getElem_cons_zero, List.getElem_cons_succ, List.setIfInBounds_toArray, List.set_cons_zero, List.set_cons_succ])
  refine wpAnyH_take (i := 14) (v := ?va14x21) rfl (by kernel_rfl) (by kernel_rfl) (by kernel_rfl) (fun _ _ _ h => h) (Or.inl ⟨by rfl, ?hy14x21⟩) (by assumption) ?rest14x21
  case hy14x21 => (intro w hSw; (try dsimp only at hSw); go_simp; try with_reducible rfl)
  (try simp only [Act.put, List.getElem_toArray, List.getElem_cons_zero, List.getElem_cons_succ, List.setIfInBounds_toArray, List.set_cons_zero, List.set_cons_succ])
  refine wpAnyH_take (i := 15) (v := ?va15x22) rfl (by kernel_rfl) (by kernel_rfl) (by kernel_rfl) (fun _ _ _ h => h) (Or.inl ⟨by rfl, ?hy15x22⟩) (by assumption) ?rest15x22
  case hy15x22 => (intro w hSw; (try dsimp only at hSw); go_simp; try with_reducible rfl)
  (try simp only [Act.put, List.getElem_toArray, List.getElem_cons_zero, List.getElem_cons_succ, List.setIfInBounds_toArray, List.set_cons_zero, List.set_cons_succ])
  refine wpAnyH_take (i := 16) (v := ?va16x23) rfl (by kernel_rfl) (by kernel_rfl) (by kernel_rfl) (fun _ _ _ h => h) (Or.inl ⟨by rfl, ?hy16x23⟩) (by assumption) ?rest16x23
  case hy16x23 => (intro w hSw; (try dsimp only at hSw); go_simp; try with_reducible rfl)
  (try simp only [Act.put, List.getElem_toArray, List.getElem_cons_zero, List.getElem_cons_succ, List.setIfInBounds_toArray, List.set_cons_zero, List.set_cons_succ])
  refine wpAnyH_take (i := 17) (v := ?va17x24) rfl (by kernel_rfl) (by kernel_rfl) (by kernel_rfl) (fun _ _ _ h => h) (Or.inl ⟨by rfl, ?hy17x24⟩) (by assumption) ?rest17x24
  case hy17x24 => (intro w hSw; (try dsimp only at hSw); go_simp; try with_reducible rfl)
  (try simp only [Act.put, List.getElem_toArray, List.getElem_cons_zero, List.getElem_cons_succ, List.setIfInBounds_toArray, List.set_cons_zero, List.set_cons_succ])
  generalize w3.drew = wd at *
  clear d0 d1 d2
  refine wpAnyH_ready (rs := [6]) (by kernel_rfl) (by simp) ?_
  refine AllReadyH.cons rfl (fun K hK => ?_) AllReadyH.nil
  go_simp
  refine (c_pick (w.heap.size + 1) (0 + 200) ((nf : Int) + 1) _ DD.out.1 (by omega) (by omega) (by omega)).mono ?_
  rintro e wp0 ⟨x1, hx1, rfl, hc5, hg5⟩
  have Dp0 := Lib.hid (DD.out.step hc5 hg5)
  have Rp0 := Lib.hid (show zrow _ _ from row_stepC RD.out (by omega) hg5)
  have Vp0 := Lib.hid (show RowH _ _ _ _ _ from row_stepC VD.out (by have := LV.out; omega) hg5)
  have Op0 := Lib.hid (OD.out.stepC (by omega) hg5)
  clear hc5 hg5
  refine hK.out _ _ ⟨Vp0.out.c0, Vp0.out.c1, Vp0.out.c2⟩ (fun hHeld => ?_)
  clear hK K
  (try simp only [Act.put, List.getElem_toArray, List.getElem_cons_zero, List.getElem_cons_succ, List.setIfInBounds_toArray, List.set_cons_zero, List.set_cons_succ])
  refine wpAnyH_ready (rs := [8]) (by kernel_rfl) (by simp) ?_
  refine AllReadyH.cons rfl (fun K hK => ?_) AllReadyH.nil
  go_simp
  refine (c_pick (w.heap.size + 1) (0 + 200 + 2) (9) _ Dp0.out.1 (by omega) (by omega) (by omega)).mono ?_
  rintro e wp1 ⟨x2, hx2, rfl, hc5, hg5⟩
  have Dp1 := Lib.hid (Dp0.out.step hc5 hg5)
  have Rp1 := Lib.hid (show zrow _ _ from row_stepC Rp0.out (by omega) hg5)
  have Vp1 := Lib.hid (show RowH _ _ _ _ _ from row_stepC Vp0.out (by have := LV.out; omega) hg5)
  have Op1 := Lib.hid (Op0.out.stepC (by omega) hg5)
  clear hc5 hg5
  refine hK.out _ _ ⟨Vp1.out.c0, Vp1.out.c1, Vp1.out.c2⟩ (fun hHeld => ?_)
  clear hK K
  (try simp only [Act.put, List.getElem_toArray, List.getElem_cons_zero, List.getElem_cons_succ, List.setIfInBounds_toArray, List.set_cons_zero, List.set_cons_succ])
  have hq8 : x2.tdiv 8 = x2 / 8 := Int.tdiv_eq_ediv_of_nonneg hx2.1
  have q8 : 0 ≤ x2 / 8 ∧ x2 / 8 ≤ 1 := by omega
  generalize x2 / 8 = y8 at *
  have hwy : IntKind.i64.wrap y8 = y8 := IntWalk.i64_in _ (by omega)
  have hws : IntKind.i64.wrap (x1 - y8) = x1 - y8 := IntWalk.i64_in _ (by omega)
  refine wpAnyH_take (i := 9) (v := ?va9x25) rfl (by kernel_rfl) (by kernel_rfl) (by kernel_rfl) (fun _ _ _ h => h) (Or.inl ⟨by rfl, ?hy9x25⟩) (by assumption) ?rest9x25
  case hy9x25 => (intro w hSw; (try dsimp only at hSw); go_simp; try with_reducible rfl)
  (try simp only [Act.put, List.getElem_toArray, List.getElem_cons_zero, List.getElem_cons_succ, List.setIfInBounds_toArray, List.set_cons_zero, List.set_cons_succ])
  refine wpAnyH_take (i := 10) (v := ?va10x26) rfl (by kernel_rfl) (by kernel_rfl) (by kernel_rfl) (fun _ _ _ h => h) (Or.inl ⟨by rfl, ?hy10x26⟩) (by assumption) ?rest10x26
  case hy10x26 => (intro w hSw; (try dsimp only at hSw); go_simp; try with_reducible rfl)
  (try simp only [Act.put, List.getElem_toArray, List.getElem_cons_zero, List.getElem_cons_succ, List.setIfInBounds_toArray, List.set_cons_zero, List.set_cons_succ])
  refine wpAnyH_ready (rs := [12]) (by kernel_rfl) (by simp) ?_
  refine AllReadyH.cons rfl (fun K hK => ?_) AllReadyH.nil
  go_simp
  refine (c_pick (w.heap.size + 1) (0 + 200 + 2 + 2) (4) _ Dp1.out.1 (by omega) (by omega) (by omega)).mono ?_
  rintro e wp2 ⟨x3, hx3, rfl, hc5, hg5⟩
  have Dp2 := Lib.hid (Dp1.out.step hc5 hg5)
  have Rp2 := Lib.hid (show zrow _ _ from row_stepC Rp1.out (by omega) hg5)
  have Vp2 := Lib.hid (show RowH _ _ _ _ _ from row_stepC Vp1.out (by have := LV.out; omega) hg5)
  have Op2 := Lib.hid (Op1.out.stepC (by omega) hg5)
  clear hc5 hg5
  refine hK.out _ _ ⟨Vp2.out.c0, Vp2.out.c1, Vp2.out.c2⟩ (fun hHeld => ?_)
  clear hK K
  (try simp only [Act.put, List.getElem_toArray, List.getElem_cons_zero, List.getElem_cons_succ, List.setIfInBounds_toArray, List.set_cons_zero, List.set_cons_succ])
  refine wpAnyH_ready (rs := [18]) (by kernel_rfl) (by simp) ?_
  refine AllReadyH.cons rfl (fun K hK => ?_) AllReadyH.nil
  go_simp
  refine (c_pick (w.heap.size + 1) (0 + 200 + 2 + 2 + 2) ((nf : Int) + 2) _ Dp2.out.1 (by omega) (by omega) (by omega)).mono ?_
  rintro e wp3 ⟨x4, hx4, rfl, hc5, hg5⟩
  have Dp3 := Lib.hid (Dp2.out.step hc5 hg5)
  have Rp3 := Lib.hid (show zrow _ _ from row_stepC Rp2.out (by omega) hg5)
  have Vp3 := Lib.hid (show RowH _ _ _ _ _ from row_stepC Vp2.out (by have := LV.out; omega) hg5)
  have Op3 := Lib.hid (Op2.out.stepC (by omega) hg5)
  clear hc5 hg5
  refine hK.out _ _ ⟨Vp3.out.c0, Vp3.out.c1, Vp3.out.c2⟩ (fun hHeld => ?_)
  clear hK K
  (try simp only [Act.put, List.getElem_toArray, List.getElem_cons_zero, List.getElem_cons_succ, List.setIfInBounds_toArray, List.set_cons_zero, List.set_cons_succ])
  have hwx4 : IntKind.i64.wrap (x4 - 1) = x4 - 1 := IntWalk.i64_in _ (by omega)
  refine wpAnyH_take (i := 19) (v := ?va19x27) rfl (by kernel_rfl) (by kernel_rfl) (by kernel_rfl) (fun _ _ _ h => h) (Or.inl ⟨by rfl, ?hy19x27⟩) (by assumption) ?rest19x27
  case hy19x27 => (intro w hSw; (try dsimp only at hSw); go_simp; try with_reducible rfl)
  (try simp only [Act.put, List.getElem_toArray, List.getElem_cons_zero, List.getElem_cons_succ, List.setIfInBounds_toArray, List.set_cons_zero, List.set_cons_succ])
  refine wpAnyH_ready (rs := [20]) (by kernel_rfl) (by simp) ?_
  refine AllReadyH.cons rfl (fun K hK => ?_) AllReadyH.nil
  have hch := chgRow wp3 w.heap.size (c3 (.slice pa nf qa) (.slice pb nl qb) (.slice pc nr qc))
  have VN := Lib.hid (show RowH _ _ _ _ _ from Row.chg Vp3.out hch (.inr (by have := LV.out; omega)))
  have ON := Lib.hid (Op3.out.chg hch (.inr (by omega)))
  have BN := Lib.hid (below_setRow (g := w.heap.size) (DB.out _ _ Dp3.out) (Nat.le_refl _) (c3 (.slice pa nf qa) (.slice pb nl qb) (.slice pc nr qc)))
  clear hch
  refine wp_store_row 30 _ _ rfl w.heap.size (c3 (.slice pa nf qa) (.slice pb nl qb) (.slice pc nr qc)) rfl rfl 30 _ Rp3.out info_heap rfl (by simp [Value.oneCell']) ?_
  refine hK.out _ _ ⟨VN.out.c0, VN.out.c1, VN.out.c2⟩ (fun hHeld => ?_)
  clear hK K
  (try simp only [Act.put, List.getElem_toArray, List.getElem_cons_zero, List.getElem_cons_succ])
  refine wpAnyH_take (i := 21) (v := ?va21x28) rfl (by kernel_rfl) (by kernel_rfl) (by kernel_rfl) (fun _ _ _ h => h) (Or.inl ⟨by rfl, ?hy21x28⟩) (by assumption) ?rest21x28
  case hy21x28 => (intro w hSw; (try dsimp only at hSw); go_simp; try with_reducible rfl)
  (try simp only [Act.put, List.getElem_toArray, List.getElem_cons_zero, List.getElem_cons_succ, List.setIfInBounds_toArray, List.set_cons_zero, List.set_cons_succ])
  refine wpAnyH_take (i := 22) (v := ?va22x29) rfl (by kernel_rfl) (by kernel_rfl) (by kernel_rfl) (fun _ _ _ h => h) (Or.inl ⟨by rfl, ?hy22x29⟩) (by assumption) ?rest22x29
  case hy22x29 => (intro w hSw; (try dsimp only at hSw); go_simp; try with_reducible rfl)
  (try simp only [Act.put, List.getElem_toArray, List.getElem_cons_zero, List.getElem_cons_succ, List.setIfInBounds_toArray, List.set_cons_zero, List.set_cons_succ])
  refine wpAnyH_take (i := 23) (v := ?va23x30) rfl (by kernel_rfl) (by kernel_rfl) (by kernel_rfl) (fun _ _ _ h => h) (Or.inl ⟨by rfl, ?hy23x30⟩) (by assumption) ?rest23x30
  case hy23x30 => (intro w hSw; (try dsimp only at hSw); go_simp; try with_reducible rfl)
  (try simp only [Act.put, List.getElem_toArray, List.getElem_cons_zero, List.getElem_cons_succ, List.setIfInBounds_toArray, List.set_cons_zero, List.set_cons_succ])
  refine wpAnyH_done (by kernel_rfl) ?_ _
  clear hHeld
  go_wp2_with fail
  refine bodyPost_ret (res_row_slot3 Try.results58 (Row.put Rp3.out (c3 (.slice pa nf qa) (.slice pb nl qb) (.slice pc nr qc))) rfl rfl rfl rfl Try.underlying30 rfl info_heap) rfl ⟨_, _, _, h, x1 - y8, x3, x4 - 1, rfl, SH.out, ON.out.reads, BN.out⟩
end Go.Proofs.Ytkkigoamphkalaa
namespace Go.Proofs.Ytkkigoamphkalaa
open Go.RowKit Ph

set_option maxHeartbeats 800000 in
theorem c_sameBools (va vb : Value) (zs : List Bool) (w : World) (hA : BoolsAt w va zs) (hB : BoolsAt w vb zs) (hm : zs.length ≤ 9223372036854775806) :
    Calls Try.prog 54 #[va, vb] w fun e w' => e = .returned (.bool true) ∧ ∃ n, w' = w.drewN n := by
  obtain ⟨a, ca, rfl, hA⟩ := hA
  obtain ⟨b, cb, rfl, hB⟩ := hB
  generalize hn : zs.length = n at *
  clear hn
  have hbq : ((n : Int) != (n : Int)) = false := by simp
  have HCA := Lib.hid hA; have HCB := Lib.hid hB; clear hA hB
  go_enter Try.func54, Try.ntmps54
  go_wp2
  go_loopw [13] (fun i wr => ∃ k : Nat, k ≤ n ∧ i = .int .i64 k ∧ ∃ n, wr = w.drewN n) (fun i _ => n - (intOf i).toNat)
  case atStart => exact ⟨0, Nat.zero_le _, rfl, drewN_refl _⟩
  case round =>
    obtain ⟨k, hk, rfl, nd, rfl⟩ := hrel
    by_cases hlt : k < n
    · obtain ⟨ba, oa, rfl, hca⟩ := HCA.out (by omega)
      obtain ⟨bb, ob, rfl, hcb⟩ := HCB.out (by omega)
      have q1 := hca k hlt
      have q2 := hcb k hlt
      have i1 : (k : Int) < (n : Int) := by omega
      clear hca hcb
      generalize zs.getD k false = x at *
      have hxx : (x != x) = false := by simp
      go_wp2
      go_quiet (fail)
      go_wp2
      go_roundw
      case rel => exact ⟨k + 1, by omega, by go_num, nd + nq, by simp⟩
      case measure => simp [intOf]; omega
    · go_wp2
      go_ret
      exact ⟨rfl, _, rfl⟩

set_option maxRecDepth 100000 in
set_option maxHeartbeats 3200000 in
theorem c_sameHeap (a b c a' b' c' : Value) (h : H) (w : World) (hA : HeapAt w a b c h) (hB : HeapAt w a' b' c' h) (h1 : h.f.length ≤ 1000) (h2 : h.l.length ≤ 1000) (h3 : h.r.length ≤ 1000) (h4 : ∀ i, (h.f.getD i []).length ≤ 1000) :
    Calls Try.prog 53 #[hv a b c, hv a' b' c'] w fun e w' => e = .returned (.bool true) ∧ Below w.heap.size w w' := by
  obtain ⟨pa, qa, rfl⟩ := hA.f.shape
  obtain ⟨pb, qb, rfl⟩ := hA.l.shape
  obtain ⟨pc, qc, rfl⟩ := hA.r.shape
  obtain ⟨pa', qa', rfl⟩ := hB.f.shape
  obtain ⟨pb', qb', rfl⟩ := hB.l.shape
  obtain ⟨pc', qc', rfl⟩ := hB.r.shape
  have HA := Lib.hid hA; have HB := Lib.hid hB; have H4 := Lib.hid h4
  have HN2 : Hid (∀ X : List Bool, X = h.l → X.length ≤ 1000) := fun X q => by rw [q]; exact h2
  have HN3 : Hid (∀ X : List Int, X = h.r → X.length ≤ 1000) := fun X q => by rw [q]; exact h3
  clear hA hB h4
  generalize h.f.length = nf at *
  generalize h.l.length = nl at *
  generalize h.r.length = nr at *
  have hb0 : Below w.heap.size w ((w.alloc (.cells (c3 (.slice pa nf qa) (.slice pb nl qb) (.slice pc nr qc)) 30)).alloc (.cells (c3 (.slice pa' nf qa') (.slice pb' nl qb') (.slice pc' nr qc')) 30)) := (below1 w (.cells (c3 (.slice pa nf qa) (.slice pb nl qb) (.slice pc nr qc)) 30)).alloc (by simp) (.cells (c3 (.slice pa' nf qa') (.slice pb' nl qb') (.slice pc' nr qc')) 30)
  have L := Lib.hid hb0
  have RA := Lib.hid (show RowH _ w.heap.size (.slice pa nf qa) (.slice pb nl qb) (.slice pc nr qc) from (Row.new w 30 (c3 (.slice pa nf qa) (.slice pb nl qb) (.slice pc nr qc))).alloc (.cells (c3 (.slice pa' nf qa') (.slice pb' nl qb') (.slice pc' nr qc')) 30))
  have RB := Lib.hid (show RowH _ (w.heap.size + 1) (.slice pa' nf qa') (.slice pb' nl qb') (.slice pc' nr qc') from Row.new1 w (.cells (c3 (.slice pa nf qa) (.slice pb nl qb) (.slice pc nr qc)) 30) 30 (c3 (.slice pa' nf qa') (.slice pb' nl qb') (.slice pc' nr qc')))
  replace HA := Lib.hid (HA.out.below hb0); replace HB := Lib.hid (HB.out.below hb0)
  clear hb0
  have hbq : ((nf : Int) != (nf : Int)) = false := by simp
  go_enter Try.func53, Try.ntmps53
  have a0 := RA.out.c0
  have a1 := RA.out.c1
  have a2 := RA.out.c2
  have b0 := RB.out.c0
  have b1 := RB.out.c1
  have b2 := RB.out.c2
  go_wp2_with fail
  refine (c_sameBools _ _ h.l _ HA.out.l HB.out.l (by have := HN2.out _ rfl; omega)).mono ?_
  rintro e w1 ⟨rfl, nd1, hw1⟩
  have hb1 : Below ((w.alloc (.cells (c3 (.slice pa nf qa) (.slice pb nl qb) (.slice pc nr qc)) 30)).alloc (.cells (c3 (.slice pa' nf qa') (.slice pb' nl qb') (.slice pc' nr qc')) 30)).heap.size ((w.alloc (.cells (c3 (.slice pa nf qa) (.slice pb nl qb) (.slice pc nr qc)) 30)).alloc (.cells (c3 (.slice pa' nf qa') (.slice pb' nl qb') (.slice pc' nr qc')) 30)) w1 := by rw [hw1]; exact below_drewN (Below.refl _ _) nd1
  replace L := Lib.hid (bst L.out hb1 L.out.size); replace RA := Lib.hid (RA.out.below hb1); replace RB := Lib.hid (RB.out.below hb1); replace HA := Lib.hid (HA.out.below hb1); replace HB := Lib.hid (HB.out.below hb1)
  clear a0 a1 a2 b0 b1 b2 hb1 hw1 nd1
  have a0 := RA.out.c0
  have a1 := RA.out.c1
  have a2 := RA.out.c2
  have b0 := RB.out.c0
  have b1 := RB.out.c1
  have b2 := RB.out.c2
  go_wp2_with fail
  refine (c_sameInts _ _ h.r h.r _ HA.out.r HB.out.r (by have := HN3.out _ rfl; omega)).mono ?_
  rintro e w2 ⟨hre, nd2, hw2⟩
  rw [decide_eq_true rfl] at hre
  subst hre
  have hb1 : Below w1.heap.size w1 w2 := by rw [hw2]; exact below_drewN (Below.refl _ _) nd2
  replace L := Lib.hid (bst L.out hb1 L.out.size); replace RA := Lib.hid (RA.out.below hb1); replace RB := Lib.hid (RB.out.below hb1); replace HA := Lib.hid (HA.out.below hb1); replace HB := Lib.hid (HB.out.below hb1)
  clear a0 a1 a2 b0 b1 b2 hb1 hw2 nd2
  have a0 := RA.out.c0
  have b0 := RB.out.c0
  go_wp2_with fail
  clear a0 b0
  go_loopw [32] (fun i wr => ∃ k : Nat, k ≤ nf ∧ i = .int .i64 (k : Int) ∧ Hid (Below w2.heap.size w2 wr)) (fun i _ => nf - (intOf i).toNat)
  case atStart => exact ⟨0, Nat.zero_le _, rfl, Below.refl _ _⟩
  case round =>
    obtain ⟨k, hk, rfl, hbw⟩ := hrel
    by_cases hlt : k < nf
    · have HA' := HA.out.below hbw.out; have HB' := HB.out.below hbw.out
      obtain ⟨fb, fo, rfl, hcf⟩ := HA'.f.at' (by omega)
      obtain ⟨u, quf, huf⟩ := hcf k hlt
      obtain ⟨fb', fo', rfl, hcf'⟩ := HB'.f.at' (by omega)
      obtain ⟨u', quf', huf'⟩ := hcf' k hlt
      obtain ⟨ua, uc, rfl⟩ := huf.shape
      obtain ⟨ua', uc', rfl⟩ := huf'.shape
      have RA1 := RA.out.below hbw.out; have RB1 := RB.out.below hbw.out
      have h4k := H4.out k
      have HU := Lib.hid huf; have HU' := Lib.hid huf'; have H4K := Lib.hid h4k
      have i1 : (k : Int) < (nf : Int) := by omega
      have i0 : (0 : Int) ≤ (k : Int) := by omega
      clear hcf hcf' huf huf' HA' HB' h4k
      generalize h.f.getD k [] = row at *
      generalize hul : row.length = ul at *
      have HUL := Lib.hid hul; clear hul
      have d0 : wr.drew.cell? ⟨w.heap.size, 0, none⟩ = some _ := RA1.c0
      have d1 : wr.drew.cell? ⟨w.heap.size + 1, 0, none⟩ = some _ := RB1.c0
      have d2 : wr.drew.cell? ⟨fb, fo + k, none⟩ = some _ := quf
      have d3 : wr.drew.cell? ⟨fb', fo' + k, none⟩ = some _ := quf'
      have BD := Lib.hid (below_drew (Below.refl wr.heap.size wr))
      have U1 := Lib.hid (HU.out.below BD.out); have U2 := Lib.hid (HU'.out.below BD.out)
      clear RA1 RB1 quf quf'
      go_wp2_with fail
      refine wp_region_held_drew (S := (fun w' => w'.cell? ⟨w.heap.size, 0, none⟩ = some (.slice (some ⟨fb, fo, none⟩) nf qa) ∧ w'.cell? ⟨w.heap.size + 1, 0, none⟩ = some (.slice (some ⟨fb', fo', none⟩) nf qa') ∧ w'.cell? ⟨fb, fo + k, none⟩ = some (.slice ua ul uc) ∧ w'.cell? ⟨fb', fo' + k, none⟩ = some (.slice ua' ul uc'))) (by kernel_rfl) (⟨d0, d1, d2, d3⟩) (fun hHeld => ?_)
      refine wpAnyH_take (i := 0) (v := ?va0x1) rfl (by kernel_rfl) (by kernel_rfl) (by kernel_rfl) (fun _ _ _ h => h) (Or.inl ⟨by rfl, ?hy0x1⟩) (by assumption) ?rest0x1
      case hy0x1 => (intro w hSw; (try dsimp only at hSw); go_simp; try with_reducible rfl)
      (try simp only [Act.put, List.getElem_toArray, List.getElem_cons_zero, List.setIfInBounds_toArray, List.set_cons_zero, List.set_cons_succ])
      refine wpAnyH_take (i := 1) (v := ?va1x2) rfl (by kernel_rfl) (by kernel_rfl) (by kernel_rfl) (fun _ _ _ h => h) (Or.inl ⟨by rfl, ?hy1x2⟩) (by assumption) ?rest1x2
      case hy1x2 => (intro w hSw; (try dsimp only at hSw); go_simp; try with_reducible rfl)
      (try simp only [Act.put, List.getElem_toArray, List.getElem_cons_zero, List.getElem_cons_succ, List.setIfInBounds_toArray, List.set_cons_zero, List.set_cons_succ])
      refine wpAnyH_take (i := 2) (v := ?va2x3) rfl (by kernel_rfl) (by kernel_rfl) (by kernel_rfl) (fun _ _ _ h => h) (Or.inl ⟨by rfl, ?hy2x3⟩) (by assumption) ?rest2x3
      case hy2x3 => (intro w hSw; (try dsimp only at hSw); go_simp; try with_reducible rfl)
      (try simp only [Act.put, List.getElem_toArray, List.getElem_cons_zero, List.getElem_cons_succ, List.setIfInBounds_toArray, List.set_cons_zero, List.set_cons_succ])
      refine wpAnyH_take (i := 3) (v := ?va3x4) rfl (by kernel_rfl) (by kernel_rfl) (by kernel_rfl) (fun _ _ _ h => h) (Or.inl ⟨by rfl, ?hy3x4⟩) (by assumption) ?rest3x4
      case hy3x4 => (intro w hSw; (try dsimp only at hSw); go_simp; try with_reducible rfl)
      (try simp only [Act.put, List.getElem_toArray, List.getElem_cons_zero, List.getElem_cons_succ, List.setIfInBounds_toArray, List.set_cons_zero, List.set_cons_succ])
      refine wpAnyH_take (i := 4) (v := ?va4x5) rfl (by kernel_rfl) (by kernel_rfl) (by kernel_rfl) (fun _ _ _ h => h) (Or.inl ⟨by rfl, ?hy4x5⟩) (by assumption) ?rest4x5
      case hy4x5 => (intro w hSw; (try dsimp only at hSw); go_simp; try with_reducible rfl)
      (try simp only [Act.put, List.getElem_toArray, List.getElem_cons_zero, List.getElem_cons_succ, List.setIfInBounds_toArray, List.set_cons_zero, List.set_cons_succ])
      refine wpAnyH_take (i := 5) (v := ?va5x6) rfl (by kernel_rfl) (by kernel_rfl) (by kernel_rfl) (fun _ _ _ h => h) (Or.inl ⟨by rfl, ?hy5x6⟩) (by assumption) ?rest5x6
      case hy5x6 => (intro w hSw; (try dsimp only at hSw); go_simp; try with_reducible rfl)
      (try simp only [Act.put, List.getElem_toArray, List.getElem_cons_zero, List.getElem_cons_succ, List.setIfInBounds_toArray, List.set_cons_zero, List.set_cons_succ])
      refine wpAnyH_take (i := 6) (v := ?va6x7) rfl (by kernel_rfl) (by kernel_rfl) (by kernel_rfl) (fun _ _ _ h => h) (Or.inl ⟨by rfl, ?hy6x7⟩) (by assumption) ?rest6x7
      case hy6x7 => (intro w hSw; (try dsimp only at hSw); go_simp; try with_reducible rfl)
      (try simp only [Act.put, List.getElem_toArray, List.getElem_cons_zero, List.getElem_cons_succ, List.setIfInBounds_toArray, List.set_cons_zero, List.set_cons_succ])
      refine wpAnyH_take (i := 7) (v := ?va7x8) rfl (by kernel_rfl) (by kernel_rfl) (by kernel_rfl) (fun _ _ _ h => h) (Or.inl ⟨by rfl, ?hy7x8⟩) (by assumption) ?rest7x8
      case hy7x8 => (intro w hSw; (try dsimp only at hSw); go_simp; try with_reducible rfl)
      (try simp only [Act.put, List.getElem_toArray, List.getElem_cons_zero, List.getElem_cons_succ, List.setIfInBounds_toArray, List.set_cons_zero, List.set_cons_succ])
      refine wpAnyH_take (i := 8) (v := ?va8x9) rfl (by kernel_rfl) (by kernel_rfl) (by kernel_rfl) (fun _ _ _ h => h) (Or.inl ⟨by rfl, ?hy8x9⟩) (by assumption) ?rest8x9
      case hy8x9 => (intro w hSw; (try dsimp only at hSw); go_simp; try with_reducible rfl)
      (try simp only [Act.put, List.getElem_toArray, List.getElem_cons_zero, List.getElem_cons_succ, List.setIfInBounds_toArray, List.set_cons_zero, List.set_cons_succ])
      refine wpAnyH_take (i := 9) (v := ?va9x10) rfl (by kernel_rfl) (by kernel_rfl) (by kernel_rfl) (fun _ _ _ h => h) (Or.inl ⟨by rfl, ?hy9x10⟩) (by assumption) ?rest9x10
      case hy9x10 => (intro w hSw; (try dsimp only at hSw); go_simp; try with_reducible rfl)
      (try simp only [Act.put, List.getElem_toArray, List.getElem_cons_zero, List.getElem_cons_succ, List.setIfInBounds_toArray, List.set_cons_zero, List.set_cons_succ])
      refine wpAnyH_ready (rs := [10]) (by kernel_rfl) (by simp) ?_
      refine AllReadyH.cons rfl (fun K hK => ?_) AllReadyH.nil
      go_simp
      refine (c_sameInts _ _ row row _ U1.out U2.out (by rw [HUL.out]; have := H4K.out; omega)).mono ?_
      rintro e w5 ⟨hre, nd, hw5⟩
      rw [decide_eq_true rfl] at hre
      subst hre
      have hb5 : Below wr.drew.heap.size wr.drew w5 := by rw [hw5]; exact below_drewN (Below.refl _ _) nd
      clear hw5 nd
      refine hK.out _ _ (⟨cellBelow hb5 (Nat.le_refl _) d0, cellBelow hb5 (Nat.le_refl _) d1, cellBelow hb5 (Nat.le_refl _) d2, cellBelow hb5 (Nat.le_refl _) d3⟩) (fun hHeld => ?_)
      clear hK K
      (try simp only [Act.put, List.getElem_toArray, List.getElem_cons_zero, List.getElem_cons_succ, List.setIfInBounds_toArray, List.set_cons_zero, List.set_cons_succ])
      refine wpAnyH_take (i := 11) (v := ?va11x11) rfl (by kernel_rfl) (by kernel_rfl) (by kernel_rfl) (fun _ _ _ h => h) (Or.inl ⟨by rfl, ?hy11x11⟩) (by assumption) ?rest11x11
      case hy11x11 => (intro w hSw; (try dsimp only at hSw); go_simp; try with_reducible rfl)
      (try simp only [Act.put, List.getElem_toArray, List.getElem_cons_zero, List.getElem_cons_succ, List.setIfInBounds_toArray, List.set_cons_zero, List.set_cons_succ])
      refine wpAnyH_done (by kernel_rfl) ?_ _
      have HB5 : Hid (Below w2.heap.size w2 w5) := bst (bst hbw.out BD.out hbw.out.size) hb5 (bst hbw.out BD.out hbw.out.size).size
      clear hHeld d0 d1 d2 d3 hb5
      go_wp2_with fail
      go_roundw
      case rel => exact ⟨k + 1, by omega, by go_num, HB5⟩
      case measure => simp [intOf]; omega
    · have i1 : ¬ (k : Int) < (nf : Int) := by omega
      go_wp2_with fail
      go_ret
      exact ⟨rfl, bst L.out hbw.out L.out.size⟩
end Go.Proofs.Ytkkigoamphkalaa
namespace Go.Proofs.Ytkkigoamphkalaa.Ph
theorem setF_facts {h : H} {t f z : Int} (hok : setFOk h t f z = true) : ∃ tn fn : Nat, t = tn ∧ f = fn ∧ tn < h.f.length ∧ fn < (h.f.getD tn []).length ∧ (setF h t f z).f.length = h.f.length ∧ (setF h t f z).l.length = h.l.length ∧ (setF h t f z).r.length = h.r.length ∧ (∀ k, (setF h t f z).f.getD k [] = if k = tn then (h.f.getD tn []).set fn z else h.f.getD k []) ∧ good h = true := by
  have hok' := hok
  unfold setFOk at hok'
  simp only [Bool.and_eq_true] at hok'
  obtain ⟨⟨hg, hb⟩, _⟩ := hok'
  obtain ⟨tn, fn, rfl, rfl, h1, h2⟩ := hasFB_iff hb (good_iff.1 hg)
  refine ⟨tn, fn, rfl, rfl, h1, h2, ?_⟩
  rw [setF_yes hok, Int.toNat_natCast, Int.toNat_natCast]
  exact ⟨by simp only [List.length_set], rfl, rfl, fun k => by simp only; rw [getD_setL h1], hg⟩
/-- The place that a new object takes was none's. -/
theorem place_dead (l : List Bool) : l.getD (placeOf l) false = false := by
  by_cases hp : placeOf l < l.length
  · have : (fun b => !b) l[placeOf l] = true := List.findIdx_getElem (w := hp)
    simp only [Bool.not_eq_true'] at this
    simp [List.getD, List.getElem?_eq_getElem hp, this]
  · simp [List.getD, List.getElem?_eq_none (Nat.le_of_not_lt hp)]
structure New (h N : H) (p m : Nat) : Prop where
  n : N.f.length = N.l.length ∧ N.f.length ≤ 12 ∧ p < N.f.length
  f : ∀ i, N.f.getD i [] = if i = p then List.replicate m (-1) else h.f.getD i []
  l : ∀ i, N.l.getD i false = if i = p then true else h.l.getD i false
  r : N.r = h.r
  d : h.l.getD p false = false
theorem New.of {h : H} {m : Int} (hok : newOk h m = true) : New h (newP h m).1 (newP h m).2 m.toNat := by
  have hok' := hok
  unfold newOk at hok'
  simp only [Bool.and_eq_true, decide_eq_true_eq] at hok'
  have g := good_iff.1 hok'.1.1.1
  have h12 := hok'.2
  have hle := place_le h.l
  have hll := g.ll
  have hn := g.n
  rw [newP_yes hok]
  simp only
  have hd := place_dead h.l
  unfold put1 grown1
  by_cases hp : placeOf h.l < h.l.length
  · rw [if_pos hp]
    refine ⟨by simp only [List.length_set]; omega, fun i => ?_, fun i => ?_, rfl, hd⟩
    · simp only; rw [getD_setL (by omega)]
    · simp only; rw [getD_set (by omega)]
  · rw [if_neg hp]
    have hpe : placeOf h.l = h.l.length := by omega
    refine ⟨by simp; omega, fun i => ?_, fun i => ?_, rfl, hd⟩
    · simp only
      rw [getD_setL (by simp; omega)]
      by_cases e : i = placeOf h.l
      · rw [if_pos e, if_pos e]
      · rw [if_neg e, if_neg e]
        by_cases hi : i < h.f.length
        · simp [List.getD, List.getElem?_append_left hi]
        · have h1 : (h.f ++ [([] : List Int)])[i]? = none := List.getElem?_eq_none (by simp; omega)
          have h2 : h.f[i]? = none := List.getElem?_eq_none (by omega)
          simp [List.getD, h1, h2]
    · simp only
      rw [getD_set (by simp; omega)]
      by_cases e : i = placeOf h.l
      · rw [if_pos e, if_pos e]
      · rw [if_neg e, if_neg e]
        by_cases hi : i < h.l.length
        · simp [List.getD, List.getElem?_append_left hi]
        · have h1 : (h.l ++ [false])[i]? = none := List.getElem?_eq_none (by simp; omega)
          have h2 : h.l[i]? = none := List.getElem?_eq_none (by omega)
          simp [List.getD, h1, h2]
theorem New.ref {h N : H} {p m : Nat} (k : New h N p m) {zs : List Int} (hz : refsB h.l zs = true) : refsB N.l zs = true := by
  rw [refsB_iff] at hz ⊢
  intro z q
  rcases refB_iff.1 (hz z q) with e | e
  · exact refB_iff.2 (.inl e)
  · obtain ⟨e1, e2⟩ := liveB_iff.1 e
    refine refB_iff.2 (.inr (liveB_iff.2 ⟨e1, ?_⟩))
    rw [k.l]
    split
    · rfl
    · exact e2
theorem New.good {h N : H} {p m : Nat} (g : Good h) (hm : m ≤ 3) (k : New h N p m) : Good N := by
  refine ⟨k.n.2.1, k.n.1.symm, fun i hi => ?_, by rw [k.r]; exact g.rn, by rw [k.r]; exact k.ref g.rr⟩
  rw [k.f, k.l]
  by_cases e : i = p
  · rw [if_pos e, if_pos e]
    refine ⟨by simp; omega, .inl rfl, ?_⟩
    rw [refsB_iff]
    intro z hz
    exact refB_iff.2 (.inl (List.eq_of_mem_replicate hz))
  · rw [if_neg e, if_neg e]
    by_cases hi2 : i < h.f.length
    · exact ⟨(g.row i hi2).1, (g.row i hi2).2.1, k.ref (g.row i hi2).2.2⟩
    · have : h.f.getD i [] = [] := by simp [List.getD, List.getElem?_eq_none (Nat.le_of_not_lt hi2)]
      rw [this]
      exact ⟨by simp, .inr rfl, rfl⟩
theorem New.apart {h N : H} {p m : Nat} (g : Good h) (k : New h N p m) (i : Nat) (hr : Reach N.f N.r i) : i ≠ p := by
  have old : ∀ zs : List Int, refsB h.l zs = true → (i : Int) ∈ zs → i ≠ p := fun zs hz hi e => by
    rcases refs_bound g hz _ hi with q | ⟨_, _, q⟩
    · omega
    · have := k.d
      rw [← e] at this
      rw [Int.toNat_natCast, this] at q; cases q
  cases hr with
  | root hz => rw [k.r] at hz; exact old _ g.rr hz
  | step _ hz =>
    rename_i y _
    rw [k.f] at hz
    by_cases e : y = p
    · rw [if_pos e] at hz
      have := List.eq_of_mem_replicate hz
      omega
    · rw [if_neg e] at hz
      by_cases hy : y < h.f.length
      · exact old _ (g.row y hy).2.2 hz
      · rw [show h.f.getD y [] = [] by simp [List.getD, List.getElem?_eq_none (Nat.le_of_not_lt hy)]] at hz
        simp at hz
/-- What the law asks of a new object. -/
theorem new_facts {h : H} {m : Int} (hok : newOk h m = true) : good (newP h m).1 = true ∧ (reachR (newP h m).1).length = (newP h m).1.f.length ∧ (newP h m).2 < (newP h m).1.f.length ∧ (newP h m).1.l.length = (newP h m).1.f.length ∧ (reachR (newP h m).1).getD (newP h m).2 false = false ∧ (newP h m).1.l.getD (newP h m).2 false = true ∧ (((newP h m).1.f.getD (newP h m).2 []).length : Int) = m := by
  have hok' := hok
  unfold newOk at hok'
  simp only [Bool.and_eq_true, decide_eq_true_eq] at hok'
  have g := good_iff.1 hok'.1.1.1
  have k := New.of hok
  have gN := k.good g (by omega)
  have hg := good_iff.2 gN
  refine ⟨hg, by rw [reachR_yes hg, reachL_length], k.n.2.2, k.n.1.symm, ?_, by rw [k.l, if_pos rfl], by rw [k.f, if_pos rfl]; simp; omega⟩
  rw [reachR_yes hg]
  cases hq : (reachL (newP h m).1.f (newP h m).1.r).getD (newP h m).2 false with
  | false => rfl
  | true => exact absurd rfl (k.apart g _ (reachL_getD.1 hq).2)
end Go.Proofs.Ytkkigoamphkalaa.Ph
namespace Go.Proofs.Ytkkigoamphkalaa
open Go.RowKit Ph

set_option maxRecDepth 100000 in
set_option maxHeartbeats 6400000 in
theorem s_SetRoot (a b c : Value) (h : H) (t z : Int) (w : World) (hA : HeapAt w a b c h) : Calls Try.prog 66 #[hv a b c, .int .i64 t, .int .i64 z] w (EndH (setR h t z) (setROk h t z) w) := by
  have hb0 := (below1 w (.cells (c3 a b c) 30)).alloc (by simp) (.cells (c3 (.slice none 0 0) (.slice none 0 0) (.slice none 0 0)) 30)
  have A0 := Lib.hid (hA.below hb0)
  have HB := Lib.hid hb0
  have P0 := Lib.hid (show RowH _ _ a b c from (Row.new w 30 (c3 a b c)).alloc (.cells (c3 (.slice none 0 0) (.slice none 0 0) (.slice none 0 0)) 30))
  have R0 := Lib.hid (show RowH _ (w.heap.size + 1) (.slice none 0 0) (.slice none 0 0) (.slice none 0 0) from Row.new1 w (.cells (c3 a b c) 30) 30 (c3 (.slice none 0 0) (.slice none 0 0) (.slice none 0 0)))
  clear hA hb0
  have HC := Lib.hid (s_GoodHeap a b c h _ A0.out)
  have G1 := Lib.hid (good_iff (h := h)).1
  have E1 := Lib.hid (setR_no (h := h) (t := t) (z := z))
  have E2 := Lib.hid (setR_yes (h := h) (t := t) (z := z))
  have hok : setROk h t z = (good h && hasRB h t && refB h.l z) := rfl
  have hfb : hasRB h t = (decide (0 ≤ t) && decide (t < (h.r.length : Int))) := rfl
  have HSH := Lib.hid A0.out.r.shape
  obtain ⟨ra, rc, hra⟩ := HSH.out
  subst hra
  clear HSH
  generalize good h = x at *
  have p0 := P0.out.c0
  have p1 := P0.out.c1
  have p2 := P0.out.c2
  generalize setROk h t z = ok at *
  cases x
  · have HE : Hid (ok = false) := by unfold Hid; rw [hok]; rfl
    clear hok hfb
    go_enter Try.func66, Try.ntmps66
    go_wp2_with (first
      | (go_at_call 80; refine HC.out.mono ?_; rintro e w1 ⟨rfl, hb1⟩; have B1 := Lib.hid (bst HB.out hb1 HB.out.size); have A1 := Lib.hid (A0.out.below hb1); have P1 := Lib.hid (P0.out.below hb1); have R1 := Lib.hid (R0.out.below hb1); have d10 := P1.out.c0; have d11 := P1.out.c1; have d12 := P1.out.c2; clear hb1)
      | (refine wl_storeH rfl _ _ rfl (w.heap.size + 1) (.slice none 0 0) (.slice none 0 0) (.slice none 0 0) _ _ _ R1.out rfl rfl rfl rfl rfl ?_))
    refine bodyPost_ret (res_row_slot Try.results66 (Row.put R1.out (c3 (.slice none 0 0) (.slice none 0 0) (.slice none 0 0))) rfl rfl Try.underlying30 rfl info_heap) rfl (endH_no (below_setRow B1.out (by omega) _) (E1.out HE.out) HE.out)
  · have G := Lib.hid (G1.out rfl)
    have hm3 : h.r.length ≤ 4 := G.out.rn
    by_cases hf : 0 ≤ t ∧ t ≤ (h.r.length : Int) - 1
    · have HIN : Hid (∀ w', Calls Try.prog 126 #[.int .i64 t, .int .i64 0, .int .i64 ((h.r.length : Int) - 1)] w' fun e w'' => e = .returned (.bool true) ∧ w' = w'') := fun w' => s_l1In_yes t 0 _ w' hf.1 hf.2
      have HX2 : Hid (hasRB h t = true) := by unfold Hid; rw [hfb]; simp; omega
      have HZR : Hid (refB h.l z = (decide (z = -1) || liveB h.l z)) := rfl
      rw [HX2.out, HZR.out] at hok
      clear hfb
      by_cases z1 : z = -1
      · subst z1
        have HE : Hid (ok = true) := by unfold Hid; rw [hok]; simp
        clear hok hf
        go_enter Try.func66, Try.ntmps66
        go_wp2_with (first
          | (go_at_call 80; refine HC.out.mono ?_; rintro e w1 ⟨rfl, hb1⟩; have B1 := Lib.hid (bst HB.out hb1 HB.out.size); have A1 := Lib.hid (A0.out.below hb1); have P1 := Lib.hid (P0.out.below hb1); have R1 := Lib.hid (R0.out.below hb1); have d10 := P1.out.c0; have d11 := P1.out.c1; have d12 := P1.out.c2; clear hb1)
          | (go_at_call 126; refine (HIN.out _).mono ?_; rintro e wi ⟨rfl, rfl⟩))
        refine (s_l5Own a b _ h _ A1.out G.out).mono ?_
        rintro e w9 ⟨a', b', c', rfl, ho, hb9⟩
        have B9 := Lib.hid (bst B1.out hb9 B1.out.size); have R9 := Lib.hid (R1.out.below hb9)
        have hfl := hasRB_iff HX2.out
        obtain ⟨k, rfl, hk⟩ := hfl
        obtain ⟨pa, qa, pb, qb, gc, cc, x, rfl, rfl, rfl, q2, q3, hgr, rA, rR, oN⟩ := setRt_facts ho hk (-1) R9.out
        have hE2 := E2.out HE.out
        rw [Int.toNat_natCast] at hE2
        have RA := Lib.hid rA; have RR := Lib.hid rR; have ON := Lib.hid oN; have EE := Lib.hid hE2
        have LL : Hid (w.heap.size ≤ gc) := Nat.le_trans B1.out.size hgr
        have L9 : Hid (w.heap.size ≤ w9.heap.size) := B9.out.size
        have LK := Lib.hid B1.out.size
        clear rA rR oN hE2 ho hb9 hgr
        have i1 : (k : Int) < (h.r.length : Int) := by omega
        have j1 : (0 : Int) ≤ (k : Int) := by omega
        generalize h.f.length = nf at *
        generalize h.l.length = nl at *
        generalize h.r.length = nr at *
        go_wp2_with (first
          | (refine wl_loadH rfl _ rfl w9.heap.size _ _ _ RA.out rfl ?_)
          | (refine wl_storeH rfl _ _ rfl (w.heap.size + 1) (.slice pa nf qa) (.slice pb nl qb) (.slice (some ⟨gc, 0, none⟩) nr cc) _ _ _ RR.out rfl rfl rfl rfl rfl ?_))
        refine bodyPost_ret (res_row_slot Try.results66 (Row.put RR.out (c3 (.slice pa nf qa) (.slice pb nl qb) (.slice (some ⟨gc, 0, none⟩) nr cc))) rfl rfl Try.underlying30 rfl info_heap) rfl (endH_yes (below_setRow ((B9.out.alloc L9.out _).setCell (p := ⟨gc, k, none⟩) LL.out _) (by omega) _) (ON.out.wholeRow RR.out _) LK.out (by rw [size_setRow, World.size_setCell, World.size_alloc]; omega) EE.out HE.out)
      · have hz1 : (z != -1) = true := by rw [bne_iff_ne]; exact z1
        generalize hb3 : liveB h.l z = x3 at *
        have HX3 := Lib.hid hb3
        clear hb3
        cases x3
        · have HE : Hid (ok = false) := by unfold Hid; rw [hok]; simp [z1]
          clear hok hf z1
          go_enter Try.func66, Try.ntmps66
          go_wp2_with (first
            | (go_at_call 80; refine HC.out.mono ?_; rintro e w1 ⟨rfl, hb1⟩; have B1 := Lib.hid (bst HB.out hb1 HB.out.size); have A1 := Lib.hid (A0.out.below hb1); have P1 := Lib.hid (P0.out.below hb1); have R1 := Lib.hid (R0.out.below hb1); have d10 := P1.out.c0; have d11 := P1.out.c1; have d12 := P1.out.c2; clear hb1)
            | (go_at_call 126; refine (HIN.out _).mono ?_; rintro e wi ⟨rfl, rfl⟩)
            | (go_at_call 125; refine (s_l5Thing a b _ h z _ A1.out G.out).mono ?_; rintro e w2 ⟨rfl, hb2⟩; rw [HX3.out]; have B2 := Lib.hid (bst B1.out hb2 B1.out.size); have A2 := Lib.hid (A1.out.below hb2); have P2 := Lib.hid (P1.out.below hb2); have R2 := Lib.hid (R1.out.below hb2); have d20 := P2.out.c0; have d21 := P2.out.c1; have d22 := P2.out.c2; clear hb2)
            | (refine wl_storeH rfl _ _ rfl (w.heap.size + 1) (.slice none 0 0) (.slice none 0 0) (.slice none 0 0) _ _ _ R2.out rfl rfl rfl rfl rfl ?_))
          refine bodyPost_ret (res_row_slot Try.results66 (Row.put R2.out (c3 (.slice none 0 0) (.slice none 0 0) (.slice none 0 0))) rfl rfl Try.underlying30 rfl info_heap) rfl (endH_no (below_setRow B2.out (by omega) _) (E1.out HE.out) HE.out)
        · have HE : Hid (ok = true) := by unfold Hid; rw [hok]; simp
          clear hok hf z1
          go_enter Try.func66, Try.ntmps66
          go_wp2_with (first
            | (go_at_call 80; refine HC.out.mono ?_; rintro e w1 ⟨rfl, hb1⟩; have B1 := Lib.hid (bst HB.out hb1 HB.out.size); have A1 := Lib.hid (A0.out.below hb1); have P1 := Lib.hid (P0.out.below hb1); have R1 := Lib.hid (R0.out.below hb1); have d10 := P1.out.c0; have d11 := P1.out.c1; have d12 := P1.out.c2; clear hb1)
            | (go_at_call 126; refine (HIN.out _).mono ?_; rintro e wi ⟨rfl, rfl⟩)
            | (go_at_call 125; refine (s_l5Thing a b _ h z _ A1.out G.out).mono ?_; rintro e w2 ⟨rfl, hb2⟩; rw [HX3.out]; have B2 := Lib.hid (bst B1.out hb2 B1.out.size); have A2 := Lib.hid (A1.out.below hb2); have P2 := Lib.hid (P1.out.below hb2); have R2 := Lib.hid (R1.out.below hb2); have d20 := P2.out.c0; have d21 := P2.out.c1; have d22 := P2.out.c2; clear hb2))
          refine (s_l5Own a b _ h _ A2.out G.out).mono ?_
          rintro e w9 ⟨a', b', c', rfl, ho, hb9⟩
          have B9 := Lib.hid (bst B2.out hb9 B2.out.size); have R9 := Lib.hid (R2.out.below hb9)
          have hfl := hasRB_iff HX2.out
          obtain ⟨k, rfl, hk⟩ := hfl
          obtain ⟨pa, qa, pb, qb, gc, cc, x, rfl, rfl, rfl, q2, q3, hgr, rA, rR, oN⟩ := setRt_facts ho hk z R9.out
          have hE2 := E2.out HE.out
          rw [Int.toNat_natCast] at hE2
          have RA := Lib.hid rA; have RR := Lib.hid rR; have ON := Lib.hid oN; have EE := Lib.hid hE2
          have LL : Hid (w.heap.size ≤ gc) := Nat.le_trans B2.out.size hgr
          have L9 : Hid (w.heap.size ≤ w9.heap.size) := B9.out.size
          have LK := Lib.hid B2.out.size
          clear rA rR oN hE2 ho hb9 hgr
          have i1 : (k : Int) < (h.r.length : Int) := by omega
          have j1 : (0 : Int) ≤ (k : Int) := by omega
          generalize h.f.length = nf at *
          generalize h.l.length = nl at *
          generalize h.r.length = nr at *
          go_wp2_with (first
            | (refine wl_loadH rfl _ rfl w9.heap.size _ _ _ RA.out rfl ?_)
            | (refine wl_storeH rfl _ _ rfl (w.heap.size + 1) (.slice pa nf qa) (.slice pb nl qb) (.slice (some ⟨gc, 0, none⟩) nr cc) _ _ _ RR.out rfl rfl rfl rfl rfl ?_))
          refine bodyPost_ret (res_row_slot Try.results66 (Row.put RR.out (c3 (.slice pa nf qa) (.slice pb nl qb) (.slice (some ⟨gc, 0, none⟩) nr cc))) rfl rfl Try.underlying30 rfl info_heap) rfl (endH_yes (below_setRow ((B9.out.alloc L9.out _).setCell (p := ⟨gc, k, none⟩) LL.out _) (by omega) _) (ON.out.wholeRow RR.out _) LK.out (by rw [size_setRow, World.size_setCell, World.size_alloc]; omega) EE.out HE.out)
    · have HIN : Hid (∀ w', Calls Try.prog 126 #[.int .i64 t, .int .i64 0, .int .i64 ((h.r.length : Int) - 1)] w' fun e w'' => e = .returned (.bool false) ∧ w' = w'') := fun w' => s_l1In_no t 0 _ w' (by omega)
      have HX2 : Hid (hasRB h t = false) := by unfold Hid; rw [hfb]; simp; omega
      have HE : Hid (ok = false) := by unfold Hid; rw [hok, HX2.out]; simp
      clear hok hf hfb
      go_enter Try.func66, Try.ntmps66
      go_wp2_with (first
        | (go_at_call 80; refine HC.out.mono ?_; rintro e w1 ⟨rfl, hb1⟩; have B1 := Lib.hid (bst HB.out hb1 HB.out.size); have A1 := Lib.hid (A0.out.below hb1); have P1 := Lib.hid (P0.out.below hb1); have R1 := Lib.hid (R0.out.below hb1); have d10 := P1.out.c0; have d11 := P1.out.c1; have d12 := P1.out.c2; clear hb1)
        | (go_at_call 126; refine (HIN.out _).mono ?_; rintro e wi ⟨rfl, rfl⟩)
        | (refine wl_storeH rfl _ _ rfl (w.heap.size + 1) (.slice none 0 0) (.slice none 0 0) (.slice none 0 0) _ _ _ R1.out rfl rfl rfl rfl rfl ?_))
      refine bodyPost_ret (res_row_slot Try.results66 (Row.put R1.out (c3 (.slice none 0 0) (.slice none 0 0) (.slice none 0 0))) rfl rfl Try.underlying30 rfl info_heap) rfl (endH_no (below_setRow B1.out (by omega) _) (E1.out HE.out) HE.out)
end Go.Proofs.Ytkkigoamphkalaa
namespace Go.Proofs.Ytkkigoamphkalaa
open Go.ChangeShapes Go.WideShapes Go.ChangeAt Go.RowKit

theorem own : ownKnob Try.prog.godebug = none := by kernel_rfl
theorem laidOut : laidOutB Try.prog = true := by kernel_rfl

section
variable {H : Type} {enc : TypeId × Value → H} {P : Program}
theorem trodAll_below (hl : laidOutB P = true) {W W' : World} (hb : Below W.heap.size W W') :
    ∀ (ts : List TypeId) (vs : List Value) (ds : List (DataW H)) (ps : List MemPlace), (∀ t ∈ ts, P.readableRec t = true ∧ t < P.types.size) →
      DataW.TrodAll enc P W 0 (fun _ => true) true ts vs ds ps → (∀ x ∈ ps, x.block < W.heap.size) →
      DataW.TrodAll enc P W' 0 (fun b => decide (b < W.heap.size)) true ts vs ds ps
  | [], [], [], _, _, h, _ => h
  | t :: ts, v :: vs, d :: ds, ps, hr, h, hlt => by
    obtain ⟨p, q, h1, h2, rfl⟩ := h
    exact ⟨p, q, Below.trod hl (hr t (by simp)).1 (hr t (by simp)).2 h1 hb (fun x hx => hlt x (by simp [hx])),
      trodAll_below hl hb ts vs ds q (fun t ht => hr t (by simp [ht])) h2 (fun x hx => hlt x (by simp [hx])), rfl⟩
  | [], [], _ :: _, _, _, h, _ => h.elim
  | [], _ :: _, _, _, _, h, _ => h.elim
  | _ :: _, [], _, _, _, h, _ => h.elim
  | _ :: _, _ :: _, [], _, _, h, _ => h.elim
theorem var_lt {W : World} {n : String} {g : Nat} {cs : Array Value} (hg : P.globalNamed n = some g) (hv : W.var? P n = some cs) : g < W.heap.size := by
  unfold World.var? at hv
  simp only [hg, Option.bind_some] at hv
  by_cases h : g < W.heap.size
  · exact h
  · have hn : W.heap[g]? = none := by simp; omega
    simp [hn] at hv
theorem trodVars_below (hl : laidOutB P = true) {W W' : World} (hb : Below W.heap.size W W') :
    ∀ (ns : List String) (ds : List (DataW H)) (ps : List MemPlace), (∀ n ∈ ns, ∀ g t, P.globalNamed n = some g → (P.globals[g]?).map (·.type) = some t → P.readableRec t = true ∧ t < P.types.size) →
      DataW.TrodVars enc P W (fun _ => true) ns ds ps → (∀ x ∈ ps, x.block < W.heap.size) →
      DataW.TrodVars enc P W' (fun b => decide (b < W.heap.size)) ns ds ps
  | [], [], _, _, h, _ => h
  | n :: ns, d :: ds, ps, hr, h, hlt => by
    obtain ⟨g, t, cs, fuel, p, q, h1, h2, h3, h4, h5, rfl⟩ := h
    have ht : DataW.Trod enc P W 0 (fun _ => true) true t (.agg cs) d p := ⟨fuel, h4⟩
    obtain ⟨fuel', h4'⟩ := Below.trod hl (hr n (by simp) g t h1 h2).1 (hr n (by simp) g t h1 h2).2 ht hb (fun x hx => hlt x (by simp [hx]))
    exact ⟨g, t, cs, fuel', p, q, h1, h2, var?_below hb h1 (var_lt h1 h3) h3, h4', trodVars_below hl hb ns ds q (fun n hn => hr n (by simp [hn])) h5 (fun x hx => hlt x (by simp [hx])), rfl⟩
  | [], _ :: _, _, _, h, _ => h.elim
  | _ :: _, [], _, _, h, _ => h.elim

/-- THE END OF A LAW: it answered true, nothing old has turned. -/
theorem law_post {fn : Func} {s : ChangeSpec} {W W' : World} {args : Array Value} {ds gs : List (DataW H)} {before : List MemPlace} {tb : TypeId} (hl : laidOutB P = true)
    (hps : ∀ t ∈ fn.params.toList, P.readableRec t = true ∧ t < P.types.size) (hvs : ∀ n ∈ s.vars, ∀ g t, P.globalNamed n = some g → (P.globals[g]?).map (·.type) = some t → P.readableRec t = true ∧ t < P.types.size)
    (hW : DataW.Whole enc P fn.params.toList s.vars false W args.toList ds gs before) (hb : Below W.heap.size W W') (hs : s.fn H (ds ++ gs) = { results := [.lit (.bool true)], args := ds, vars := gs })
    (hr : fn.resultTypes = #[tb]) (ht : P.underlying tb = some .bool) : s.post enc P fn false true false false W args (.bool true) W' := by
  have hW' := hW
  obtain ⟨p, q, hA, hV, rfl, hfz, hnd⟩ := hW
  have hlt : ∀ x ∈ p ++ q, x.block < W.heap.size := fun x hx => hW'.lt x hx
  refine ⟨ds, gs, p ++ q, [], p, q, hW', ?_, ?_, ?_, hb.frame _, fun h => by cases h⟩
  · rw [hs, hr]
    exact trodAll_cons_mk (shut_bool ht _) trodAll_mk0
  · rw [hs]
    exact trodAll_below hl hb _ _ _ _ hps hA (fun x hx => hlt x (by simp [hx]))
  · rw [hs]
    exact trodVars_below hl hb _ _ _ hvs hV (fun x hx => hlt x (by simp [hx]))
end

theorem r_bytes : Try.prog.readableRec 75 = true ∧ 75 < Try.prog.types.size := ⟨by kernel_rfl, of_decide_eq_true (by kernel_rfl)⟩
theorem cellsByte : Try.prog.cellsOf 5 = 1 := by kernel_rfl
set_option maxRecDepth 100000 in
theorem bytes_of_arg {H : Type} {enc : TypeId × Value → H} {W : World} {base : Nat} {v : Value} {d : DataW H} {p : List MemPlace} (hval : Value.okWide Try.prog W .any base 75 v)
    (h : DataW.Trod enc Try.prog W 0 (fun _ => true) true 75 v d p) : ∃ zs, BytesAt W v zs := by
  obtain ⟨a0, len, cap, rfl⟩ := okWide_slice Try.underlying75 hval
  obtain ⟨fuel, hf⟩ := h
  rcases open_ints Try.underlying75 Try.underlying5 cellsByte hf with ⟨hcs, hx⟩ | ⟨a, len', cap', zs, hcs, _, hl, hm, hz, hx, hcell, hwz⟩
  · simp [Value.cells] at hcs
    obtain ⟨rfl, rfl, rfl⟩ := hcs
    exact ⟨[], by simp, by simp, none, 0, rfl, fun h => absurd h (by simp)⟩
  · simp [Value.cells] at hcs
    obtain ⟨rfl, rfl, rfl⟩ := hcs
    simp only [if_true] at hz
    have hlen : (zs.take len).length = len := by rw [List.length_take]; omega
    refine ⟨zs.take len, by rw [hlen]; unfold maxLen at hm; omega, fun z hz => ?_, some a, cap, by rw [hlen], fun h0 => ?_⟩
    · exact bounds_u8 (hwz z (List.mem_of_mem_take hz))
    rw [hlen] at h0 ⊢
    obtain ⟨b, off, rfl, hc⟩ := ints_at hcell (by omega)
    refine ⟨b, off, rfl, fun i hi => ?_⟩
    rw [hc i (by omega)]
    simp [List.getD, hi]
end Go.Proofs.Ytkkigoamphkalaa
