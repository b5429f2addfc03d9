/- What the laws of chapter 6 draw: colours; the laws' own 'has'. The draws of chapter 6's laws. The draws of FnMarked. The draws of FnCleaned and FnNamed. The draw of two heaps. The laws' own comparisons of heaps. -/
import Derived.Test.YthanckifinfpiaaMb
import Derived.Test.YthanckifinfpiaaCs3
import Derived.Test.YthanckifinfpiaaMf
import Derived.Test.YthanckifinfpiaaHl5
namespace Go.Proofs.Ythanckifinfpiaa
open Go.RowKit Ph

theorem mem_of_getD {zs : List Int} {k : Nat} {x : Int} (h : k < zs.length) (e : zs.getD k 0 = x) : x ∈ zs := by
  rw [← e, List.getD, List.getElem?_eq_getElem h]; simp
theorem not_mem_all {zs : List Int} {x : Int} (h : ∀ i, i < zs.length → zs.getD i 0 ≠ x) : ¬ x ∈ zs := fun hm => by
  obtain ⟨i, hi, e⟩ := List.mem_iff_getElem.1 hm
  exact h i hi (by rw [List.getD, List.getElem?_eq_getElem hi]; simpa using e)

theorem own_ints22 (w : World) (B : Nat) (hB : B ≤ w.heap.size) : Own (w.alloc (.cells #[.int .i64 (-1), .int .i64 3] 3)) B (.slice (some ⟨w.heap.size, 0, none⟩) 2 2) [-1, 3] :=
  ⟨rfl, .inr ⟨w.heap.size, 2, _, rfl, hB, heap_alloc_new _ _, Nat.le_refl _, by decide, rfl, rfl⟩⟩
end Go.Proofs.Ythanckifinfpiaa
namespace Go.Proofs.Ythanckifinfpiaa
open Go.RowKit Ph

theorem dv_new {w : World} {v : Value} {zs : List Int} (h : BytesAt w v zs) : Dv (w.alloc (.cells #[v, .int .i64 0, .int .u64 0] 104)) w.heap.size 0 (w.alloc (.cells #[v, .int .i64 0, .int .u64 0] 104)) := Dv.start (cur_new h)
theorem dv_below {w X : World} {v : Value} {m : Nat} (h : Dv (w.alloc (.cells #[v, .int .i64 0, .int .u64 0] 104)) w.heap.size m X) : Below w.heap.size w X := below_of_cur h.2.1
theorem Own.stepC {X Y : World} {B c : Nat} {v : Value} {zs : List Int} (h : Own X B v zs) (hB : c < B) (hg : X.grownBy Y (some c)) : Own Y B v zs := Own.chg h (chgC hg) (fun g e => .inr (by have := (owns_lt h e).1; omega))
theorem OwnH.stepC {X Y : World} {B c hi : Nat} {a b cc : Value} {h : H} (k : OwnH X B hi a b cc h) (hB : c < B) (hg : X.grownBy Y (some c)) : OwnH Y B hi a b cc h := k.chg (chgC hg) (.inr (by omega))
theorem row_stepC {X Y : World} {c g : Nat} {cs : Array Value} (h : Row X g 27 cs) (hn : g ≠ c) (hg : X.grownBy Y (some c)) : Row Y g 27 cs := Row.chg h (chgC hg) (by omega)
end Go.Proofs.Ythanckifinfpiaa
namespace Go.Proofs.Ythanckifinfpiaa
open Go.RowKit Ph

set_option maxRecDepth 100000 in
set_option maxHeartbeats 3200000 in
theorem d_GoodHeap (v : Value) (zs : List Int) (w : World) (hby : BytesAt w v zs) : Calls Try.prog 71 #[v] w fun e w' => ∃ a b cc h hi, e = .returned (hv a b cc) ∧ Sh h ∧ OwnH w' w.heap.size hi a b cc h ∧ Below w.heap.size w w' := by
  have hb1 := below1 w (.cells (c3 (.slice none 0 0) (.slice none 0 0) (.slice none 0 0)) 27)
  have D0 := Lib.hid (dv_new (hby.below hb1))
  have hs1 : (w.alloc (.cells (c3 (.slice none 0 0) (.slice none 0 0) (.slice none 0 0)) 27)).heap.size = w.heap.size + 1 := World.size_alloc _ _
  have hsW : ((w.alloc (.cells (c3 (.slice none 0 0) (.slice none 0 0) (.slice none 0 0)) 27)).alloc (.cells #[v, .int .i64 0, .int .u64 0] 104)).heap.size = w.heap.size + 1 + 1 := by simp
  rw [hs1] at D0
  have R0 := Lib.hid (show zrow ((w.alloc (.cells (c3 (.slice none 0 0) (.slice none 0 0) (.slice none 0 0)) 27)).alloc (.cells #[v, .int .i64 0, .int .u64 0] 104)) w.heap.size from (Row.new w 27 (c3 (.slice none 0 0) (.slice none 0 0) (.slice none 0 0))).alloc (.cells #[v, .int .i64 0, .int .u64 0] 104))
  have HB1 := Lib.hid hb1
  have HS1 := Lib.hid hs1; have HSW := Lib.hid hsW
  have DB : Hid (∀ X m, Dv ((w.alloc (.cells (c3 (.slice none 0 0) (.slice none 0 0) (.slice none 0 0)) 27)).alloc (.cells #[v, .int .i64 0, .int .u64 0] 104)) (w.heap.size + 1) m X → Below w.heap.size w X) := fun X m q => HB1.out.trans ((dv_below (w := w.alloc (.cells (c3 (.slice none 0 0) (.slice none 0 0) (.slice none 0 0)) 27)) (v := v) (m := m) (X := X) (by rw [HS1.out]; exact q)).mono HB1.out.size)
  obtain ⟨_, _, va, vc, rfl, _⟩ := hby
  clear hb1 hs1 hsW
  go_enter Try.func71, Try.ntmps71
  go_wp2_with fail
  refine (c_heap (w.heap.size + 1) 0 _ D0.out.1 (by omega)).mono ?_
  rintro e w2 ⟨a, b, cc, h, rfl, hsh, hf1, ho2, hc2, hg2⟩
  obtain ⟨⟨pa, qa, rfl⟩, ⟨pb, qb, rfl⟩, ⟨pc, qc, rfl⟩⟩ := ho2.shapes
  rw [HSW.out] at ho2
  have SH := Lib.hid hsh
  have hf12 := hsh.n
  generalize h.f.length = nf at *
  generalize h.l.length = nl at *
  generalize h.r.length = nr at *
  have D2 := Lib.hid (D0.out.step hc2 hg2)
  have R2 := Lib.hid (show zrow w2 w.heap.size from row_stepC R0.out (by omega) hg2)
  have OH := Lib.hid ho2
  clear hsh ho2 hc2 hg2 D0 R0
  have ON := Lib.hid (OH.out.chg (chgRow w2 w.heap.size (c3 (.slice pa nf qa) (.slice pb nl qb) (.slice pc nr qc))) (.inr (by omega)))
  have BN := Lib.hid (below_setRow (g := w.heap.size) (DB.out _ _ D2.out) (Nat.le_refl _) (c3 (.slice pa nf qa) (.slice pb nl qb) (.slice pc nr qc)))
  go_wp2_with (refine wl_storeH rfl _ _ rfl w.heap.size (.slice pa nf qa) (.slice pb nl qb) (.slice pc nr qc) _ _ _ R2.out rfl rfl rfl rfl rfl ?_)
  refine bodyPost_ret (res_row Try.results71 (Row.put R2.out (c3 (.slice pa nf qa) (.slice pb nl qb) (.slice pc nr qc))) rfl Try.underlying27 rfl info_heap) rfl ⟨_, _, _, h, _, rfl, SH.out, ON.out.wide (by omega) (Nat.le_refl _), BN.out⟩
end Go.Proofs.Ythanckifinfpiaa
namespace Go.Proofs.Ythanckifinfpiaa
open Go.RowKit Ph

set_option maxRecDepth 100000 in
set_option maxHeartbeats 3200000 in
theorem d_CleanHeap (v : Value) (zs : List Int) (w : World) (hby : BytesAt w v zs) : Calls Try.prog 13 #[v] w fun e w' => ∃ a b cc h, e = .returned (hv a b cc) ∧ Sh h ∧ HeapAt w' a b cc h ∧ Below w.heap.size w w' := by
  have hb1 := below1 w (.cells (c3 (.slice none 0 0) (.slice none 0 0) (.slice none 0 0)) 27)
  have hs1 : (w.alloc (.cells (c3 (.slice none 0 0) (.slice none 0 0) (.slice none 0 0)) 27)).heap.size = w.heap.size + 1 := World.size_alloc _ _
  have HY := Lib.hid (hby.below hb1)
  have R0 := Lib.hid (show zrow (w.alloc (.cells (c3 (.slice none 0 0) (.slice none 0 0) (.slice none 0 0)) 27)) w.heap.size from Row.new w 27 (c3 (.slice none 0 0) (.slice none 0 0) (.slice none 0 0)))
  have HB1 := Lib.hid hb1; have HS1 := Lib.hid hs1
  obtain ⟨_, _, va, vc, rfl, _⟩ := hby
  clear hb1 hs1
  go_enter Try.func13, Try.ntmps13
  go_wp2_with fail
  refine (d_GoodHeap _ zs _ HY.out).mono ?_
  rintro e w2 ⟨a, b, cc, h, hi, rfl, hsh, ho2, hb2⟩
  obtain ⟨⟨pa, qa, rfl⟩, ⟨pb, qb, rfl⟩, ⟨pc, qc, rfl⟩⟩ := ho2.shapes
  rw [HS1.out] at ho2
  have SH := Lib.hid hsh
  generalize h.f.length = nf at *
  generalize h.l.length = nl at *
  generalize h.r.length = nr at *
  have R2 := Lib.hid (show zrow w2 w.heap.size from Row.below R0.out hb2)
  have ON := Lib.hid (ho2.chg (chgRow w2 w.heap.size (c3 (.slice pa nf qa) (.slice pb nl qb) (.slice pc nr qc))) (.inr (Nat.le_refl _)))
  have BN := Lib.hid (below_setRow (g := w.heap.size) (bst HB1.out hb2 HB1.out.size) (Nat.le_refl _) (c3 (.slice pa nf qa) (.slice pb nl qb) (.slice pc nr qc)))
  clear hsh ho2 hb2
  go_wp2_with (refine wl_storeH rfl _ _ rfl w.heap.size (.slice pa nf qa) (.slice pb nl qb) (.slice pc nr qc) _ _ _ R2.out rfl rfl rfl rfl rfl ?_)
  refine bodyPost_ret (res_row Try.results13 (Row.put R2.out (c3 (.slice pa nf qa) (.slice pb nl qb) (.slice pc nr qc))) rfl Try.underlying27 rfl info_heap) rfl ⟨_, _, _, h, rfl, SH.out, ON.out.reads, BN.out⟩
set_option maxRecDepth 100000 in
set_option maxHeartbeats 3200000 in
theorem d_NewThing (v : Value) (zs : List Int) (w : World) (hby : BytesAt w v zs) : Calls Try.prog 30 #[v] w fun e w' => ∃ a b cc h k, e = .returned (.tuple #[hv a b cc, .int .i64 k]) ∧ Sh h ∧ (-1 ≤ k ∧ k ≤ 20) ∧ HeapAt w' a b cc h ∧ Below w.heap.size w w' := by
  have hb1 := below1 w (.cells (c3 (.slice none 0 0) (.slice none 0 0) (.slice none 0 0)) 27)
  have D0 := Lib.hid (dv_new (hby.below hb1))
  have hs1 : (w.alloc (.cells (c3 (.slice none 0 0) (.slice none 0 0) (.slice none 0 0)) 27)).heap.size = w.heap.size + 1 := World.size_alloc _ _
  have hsW : ((w.alloc (.cells (c3 (.slice none 0 0) (.slice none 0 0) (.slice none 0 0)) 27)).alloc (.cells #[v, .int .i64 0, .int .u64 0] 104)).heap.size = w.heap.size + 1 + 1 := by simp
  rw [hs1] at D0
  have R0 := Lib.hid (show zrow ((w.alloc (.cells (c3 (.slice none 0 0) (.slice none 0 0) (.slice none 0 0)) 27)).alloc (.cells #[v, .int .i64 0, .int .u64 0] 104)) w.heap.size from (Row.new w 27 (c3 (.slice none 0 0) (.slice none 0 0) (.slice none 0 0))).alloc (.cells #[v, .int .i64 0, .int .u64 0] 104))
  have HB1 := Lib.hid hb1
  have HS1 := Lib.hid hs1; have HSW := Lib.hid hsW
  have DB : Hid (∀ X m, Dv ((w.alloc (.cells (c3 (.slice none 0 0) (.slice none 0 0) (.slice none 0 0)) 27)).alloc (.cells #[v, .int .i64 0, .int .u64 0] 104)) (w.heap.size + 1) m X → Below w.heap.size w X) := fun X m q => HB1.out.trans ((dv_below (w := w.alloc (.cells (c3 (.slice none 0 0) (.slice none 0 0) (.slice none 0 0)) 27)) (v := v) (m := m) (X := X) (by rw [HS1.out]; exact q)).mono HB1.out.size)
  obtain ⟨_, _, va, vc, rfl, _⟩ := hby
  clear hb1 hs1 hsW
  go_enter Try.func30, Try.ntmps30
  go_wp2_with fail
  refine (c_heap (w.heap.size + 1) 0 _ D0.out.1 (by omega)).mono ?_
  rintro e w2 ⟨a, b, cc, h, rfl, hsh, hf1, ho2, hc2, hg2⟩
  obtain ⟨⟨pa, qa, rfl⟩, ⟨pb, qb, rfl⟩, ⟨pc, qc, rfl⟩⟩ := ho2.shapes
  rw [HSW.out] at ho2
  have SH := Lib.hid hsh
  have hf12 := hsh.n
  generalize h.f.length = nf at *
  generalize h.l.length = nl at *
  generalize h.r.length = nr at *
  have D2 := Lib.hid (D0.out.step hc2 hg2)
  have R2 := Lib.hid (show zrow w2 w.heap.size from row_stepC R0.out (by omega) hg2)
  have OH := Lib.hid ho2
  clear hsh ho2 hc2 hg2 D0 R0
  go_wp2_with fail
  refine (c_pick (w.heap.size + 1) (0 + 200) 6 _ D2.out.1 (by omega) (by omega) (by omega)).mono ?_
  rintro e w3 ⟨x, hx, rfl, hc3, hg3⟩
  have D3 := Lib.hid (D2.out.step hc3 hg3)
  have R3 := Lib.hid (show zrow w3 w.heap.size from row_stepC R2.out (by omega) hg3)
  have O3 := OH.out.stepC (by omega) hg3
  have ON := Lib.hid (O3.chg (chgRow w3 w.heap.size (c3 (.slice pa nf qa) (.slice pb nl qb) (.slice pc nr qc))) (.inr (by omega)))
  have BN := Lib.hid (below_setRow (g := w.heap.size) (DB.out _ _ D3.out) (Nat.le_refl _) (c3 (.slice pa nf qa) (.slice pb nl qb) (.slice pc nr qc)))
  have hwx : IntKind.i64.wrap (x - 1) = x - 1 := IntWalk.i64_in _ (by omega)
  clear hc3 hg3 O3
  go_wp2_with (refine wl_storeH rfl _ _ rfl w.heap.size (.slice pa nf qa) (.slice pb nl qb) (.slice pc nr qc) _ _ _ R3.out rfl rfl rfl rfl rfl ?_)
  refine bodyPost_ret (res_row_slot Try.results30 (Row.put R3.out (c3 (.slice pa nf qa) (.slice pb nl qb) (.slice pc nr qc))) rfl rfl Try.underlying27 rfl info_heap) rfl ⟨_, _, _, h, x - 1, rfl, SH.out, by omega, ON.out.reads, BN.out⟩
set_option maxRecDepth 100000 in
set_option maxHeartbeats 3200000 in
theorem d_SetRoot (v : Value) (zs : List Int) (w : World) (hby : BytesAt w v zs) : Calls Try.prog 33 #[v] w fun e w' => ∃ a b cc h k t, e = .returned (.tuple #[hv a b cc, .int .i64 k, .int .i64 t]) ∧ Sh h ∧ HeapAt w' a b cc h ∧ Below w.heap.size w w' := by
  have hb1 := below1 w (.cells (c3 (.slice none 0 0) (.slice none 0 0) (.slice none 0 0)) 27)
  have D0 := Lib.hid (dv_new (hby.below hb1))
  have hs1 : (w.alloc (.cells (c3 (.slice none 0 0) (.slice none 0 0) (.slice none 0 0)) 27)).heap.size = w.heap.size + 1 := World.size_alloc _ _
  have hsW : ((w.alloc (.cells (c3 (.slice none 0 0) (.slice none 0 0) (.slice none 0 0)) 27)).alloc (.cells #[v, .int .i64 0, .int .u64 0] 104)).heap.size = w.heap.size + 1 + 1 := by simp
  rw [hs1] at D0
  have R0 := Lib.hid (show zrow ((w.alloc (.cells (c3 (.slice none 0 0) (.slice none 0 0) (.slice none 0 0)) 27)).alloc (.cells #[v, .int .i64 0, .int .u64 0] 104)) w.heap.size from (Row.new w 27 (c3 (.slice none 0 0) (.slice none 0 0) (.slice none 0 0))).alloc (.cells #[v, .int .i64 0, .int .u64 0] 104))
  have HB1 := Lib.hid hb1
  have HS1 := Lib.hid hs1; have HSW := Lib.hid hsW
  have DB : Hid (∀ X m, Dv ((w.alloc (.cells (c3 (.slice none 0 0) (.slice none 0 0) (.slice none 0 0)) 27)).alloc (.cells #[v, .int .i64 0, .int .u64 0] 104)) (w.heap.size + 1) m X → Below w.heap.size w X) := fun X m q => HB1.out.trans ((dv_below (w := w.alloc (.cells (c3 (.slice none 0 0) (.slice none 0 0) (.slice none 0 0)) 27)) (v := v) (m := m) (X := X) (by rw [HS1.out]; exact q)).mono HB1.out.size)
  obtain ⟨_, _, va, vc, rfl, _⟩ := hby
  clear hb1 hs1 hsW
  go_enter Try.func33, Try.ntmps33
  go_wp2_with fail
  refine (c_heap (w.heap.size + 1) 0 _ D0.out.1 (by omega)).mono ?_
  rintro e w2 ⟨a, b, cc, h, rfl, hsh, hf1, ho2, hc2, hg2⟩
  obtain ⟨⟨pa, qa, rfl⟩, ⟨pb, qb, rfl⟩, ⟨pc, qc, rfl⟩⟩ := ho2.shapes
  rw [HSW.out] at ho2
  have SH := Lib.hid hsh
  have hf12 := hsh.n
  generalize h.f.length = nf at *
  generalize h.l.length = nl at *
  generalize h.r.length = nr at *
  have D2 := Lib.hid (D0.out.step hc2 hg2)
  have R2 := Lib.hid (show zrow w2 w.heap.size from row_stepC R0.out (by omega) hg2)
  have OH := Lib.hid ho2
  clear hsh ho2 hc2 hg2 D0 R0
  have hba := below1 w2 (.cells (c3 (.slice pa nf qa) (.slice pb nl qb) (.slice pc nr qc)) 27)
  have hs2 := D2.out.size
  rw [HSW.out] at hs2
  have DA := Lib.hid (D2.out.low (hba.mono D2.out.size))
  have RA := Lib.hid (show zrow _ _ from Row.alloc R2.out (.cells (c3 (.slice pa nf qa) (.slice pb nl qb) (.slice pc nr qc)) 27))
  have VA := Lib.hid (show RowH _ _ _ _ _ from Row.new w2 27 (c3 (.slice pa nf qa) (.slice pb nl qb) (.slice pc nr qc)))
  have OA := Lib.hid (OH.out.below hba)
  have LV : Hid (w.heap.size + 1 + 1 ≤ w2.heap.size) := hs2
  have HGA : Hid (w2.heap.size < (w2.alloc (.cells (c3 (.slice pa nf qa) (.slice pb nl qb) (.slice pc nr qc)) 27)).heap.size) := by unfold Hid; simp
  clear hba hs2 D2 R2 OH
  go_wp2_with fail
  generalize w2.heap.size = gv at *
  generalize w2.alloc (.cells (c3 (.slice pa nf qa) (.slice pb nl qb) (.slice pc nr qc)) 27) = w3 at *
  have DD := Lib.hid (DA.out.low (below_drew (Below.refl _ w3)))
  have RD : Hid (zrow w3.drew w.heap.size) := RA.out
  have VD : Hid (RowH w3.drew gv (.slice pa nf qa) (.slice pb nl qb) (.slice pc nr qc)) := VA.out
  have OD := Lib.hid (OA.out.below (below_drew (Below.refl w3.heap.size w3)))
  have d0 := VD.out.c0
  have d1 := VD.out.c1
  have d2 := VD.out.c2
  have hwn2 : IntKind.i64.wrap ((nf : Int) + 2) = (nf : Int) + 2 := IntWalk.i64_in _ (by omega)
  refine wp_region_held_drew (S := (fun w' => w'.cell? ⟨gv, 0, none⟩ = some (.slice pa nf qa) ∧ w'.cell? ⟨gv, 1, none⟩ = some (.slice pb nl qb) ∧ w'.cell? ⟨gv, 2, none⟩ = some (.slice pc nr qc))) (by kernel_rfl) (⟨d0, d1, d2⟩) (fun hHeld => ?_)
  refine wpAnyH_take (i := 0) (v := ?va0x1) rfl (by kernel_rfl) (by kernel_rfl) (by kernel_rfl) (fun _ _ _ h => h) (Or.inl ⟨by rfl, ?hy0x1⟩) (by assumption) ?rest0x1
  case hy0x1 => (intro w hSw; (try dsimp only at hSw); go_simp; try with_reducible rfl)
  (try simp only [Act.put, List.getElem_toArray, List.getElem_cons_zero, List.setIfInBounds_toArray, List.set_cons_zero, List.set_cons_succ])
  refine wpAnyH_take (i := 1) (v := ?va1x2) rfl (by kernel_rfl) (by kernel_rfl) (by kernel_rfl) (fun _ _ _ h => h) (Or.inl ⟨by rfl, ?hy1x2⟩) (by assumption) ?rest1x2
  case hy1x2 => (intro w hSw; (try dsimp only at hSw); go_simp; try with_reducible rfl)
  (try simp only [Act.put, List.getElem_toArray, List.getElem_cons_zero, List.getElem_cons_succ, List.setIfInBounds_toArray, List.set_cons_zero, List.set_cons_succ])
  refine wpAnyH_take (i := 4) (v := ?va4x3) rfl (by kernel_rfl) (by kernel_rfl) (by kernel_rfl) (fun _ _ _ h => h) (Or.inl ⟨by rfl, ?hy4x3⟩) (by assumption) ?rest4x3
  case hy4x3 => (intro w hSw; (try dsimp only at hSw); go_simp; try with_reducible rfl)
  (try simp only [Act.put, List.getElem_toArray, List.getElem_cons_zero, List.getElem_cons_succ, List.setIfInBounds_toArray, List.set_cons_zero, List.set_cons_succ])
  refine wpAnyH_take (i := 5) (v := ?va5x4) rfl (by kernel_rfl) (by kernel_rfl) (by kernel_rfl) (fun _ _ _ h => h) (Or.inl ⟨by rfl, ?hy5x4⟩) (by assumption) ?rest5x4
  case hy5x4 => (intro w hSw; (try dsimp only at hSw); go_simp; try with_reducible rfl)
  (try simp only [Act.put, List.getElem_toArray, List.getElem_cons_zero, List.getElem_cons_succ, List.setIfInBounds_toArray, List.set_cons_zero, List.set_cons_succ])
  refine wpAnyH_take (i := 6) (v := ?va6x5) rfl (by kernel_rfl) (by kernel_rfl) (by kernel_rfl) (fun _ _ _ h => h) (Or.inl ⟨by rfl, ?hy6x5⟩) (by assumption) ?rest6x5
  case hy6x5 => (intro w hSw; (try dsimp only at hSw); go_simp; try with_reducible rfl)
  (try simp only [Act.put, List.getElem_toArray, List.getElem_cons_zero, List.getElem_cons_succ, List.setIfInBounds_toArray, List.set_cons_zero, List.set_cons_succ])
  refine wpAnyH_take (i := 7) (v := ?va7x6) rfl (by kernel_rfl) (by kernel_rfl) (by kernel_rfl) (fun _ _ _ h => h) (Or.inl ⟨by rfl, ?hy7x6⟩) (by assumption) ?rest7x6
  case hy7x6 => (intro w hSw; (try dsimp only at hSw); go_simp; try with_reducible rfl)
  (try simp only [Act.put, List.getElem_toArray, List.getElem_cons_zero, List.getElem_cons_succ, List.setIfInBounds_toArray, List.set_cons_zero, List.set_cons_succ])
  refine wpAnyH_take (i := 8) (v := ?va8x7) rfl (by kernel_rfl) (by kernel_rfl) (by kernel_rfl) (fun _ _ _ h => h) (Or.inl ⟨by rfl, ?hy8x7⟩) (by assumption) ?rest8x7
  case hy8x7 => (intro w hSw; (try dsimp only at hSw); go_simp; try with_reducible rfl)
  (try simp only [Act.put, List.getElem_toArray, List.getElem_cons_zero, List.getElem_cons_succ, List.setIfInBounds_toArray, List.set_cons_zero, List.set_cons_succ])
  generalize w3.drew = wd at *
  clear d0 d1 d2
  refine wpAnyH_ready (rs := [2]) (by kernel_rfl) (by simp) ?_
  refine AllReadyH.cons rfl (fun K hK => ?_) AllReadyH.nil
  go_simp
  refine (c_pick (w.heap.size + 1) (0 + 200) (4) _ DD.out.1 (by omega) (by omega) (by omega)).mono ?_
  rintro e wp0 ⟨x1, hx1, rfl, hc5, hg5⟩
  have Dp0 := Lib.hid (DD.out.step hc5 hg5)
  have Rp0 := Lib.hid (show zrow _ _ from row_stepC RD.out (by omega) hg5)
  have Vp0 := Lib.hid (show RowH _ _ _ _ _ from row_stepC VD.out (by have := LV.out; omega) hg5)
  have Op0 := Lib.hid (OD.out.stepC (by omega) hg5)
  clear hc5 hg5
  refine hK.out _ _ ⟨Vp0.out.c0, Vp0.out.c1, Vp0.out.c2⟩ (fun hHeld => ?_)
  clear hK K
  (try simp only [Act.put, List.getElem_toArray, List.getElem_cons_zero, List.getElem_cons_succ, List.setIfInBounds_toArray, List.set_cons_zero, List.set_cons_succ])
  have hwx1 : IntKind.i64.wrap (x1 - 1) = x1 - 1 := IntWalk.i64_in _ (by omega)
  refine wpAnyH_take (i := 3) (v := ?va3x8) rfl (by kernel_rfl) (by kernel_rfl) (by kernel_rfl) (fun _ _ _ h => h) (Or.inl ⟨by rfl, ?hy3x8⟩) (by assumption) ?rest3x8
  case hy3x8 => (intro w hSw; (try dsimp only at hSw); go_simp; try with_reducible rfl)
  (try simp only [Act.put, List.getElem_toArray, List.getElem_cons_zero, List.getElem_cons_succ, List.setIfInBounds_toArray, List.set_cons_zero, List.set_cons_succ])
  refine wpAnyH_ready (rs := [9]) (by kernel_rfl) (by simp) ?_
  refine AllReadyH.cons rfl (fun K hK => ?_) AllReadyH.nil
  go_simp
  refine (c_pick (w.heap.size + 1) (0 + 200 + 2) ((nf : Int) + 2) _ Dp0.out.1 (by omega) (by omega) (by omega)).mono ?_
  rintro e wp1 ⟨x2, hx2, rfl, hc5, hg5⟩
  have Dp1 := Lib.hid (Dp0.out.step hc5 hg5)
  have Rp1 := Lib.hid (show zrow _ _ from row_stepC Rp0.out (by omega) hg5)
  have Vp1 := Lib.hid (show RowH _ _ _ _ _ from row_stepC Vp0.out (by have := LV.out; omega) hg5)
  have Op1 := Lib.hid (Op0.out.stepC (by omega) hg5)
  clear hc5 hg5
  refine hK.out _ _ ⟨Vp1.out.c0, Vp1.out.c1, Vp1.out.c2⟩ (fun hHeld => ?_)
  clear hK K
  (try simp only [Act.put, List.getElem_toArray, List.getElem_cons_zero, List.getElem_cons_succ, List.setIfInBounds_toArray, List.set_cons_zero, List.set_cons_succ])
  have hwx2 : IntKind.i64.wrap (x2 - 1) = x2 - 1 := IntWalk.i64_in _ (by omega)
  refine wpAnyH_take (i := 10) (v := ?va10x9) rfl (by kernel_rfl) (by kernel_rfl) (by kernel_rfl) (fun _ _ _ h => h) (Or.inl ⟨by rfl, ?hy10x9⟩) (by assumption) ?rest10x9
  case hy10x9 => (intro w hSw; (try dsimp only at hSw); go_simp; try with_reducible rfl)
  (try simp only [Act.put, List.getElem_toArray, List.getElem_cons_zero, List.getElem_cons_succ, List.setIfInBounds_toArray, List.set_cons_zero, List.set_cons_succ])
  refine wpAnyH_ready (rs := [11]) (by kernel_rfl) (by simp) ?_
  refine AllReadyH.cons rfl (fun K hK => ?_) AllReadyH.nil
  have hch := chgRow wp1 w.heap.size (c3 (.slice pa nf qa) (.slice pb nl qb) (.slice pc nr qc))
  have VN := Lib.hid (show RowH _ _ _ _ _ from Row.chg Vp1.out hch (.inr (by have := LV.out; omega)))
  have ON := Lib.hid (Op1.out.chg hch (.inr (by omega)))
  have BN := Lib.hid (below_setRow (g := w.heap.size) (DB.out _ _ Dp1.out) (Nat.le_refl _) (c3 (.slice pa nf qa) (.slice pb nl qb) (.slice pc nr qc)))
  clear hch
  refine wp_store_row 27 _ _ rfl w.heap.size (c3 (.slice pa nf qa) (.slice pb nl qb) (.slice pc nr qc)) rfl rfl 27 _ Rp1.out info_heap rfl (by simp [Value.oneCell']) ?_
  refine hK.out _ _ ⟨VN.out.c0, VN.out.c1, VN.out.c2⟩ (fun hHeld => ?_)
  clear hK K
  (try simp only [Act.put, List.getElem_toArray, List.getElem_cons_zero, List.getElem_cons_succ])
  refine wpAnyH_take (i := 12) (v := ?va12x10) rfl (by kernel_rfl) (by kernel_rfl) (by kernel_rfl) (fun _ _ _ h => h) (Or.inl ⟨by rfl, ?hy12x10⟩) (by assumption) ?rest12x10
  case hy12x10 => (intro w hSw; (try dsimp only at hSw); go_simp; try with_reducible rfl)
  (try simp only [Act.put, List.getElem_toArray, List.getElem_cons_zero, List.getElem_cons_succ, List.setIfInBounds_toArray, List.set_cons_zero, List.set_cons_succ])
  refine wpAnyH_take (i := 13) (v := ?va13x11) rfl (by kernel_rfl) (by kernel_rfl) (by kernel_rfl) (fun _ _ _ h => h) (Or.inl ⟨by rfl, ?hy13x11⟩) (by assumption) ?rest13x11
  case hy13x11 => (intro w hSw; (try dsimp only at hSw); go_simp; try with_reducible rfl)
  (try simp only [Act.put, List.getElem_toArray, List.getElem_cons_zero, List.getElem_cons_succ, List.setIfInBounds_toArray, List.set_cons_zero, List.set_cons_succ])
  refine wpAnyH_done (by kernel_rfl) ?_ _
  clear hHeld
  go_wp2_with fail
  refine bodyPost_ret (res_row_slot2 Try.results33 (Row.put Rp1.out (c3 (.slice pa nf qa) (.slice pb nl qb) (.slice pc nr qc))) rfl rfl rfl Try.underlying27 rfl info_heap) rfl ⟨_, _, _, h, x1 - 1, x2 - 1, rfl, SH.out, ON.out.reads, BN.out⟩
theorem res_row_slot3 {P : Program} {fn : Func} {p q r s : Tmp} {ty : TypeId} (h : fn.results = #[.cell p ty, .tmp q, .tmp r, .tmp s]) {tmps : Array Value} {w : World} {g : Nat} {t : TypeId} {cs : Array Value} {d : TypeDesc} {v v' v'' : Value} (hg : Row w g t cs)
    (hp : tmps.getD p undef = .pointer (some ⟨g, 0, none⟩)) (hq : tmps.getD q undef = v) (hr : tmps.getD r undef = v') (hs : tmps.getD s undef = v'') (hu : P.underlying ty = some d) (hd : (match d with | .struct _ | .array _ _ => true | _ => false) = true) (hi : (P.info? ty).map (·.size) = some cs.size) :
    (results fn tmps).run P w = .ok (.tuple #[.agg cs, v, v', v'']) w := by
  have hp' : tmps[p]?.getD undef = .pointer (some ⟨g, 0, none⟩) := by simpa using hp
  have hq' : tmps[q]?.getD undef = v := by simpa using hq
  have hr' : tmps[r]?.getD undef = v' := by simpa using hr
  have hs' : tmps[s]?.getD undef = v'' := by simpa using hs
  simp [results, h, hp', hq', hr', hs', asAddr, run_loadVar_row w g t ty cs (0, 0) d hg hu hd hi]
set_option maxRecDepth 100000 in
set_option maxHeartbeats 3200000 in
theorem d_SetField (v : Value) (zs : List Int) (w : World) (hby : BytesAt w v zs) : Calls Try.prog 27 #[v] w fun e w' => ∃ a b cc h t f z, e = .returned (.tuple #[hv a b cc, .int .i64 t, .int .i64 f, .int .i64 z]) ∧ Sh h ∧ HeapAt w' a b cc h ∧ Below w.heap.size w w' := by
  have hb1 := below1 w (.cells (c3 (.slice none 0 0) (.slice none 0 0) (.slice none 0 0)) 27)
  have D0 := Lib.hid (dv_new (hby.below hb1))
  have hs1 : (w.alloc (.cells (c3 (.slice none 0 0) (.slice none 0 0) (.slice none 0 0)) 27)).heap.size = w.heap.size + 1 := World.size_alloc _ _
  have hsW : ((w.alloc (.cells (c3 (.slice none 0 0) (.slice none 0 0) (.slice none 0 0)) 27)).alloc (.cells #[v, .int .i64 0, .int .u64 0] 104)).heap.size = w.heap.size + 1 + 1 := by simp
  rw [hs1] at D0
  have R0 := Lib.hid (show zrow ((w.alloc (.cells (c3 (.slice none 0 0) (.slice none 0 0) (.slice none 0 0)) 27)).alloc (.cells #[v, .int .i64 0, .int .u64 0] 104)) w.heap.size from (Row.new w 27 (c3 (.slice none 0 0) (.slice none 0 0) (.slice none 0 0))).alloc (.cells #[v, .int .i64 0, .int .u64 0] 104))
  have HB1 := Lib.hid hb1
  have HS1 := Lib.hid hs1; have HSW := Lib.hid hsW
  have DB : Hid (∀ X m, Dv ((w.alloc (.cells (c3 (.slice none 0 0) (.slice none 0 0) (.slice none 0 0)) 27)).alloc (.cells #[v, .int .i64 0, .int .u64 0] 104)) (w.heap.size + 1) m X → Below w.heap.size w X) := fun X m q => HB1.out.trans ((dv_below (w := w.alloc (.cells (c3 (.slice none 0 0) (.slice none 0 0) (.slice none 0 0)) 27)) (v := v) (m := m) (X := X) (by rw [HS1.out]; exact q)).mono HB1.out.size)
  obtain ⟨_, _, va, vc, rfl, _⟩ := hby
  clear hb1 hs1 hsW
  go_enter Try.func27, Try.ntmps27
  go_wp2_with fail
  refine (c_heap (w.heap.size + 1) 0 _ D0.out.1 (by omega)).mono ?_
  rintro e w2 ⟨a, b, cc, h, rfl, hsh, hf1, ho2, hc2, hg2⟩
  obtain ⟨⟨pa, qa, rfl⟩, ⟨pb, qb, rfl⟩, ⟨pc, qc, rfl⟩⟩ := ho2.shapes
  rw [HSW.out] at ho2
  have SH := Lib.hid hsh
  have hf12 := hsh.n
  generalize h.f.length = nf at *
  generalize h.l.length = nl at *
  generalize h.r.length = nr at *
  have D2 := Lib.hid (D0.out.step hc2 hg2)
  have R2 := Lib.hid (show zrow w2 w.heap.size from row_stepC R0.out (by omega) hg2)
  have OH := Lib.hid ho2
  clear hsh ho2 hc2 hg2 D0 R0
  have hba := below1 w2 (.cells (c3 (.slice pa nf qa) (.slice pb nl qb) (.slice pc nr qc)) 27)
  have hs2 := D2.out.size
  rw [HSW.out] at hs2
  have DA := Lib.hid (D2.out.low (hba.mono D2.out.size))
  have RA := Lib.hid (show zrow _ _ from Row.alloc R2.out (.cells (c3 (.slice pa nf qa) (.slice pb nl qb) (.slice pc nr qc)) 27))
  have VA := Lib.hid (show RowH _ _ _ _ _ from Row.new w2 27 (c3 (.slice pa nf qa) (.slice pb nl qb) (.slice pc nr qc)))
  have OA := Lib.hid (OH.out.below hba)
  have LV : Hid (w.heap.size + 1 + 1 ≤ w2.heap.size) := hs2
  have HGA : Hid (w2.heap.size < (w2.alloc (.cells (c3 (.slice pa nf qa) (.slice pb nl qb) (.slice pc nr qc)) 27)).heap.size) := by unfold Hid; simp
  clear hba hs2 D2 R2 OH
  go_wp2_with fail
  generalize w2.heap.size = gv at *
  generalize w2.alloc (.cells (c3 (.slice pa nf qa) (.slice pb nl qb) (.slice pc nr qc)) 27) = w3 at *
  have DD := Lib.hid (DA.out.low (below_drew (Below.refl _ w3)))
  have RD : Hid (zrow w3.drew w.heap.size) := RA.out
  have VD : Hid (RowH w3.drew gv (.slice pa nf qa) (.slice pb nl qb) (.slice pc nr qc)) := VA.out
  have OD := Lib.hid (OA.out.below (below_drew (Below.refl w3.heap.size w3)))
  have d0 := VD.out.c0
  have d1 := VD.out.c1
  have d2 := VD.out.c2
  have hwn1 : IntKind.i64.wrap ((nf : Int) + 1) = (nf : Int) + 1 := IntWalk.i64_in _ (by omega)
  have hwn2 : IntKind.i64.wrap ((nf : Int) + 2) = (nf : Int) + 2 := IntWalk.i64_in _ (by omega)
  refine wp_region_held_drew (S := (fun w' => w'.cell? ⟨gv, 0, none⟩ = some (.slice pa nf qa) ∧ w'.cell? ⟨gv, 1, none⟩ = some (.slice pb nl qb) ∧ w'.cell? ⟨gv, 2, none⟩ = some (.slice pc nr qc))) (by kernel_rfl) (⟨d0, d1, d2⟩) (fun hHeld => ?_)
  refine wpAnyH_take (i := 0) (v := ?va0x12) rfl (by kernel_rfl) (by kernel_rfl) (by kernel_rfl) (fun _ _ _ h => h) (Or.inl ⟨by rfl, ?hy0x12⟩) (by assumption) ?rest0x12
  case hy0x12 => (intro w hSw; (try dsimp only at hSw); go_simp; try with_reducible rfl)
  (try simp only [Act.put, List.getElem_toArray, List.getElem_cons_zero, List.setIfInBounds_toArray, List.set_cons_zero, List.set_cons_succ])
  refine wpAnyH_take (i := 1) (v := ?va1x13) rfl (by kernel_rfl) (by kernel_rfl) (by kernel_rfl) (fun _ _ _ h => h) (Or.inl ⟨by rfl, ?hy1x13⟩) (by assumption) ?rest1x13
  case hy1x13 => (intro w hSw; (try dsimp only at hSw); go_simp; try with_reducible rfl)
  (try simp only [Act.put, List.getElem_toArray, List.getElem_cons_zero, List.getElem_cons_succ, List.setIfInBounds_toArray, List.set_cons_zero, List.set_cons_succ])
  refine wpAnyH_take (i := 2) (v := ?va2x14) rfl (by kernel_rfl) (by kernel_rfl) (by kernel_rfl) (fun _ _ _ h => h) (Or.inl ⟨by rfl, ?hy2x14⟩) (by assumption) ?rest2x14
  case hy2x14 => (intro w hSw; (try dsimp only at hSw); go_simp; try with_reducible rfl)
  (try simp only [Act.put, List.getElem_toArray, List.getElem_cons_zero, List.getElem_cons_succ, List.setIfInBounds_toArray, List.set_cons_zero, List.set_cons_succ])
  refine wpAnyH_take (i := 3) (v := ?va3x15) rfl (by kernel_rfl) (by kernel_rfl) (by kernel_rfl) (fun _ _ _ h => h) (Or.inl ⟨by rfl, ?hy3x15⟩) (by assumption) ?rest3x15
  case hy3x15 => (intro w hSw; (try dsimp only at hSw); go_simp; try with_reducible rfl)
  (try simp only [Act.put, List.getElem_toArray, List.getElem_cons_zero, List.getElem_cons_succ, List.setIfInBounds_toArray, List.set_cons_zero, List.set_cons_succ])
  refine wpAnyH_take (i := 4) (v := ?va4x16) rfl (by kernel_rfl) (by kernel_rfl) (by kernel_rfl) (fun _ _ _ h => h) (Or.inl ⟨by rfl, ?hy4x16⟩) (by assumption) ?rest4x16
  case hy4x16 => (intro w hSw; (try dsimp only at hSw); go_simp; try with_reducible rfl)
  (try simp only [Act.put, List.getElem_toArray, List.getElem_cons_zero, List.getElem_cons_succ, List.setIfInBounds_toArray, List.set_cons_zero, List.set_cons_succ])
  refine wpAnyH_take (i := 5) (v := ?va5x17) rfl (by kernel_rfl) (by kernel_rfl) (by kernel_rfl) (fun _ _ _ h => h) (Or.inl ⟨by rfl, ?hy5x17⟩) (by assumption) ?rest5x17
  case hy5x17 => (intro w hSw; (try dsimp only at hSw); go_simp; try with_reducible rfl)
  (try simp only [Act.put, List.getElem_toArray, List.getElem_cons_zero, List.getElem_cons_succ, List.setIfInBounds_toArray, List.set_cons_zero, List.set_cons_succ])
  refine wpAnyH_take (i := 7) (v := ?va7x18) rfl (by kernel_rfl) (by kernel_rfl) (by kernel_rfl) (fun _ _ _ h => h) (Or.inl ⟨by rfl, ?hy7x18⟩) (by assumption) ?rest7x18
  case hy7x18 => (intro w hSw; (try dsimp only at hSw); go_simp; try with_reducible rfl)
  (try simp only [Act.put, List.getElem_toArray, List.getElem_cons_zero, List.getElem_cons_succ, List.setIfInBounds_toArray, List.set_cons_zero, List.set_cons_succ])
  refine wpAnyH_take (i := 11) (v := ?va11x19) rfl (by kernel_rfl) (by kernel_rfl) (by kernel_rfl) (fun _ _ _ h => h) (Or.inl ⟨by rfl, ?hy11x19⟩) (by assumption) ?rest11x19
  case hy11x19 => (intro w hSw; (try dsimp only at hSw); go_simp; try with_reducible rfl)
  (try simp only [Act.put, List.getElem_toArray, List.getElem_cons_zero, List.getElem_cons_succ, List.setIfInBounds_toArray, List.set_cons_zero, List.set_cons_succ])
  refine wpAnyH_take (i := 13) (v := ?va13x20) rfl (by kernel_rfl) (by kernel_rfl) (by kernel_rfl) (fun _ _ _ h => h) (Or.inl ⟨by rfl, ?hy13x20⟩) (by assumption) ?rest13x20
  case hy13x20 => (intro w hSw; (try dsimp only at hSw); go_simp; try with_reducible rfl)
  (try simp only [Act.put, List.getElem_toArray, List.getElem_cons_zero, List.getElem_cons_succ, List.setIfInBounds_toArray, List.set_cons_zero, List.set_cons_succ])
  refine wpAnyH_take (i := 14) (v := ?va14x21) rfl (by kernel_rfl) (by kernel_rfl) (by kernel_rfl) (fun _ _ _ h => h) (Or.inl ⟨by rfl, ?hy14x21⟩) (by assumption) ?rest14x21
  case hy14x21 => (intro w hSw; (try dsimp only at hSw); go_simp; try with_reducible rfl)
  (try simp only [Act.put, List.getElem_toArray, List.getElem_cons_zero, List.getElem_cons_succ, List.setIfInBounds_toArray, List.set_cons_zero, List.set_cons_succ])
  refine wpAnyH_take (i := 15) (v := ?va15x22) rfl (by kernel_rfl) (by kernel_rfl) (by kernel_rfl) (fun _ _ _ h => h) (Or.inl ⟨by rfl, ?hy15x22⟩) (by assumption) ?rest15x22
  case hy15x22 => (intro w hSw; (try dsimp only at hSw); go_simp; try with_reducible rfl)
  (try simp only [Act.put, List.getElem_toArray, List.getElem_cons_zero, List.getElem_cons_succ, List.setIfInBounds_toArray, List.set_cons_zero, List.set_cons_succ])
  refine wpAnyH_take (i := 16) (v := ?va16x23) rfl (by kernel_rfl) (by kernel_rfl) (by kernel_rfl) (fun _ _ _ h => h) (Or.inl ⟨by rfl, ?hy16x23⟩) (by assumption) ?rest16x23
  case hy16x23 => (intro w hSw; (try dsimp only at hSw); go_simp; try with_reducible rfl)
  (try simp only [Act.put, List.getElem_toArray, List.getElem_cons_zero, List.getElem_cons_succ, List.setIfInBounds_toArray, List.set_cons_zero, List.set_cons_succ])
  refine wpAnyH_take (i := 17) (v := ?va17x24) rfl (by kernel_rfl) (by kernel_rfl) (by kernel_rfl) (fun _ _ _ h => h) (Or.inl ⟨by rfl, ?hy17x24⟩) (by assumption) ?rest17x24
  case hy17x24 => (intro w hSw; (try dsimp only at hSw); go_simp; try with_reducible rfl)
  (try simp only [Act.put, List.getElem_toArray, List.getElem_cons_zero, List.getElem_cons_succ, List.setIfInBounds_toArray, List.set_cons_zero, List.set_cons_succ])
  generalize w3.drew = wd at *
  clear d0 d1 d2
  refine wpAnyH_ready (rs := [6]) (by kernel_rfl) (by simp) ?_
  refine AllReadyH.cons rfl (fun K hK => ?_) AllReadyH.nil
  go_simp
  refine (c_pick (w.heap.size + 1) (0 + 200) ((nf : Int) + 1) _ DD.out.1 (by omega) (by omega) (by omega)).mono ?_
  rintro e wp0 ⟨x1, hx1, rfl, hc5, hg5⟩
  have Dp0 := Lib.hid (DD.out.step hc5 hg5)
  have Rp0 := Lib.hid (show zrow _ _ from row_stepC RD.out (by omega) hg5)
  have Vp0 := Lib.hid (show RowH _ _ _ _ _ from row_stepC VD.out (by have := LV.out; omega) hg5)
  have Op0 := Lib.hid (OD.out.stepC (by omega) hg5)
  clear hc5 hg5
  refine hK.out _ _ ⟨Vp0.out.c0, Vp0.out.c1, Vp0.out.c2⟩ (fun hHeld => ?_)
  clear hK K
  (try simp only [Act.put, List.getElem_toArray, List.getElem_cons_zero, List.getElem_cons_succ, List.setIfInBounds_toArray, List.set_cons_zero, List.set_cons_succ])
  refine wpAnyH_ready (rs := [8]) (by kernel_rfl) (by simp) ?_
  refine AllReadyH.cons rfl (fun K hK => ?_) AllReadyH.nil
  go_simp
  refine (c_pick (w.heap.size + 1) (0 + 200 + 2) (9) _ Dp0.out.1 (by omega) (by omega) (by omega)).mono ?_
  rintro e wp1 ⟨x2, hx2, rfl, hc5, hg5⟩
  have Dp1 := Lib.hid (Dp0.out.step hc5 hg5)
  have Rp1 := Lib.hid (show zrow _ _ from row_stepC Rp0.out (by omega) hg5)
  have Vp1 := Lib.hid (show RowH _ _ _ _ _ from row_stepC Vp0.out (by have := LV.out; omega) hg5)
  have Op1 := Lib.hid (Op0.out.stepC (by omega) hg5)
  clear hc5 hg5
  refine hK.out _ _ ⟨Vp1.out.c0, Vp1.out.c1, Vp1.out.c2⟩ (fun hHeld => ?_)
  clear hK K
  (try simp only [Act.put, List.getElem_toArray, List.getElem_cons_zero, List.getElem_cons_succ, List.setIfInBounds_toArray, List.set_cons_zero, List.set_cons_succ])
  have hq8 : x2.tdiv 8 = x2 / 8 := Int.tdiv_eq_ediv_of_nonneg hx2.1
  have q8 : 0 ≤ x2 / 8 ∧ x2 / 8 ≤ 1 := by omega
  generalize x2 / 8 = y8 at *
  have hwy : IntKind.i64.wrap y8 = y8 := IntWalk.i64_in _ (by omega)
  have hws : IntKind.i64.wrap (x1 - y8) = x1 - y8 := IntWalk.i64_in _ (by omega)
  refine wpAnyH_take (i := 9) (v := ?va9x25) rfl (by kernel_rfl) (by kernel_rfl) (by kernel_rfl) (fun _ _ _ h => h) (Or.inl ⟨by rfl, ?hy9x25⟩) (by assumption) ?rest9x25
  case hy9x25 => (intro w hSw; (try dsimp only at hSw); go_simp; try with_reducible rfl)
  (try simp only [Act.put, List.getElem_toArray, List.getElem_cons_zero, List.getElem_cons_succ, List.setIfInBounds_toArray, List.set_cons_zero, List.set_cons_succ])
  refine wpAnyH_take (i := 10) (v := ?va10x26) rfl (by kernel_rfl) (by kernel_rfl) (by kernel_rfl) (fun _ _ _ h => h) (Or.inl ⟨by rfl, ?hy10x26⟩) (by assumption) ?rest10x26
  case hy10x26 => (intro w hSw; (try dsimp only at hSw); go_simp; try with_reducible rfl)
  (try simp only [Act.put, List.getElem_toArray, List.getElem_cons_zero, List.getElem_cons_succ, List.setIfInBounds_toArray, List.set_cons_zero, List.set_cons_succ])
  refine wpAnyH_ready (rs := [12]) (by kernel_rfl) (by simp) ?_
  refine AllReadyH.cons rfl (fun K hK => ?_) AllReadyH.nil
  go_simp
  refine (c_pick (w.heap.size + 1) (0 + 200 + 2 + 2) (4) _ Dp1.out.1 (by omega) (by omega) (by omega)).mono ?_
  rintro e wp2 ⟨x3, hx3, rfl, hc5, hg5⟩
  have Dp2 := Lib.hid (Dp1.out.step hc5 hg5)
  have Rp2 := Lib.hid (show zrow _ _ from row_stepC Rp1.out (by omega) hg5)
  have Vp2 := Lib.hid (show RowH _ _ _ _ _ from row_stepC Vp1.out (by have := LV.out; omega) hg5)
  have Op2 := Lib.hid (Op1.out.stepC (by omega) hg5)
  clear hc5 hg5
  refine hK.out _ _ ⟨Vp2.out.c0, Vp2.out.c1, Vp2.out.c2⟩ (fun hHeld => ?_)
  clear hK K
  (try simp only [Act.put, List.getElem_toArray, List.getElem_cons_zero, List.getElem_cons_succ, List.setIfInBounds_toArray, List.set_cons_zero, List.set_cons_succ])
  refine wpAnyH_ready (rs := [18]) (by kernel_rfl) (by simp) ?_
  refine AllReadyH.cons rfl (fun K hK => ?_) AllReadyH.nil
  go_simp
  refine (c_pick (w.heap.size + 1) (0 + 200 + 2 + 2 + 2) ((nf : Int) + 2) _ Dp2.out.1 (by omega) (by omega) (by omega)).mono ?_
  rintro e wp3 ⟨x4, hx4, rfl, hc5, hg5⟩
  have Dp3 := Lib.hid (Dp2.out.step hc5 hg5)
  have Rp3 := Lib.hid (show zrow _ _ from row_stepC Rp2.out (by omega) hg5)
  have Vp3 := Lib.hid (show RowH _ _ _ _ _ from row_stepC Vp2.out (by have := LV.out; omega) hg5)
  have Op3 := Lib.hid (Op2.out.stepC (by omega) hg5)
  clear hc5 hg5
  refine hK.out _ _ ⟨Vp3.out.c0, Vp3.out.c1, Vp3.out.c2⟩ (fun hHeld => ?_)
  clear hK K
  (try simp only [Act.put, List.getElem_toArray, List.getElem_cons_zero, List.getElem_cons_succ, List.setIfInBounds_toArray, List.set_cons_zero, List.set_cons_succ])
  have hwx4 : IntKind.i64.wrap (x4 - 1) = x4 - 1 := IntWalk.i64_in _ (by omega)
  refine wpAnyH_take (i := 19) (v := ?va19x27) rfl (by kernel_rfl) (by kernel_rfl) (by kernel_rfl) (fun _ _ _ h => h) (Or.inl ⟨by rfl, ?hy19x27⟩) (by assumption) ?rest19x27
  case hy19x27 => (intro w hSw; (try dsimp only at hSw); go_simp; try with_reducible rfl)
  (try simp only [Act.put, List.getElem_toArray, List.getElem_cons_zero, List.getElem_cons_succ, List.setIfInBounds_toArray, List.set_cons_zero, List.set_cons_succ])
  refine wpAnyH_ready (rs := [20]) (by kernel_rfl) (by simp) ?_
  refine AllReadyH.cons rfl (fun K hK => ?_) AllReadyH.nil
  have hch := chgRow wp3 w.heap.size (c3 (.slice pa nf qa) (.slice pb nl qb) (.slice pc nr qc))
  have VN := Lib.hid (show RowH _ _ _ _ _ from Row.chg Vp3.out hch (.inr (by have := LV.out; omega)))
  have ON := Lib.hid (Op3.out.chg hch (.inr (by omega)))
  have BN := Lib.hid (below_setRow (g := w.heap.size) (DB.out _ _ Dp3.out) (Nat.le_refl _) (c3 (.slice pa nf qa) (.slice pb nl qb) (.slice pc nr qc)))
  clear hch
  refine wp_store_row 27 _ _ rfl w.heap.size (c3 (.slice pa nf qa) (.slice pb nl qb) (.slice pc nr qc)) rfl rfl 27 _ Rp3.out info_heap rfl (by simp [Value.oneCell']) ?_
  refine hK.out _ _ ⟨VN.out.c0, VN.out.c1, VN.out.c2⟩ (fun hHeld => ?_)
  clear hK K
  (try simp only [Act.put, List.getElem_toArray, List.getElem_cons_zero, List.getElem_cons_succ])
  refine wpAnyH_take (i := 21) (v := ?va21x28) rfl (by kernel_rfl) (by kernel_rfl) (by kernel_rfl) (fun _ _ _ h => h) (Or.inl ⟨by rfl, ?hy21x28⟩) (by assumption) ?rest21x28
  case hy21x28 => (intro w hSw; (try dsimp only at hSw); go_simp; try with_reducible rfl)
  (try simp only [Act.put, List.getElem_toArray, List.getElem_cons_zero, List.getElem_cons_succ, List.setIfInBounds_toArray, List.set_cons_zero, List.set_cons_succ])
  refine wpAnyH_take (i := 22) (v := ?va22x29) rfl (by kernel_rfl) (by kernel_rfl) (by kernel_rfl) (fun _ _ _ h => h) (Or.inl ⟨by rfl, ?hy22x29⟩) (by assumption) ?rest22x29
  case hy22x29 => (intro w hSw; (try dsimp only at hSw); go_simp; try with_reducible rfl)
  (try simp only [Act.put, List.getElem_toArray, List.getElem_cons_zero, List.getElem_cons_succ, List.setIfInBounds_toArray, List.set_cons_zero, List.set_cons_succ])
  refine wpAnyH_take (i := 23) (v := ?va23x30) rfl (by kernel_rfl) (by kernel_rfl) (by kernel_rfl) (fun _ _ _ h => h) (Or.inl ⟨by rfl, ?hy23x30⟩) (by assumption) ?rest23x30
  case hy23x30 => (intro w hSw; (try dsimp only at hSw); go_simp; try with_reducible rfl)
  (try simp only [Act.put, List.getElem_toArray, List.getElem_cons_zero, List.getElem_cons_succ, List.setIfInBounds_toArray, List.set_cons_zero, List.set_cons_succ])
  refine wpAnyH_done (by kernel_rfl) ?_ _
  clear hHeld
  go_wp2_with fail
  refine bodyPost_ret (res_row_slot3 Try.results27 (Row.put Rp3.out (c3 (.slice pa nf qa) (.slice pb nl qb) (.slice pc nr qc))) rfl rfl rfl rfl Try.underlying27 rfl info_heap) rfl ⟨_, _, _, h, x1 - y8, x3, x4 - 1, rfl, SH.out, ON.out.reads, BN.out⟩
set_option maxRecDepth 100000 in
set_option maxHeartbeats 3200000 in
theorem d_ReachFrom (v : Value) (zs : List Int) (w : World) (hby : BytesAt w v zs) : Calls Try.prog 24 #[v] w fun e w' => ∃ a b cc h v' l, e = .returned (.tuple #[hv a b cc, v']) ∧ Sh h ∧ l.length ≤ 20 ∧ HeapAt w' a b cc h ∧ IntsAt w' v' l ∧ Below w.heap.size w w' := by
  obtain ⟨i0, hi, hz0, hz1, hz2⟩ := info_parts info_int
  have hb1 := below1 w (.cells (c3 (.slice none 0 0) (.slice none 0 0) (.slice none 0 0)) 27)
  have D0 := Lib.hid (dv_new (hby.below hb1))
  have hs1 : (w.alloc (.cells (c3 (.slice none 0 0) (.slice none 0 0) (.slice none 0 0)) 27)).heap.size = w.heap.size + 1 := World.size_alloc _ _
  have hsW : ((w.alloc (.cells (c3 (.slice none 0 0) (.slice none 0 0) (.slice none 0 0)) 27)).alloc (.cells #[v, .int .i64 0, .int .u64 0] 104)).heap.size = w.heap.size + 1 + 1 := by simp
  rw [hs1] at D0
  have R0 := Lib.hid (show zrow ((w.alloc (.cells (c3 (.slice none 0 0) (.slice none 0 0) (.slice none 0 0)) 27)).alloc (.cells #[v, .int .i64 0, .int .u64 0] 104)) w.heap.size from (Row.new w 27 (c3 (.slice none 0 0) (.slice none 0 0) (.slice none 0 0))).alloc (.cells #[v, .int .i64 0, .int .u64 0] 104))
  have HB1 := Lib.hid hb1
  have HS1 := Lib.hid hs1; have HSW := Lib.hid hsW
  have DB : Hid (∀ X m, Dv ((w.alloc (.cells (c3 (.slice none 0 0) (.slice none 0 0) (.slice none 0 0)) 27)).alloc (.cells #[v, .int .i64 0, .int .u64 0] 104)) (w.heap.size + 1) m X → Below w.heap.size w X) := fun X m q => HB1.out.trans ((dv_below (w := w.alloc (.cells (c3 (.slice none 0 0) (.slice none 0 0) (.slice none 0 0)) 27)) (v := v) (m := m) (X := X) (by rw [HS1.out]; exact q)).mono HB1.out.size)
  obtain ⟨_, _, va, vc, rfl, _⟩ := hby
  clear hb1 hs1 hsW
  go_enter Try.func24, Try.ntmps24
  go_wp2_with fail
  refine (c_heap (w.heap.size + 1) 0 _ D0.out.1 (by omega)).mono ?_
  rintro e w2 ⟨a, b, cc, h, rfl, hsh, hf1, ho2, hc2, hg2⟩
  obtain ⟨⟨pa, qa, rfl⟩, ⟨pb, qb, rfl⟩, ⟨pc, qc, rfl⟩⟩ := ho2.shapes
  rw [HSW.out] at ho2
  have SH := Lib.hid hsh
  have hf12 := hsh.n
  generalize h.f.length = nf at *
  generalize h.l.length = nl at *
  generalize h.r.length = nr at *
  have D2 := Lib.hid (D0.out.step hc2 hg2)
  have R2 := Lib.hid (show zrow w2 w.heap.size from row_stepC R0.out (by omega) hg2)
  have OH := Lib.hid ho2
  clear hsh ho2 hc2 hg2 D0 R0
  have hba := below1 w2 (.cells (c3 (.slice pa nf qa) (.slice pb nl qb) (.slice pc nr qc)) 27)
  have hs2 := D2.out.size
  rw [HSW.out] at hs2
  have DA := Lib.hid (D2.out.low (hba.mono D2.out.size))
  have RA := Lib.hid (show zrow _ _ from Row.alloc R2.out (.cells (c3 (.slice pa nf qa) (.slice pb nl qb) (.slice pc nr qc)) 27))
  have VA := Lib.hid (show RowH _ _ _ _ _ from Row.new w2 27 (c3 (.slice pa nf qa) (.slice pb nl qb) (.slice pc nr qc)))
  have OA := Lib.hid (OH.out.below hba)
  have LV : Hid (w.heap.size + 1 + 1 ≤ w2.heap.size) := hs2
  have HGA : Hid (w2.heap.size < (w2.alloc (.cells (c3 (.slice pa nf qa) (.slice pb nl qb) (.slice pc nr qc)) 27)).heap.size) := by unfold Hid; simp
  clear hba hs2 D2 R2 OH
  go_wp2_with fail
  generalize w2.heap.size = gv at *
  generalize w2.alloc (.cells (c3 (.slice pa nf qa) (.slice pb nl qb) (.slice pc nr qc)) 27) = w3 at *
  refine (c_pick (w.heap.size + 1) (0 + 200) 4 _ DA.out.1 (by omega) (by omega) (by omega)).mono ?_
  rintro e w4 ⟨x4, hx4, rfl, hc4, hg4⟩
  obtain ⟨k4, rfl⟩ : ∃ k : Nat, x4 = k := ⟨x4.toNat, by omega⟩
  have D4 := Lib.hid (DA.out.step hc4 hg4)
  have R4 := Lib.hid (show zrow _ _ from row_stepC RA.out (by omega) hg4)
  have V4 := Lib.hid (show RowH _ _ _ _ _ from row_stepC VA.out (by have := LV.out; omega) hg4)
  have O4 := Lib.hid (OA.out.stepC (by omega) hg4)
  have hwn : IntKind.i64.wrap ((nf : Int) + 1) = (nf : Int) + 1 := IntWalk.i64_in _ (by omega)
  clear hc4 hg4
  go_wp2_with fail
  go_loopw [6, 7] (fun t i wr => ∃ (j : Nat) (l : List Int), j ≤ 3 ∧ i = .int .i64 (j : Int) ∧ Hid (l.length + j ≤ 3) ∧ Hid (Own wr (gv + 1) t l) ∧ Hid (Dv ((w.alloc (.cells (c3 (.slice none 0 0) (.slice none 0 0) (.slice none 0 0)) 27)).alloc (.cells #[(.slice va zs.length vc), .int .i64 0, .int .u64 0] 104)) (w.heap.size + 1) (0 + 200 + 2 + 4 * (3 - j)) wr) ∧ Hid (zrow wr w.heap.size) ∧ Hid (RowH wr gv (.slice pa nf qa) (.slice pb nl qb) (.slice pc nr qc)) ∧ Hid (OwnH wr (w.heap.size + 1 + 1) gv (.slice pa nf qa) (.slice pb nl qb) (.slice pc nr qc) h)) (fun _ i _ => (intOf i).toNat)
  case atStart => exact ⟨k4, [], by omega, rfl, by unfold Hid; simp; omega, Own.nil _ _, D4.out.mono (by omega), R4, V4, O4⟩
  case round =>
    clear D4 R4 V4 O4 DA RA VA OA
    obtain ⟨j, l, hj, rfl, hl, how, hD, hR, hV, hO⟩ := hrel
    by_cases hlt : 0 < j
    · have i1 : (0 : Int) < (j : Int) := by omega
      have hwj : IntKind.i64.wrap ((j : Int) - 1) = ((j - 1 : Nat) : Int) := by rw [IntWalk.i64_in _ (by omega)]; omega
      have d0 := hV.out.c0
      go_wp2_with fail
      clear d0
      refine (c_pick (w.heap.size + 1) (0 + 200 + 2 + 4 * (3 - j)) ((nf : Int) + 1) _ hD.out.1 (by omega) (by omega) (by omega)).mono ?_
      rintro e w5 ⟨x1, hx1, rfl, hc5, hg5⟩
      have D5 := Lib.hid (hD.out.step hc5 hg5)
      have R5 := Lib.hid (show zrow _ _ from row_stepC hR.out (by omega) hg5)
      have V5 := Lib.hid (show RowH _ _ _ _ _ from row_stepC hV.out (by have := LV.out; omega) hg5)
      have O5 := Lib.hid (hO.out.stepC (by omega) hg5)
      have U5 := Lib.hid (Own.stepC how.out (by have := LV.out; omega) hg5)
      clear hc5 hg5
      go_wp2_with fail
      refine (c_pick (w.heap.size + 1) (0 + 200 + 2 + 4 * (3 - j) + 2) 20 _ D5.out.1 (by omega) (by omega) (by omega)).mono ?_
      rintro e w6 ⟨x2, hx2, rfl, hc5, hg5⟩
      have D6 := Lib.hid (D5.out.step hc5 hg5)
      have R6 := Lib.hid (show zrow _ _ from row_stepC R5.out (by omega) hg5)
      have V6 := Lib.hid (show RowH _ _ _ _ _ from row_stepC V5.out (by have := LV.out; omega) hg5)
      have O6 := Lib.hid (O5.out.stepC (by omega) hg5)
      have U6 := Lib.hid (Own.stepC U5.out (by have := LV.out; omega) hg5)
      clear hc5 hg5
      have hq19 : x2.tdiv 19 = x2 / 19 := Int.tdiv_eq_ediv_of_nonneg hx2.1
      have q19 : 0 ≤ x2 / 19 ∧ x2 / 19 ≤ 1 := by omega
      generalize x2 / 19 = y at *
      have hwy : IntKind.i64.wrap y = y := IntWalk.i64_in _ (by omega)
      have hws : IntKind.i64.wrap (x1 - y) = x1 - y := IntWalk.i64_in _ (by omega)
      have hbc := below1 w6 (.cells #[.int .i64 (x1 - y)] 3)
      have gv6 := V6.out.lt
      have HO1 := Lib.hid (U6.out.below hbc)
      have HS := Lib.hid (src_int w6 (x1 - y))
      have HL2 : Hid (l.length ≤ 3) := by unfold Hid; have := hl.out; omega
      have HWS : Hid (gv + 1 ≤ (w6.alloc (.cells #[.int .i64 (x1 - y)] 3)).heap.size) := by unfold Hid; have := hbc.size; omega
      have D7 := Lib.hid (D6.out.low (hbc.mono D6.out.size)); have R7 := Lib.hid (show zrow _ _ from Row.below R6.out hbc); have V7 := Lib.hid (show RowH _ _ _ _ _ from Row.below V6.out hbc); have O7 := Lib.hid (O6.out.below hbc)
      clear hbc
      go_wp2_with (at_builtin; refine wl_appOwn _ rfl _ _ 25 rfl (gv + 1) 3 i0 (.int .i64 0) 8 Try.underlying25 hi hz0 hz1 hz2 rfl u6 _ _ rfl HO1.out _ _ rfl HS.out (by have := HL2.out; simp; unfold maxLen; omega) (by have := HL2.out; simp; omega) HWS.out ?_; intro v1 w1 ho1 hg1 hbl; have U8 : Hid (Own w1 (gv + 1) v1 (l ++ [x1 - y])) := (by { unfold Hid Own; rw [List.map_append, List.length_append]; exact ho1 }); have ch8 := Chg.of_grown (lo := gv + 1) (hi := (w6.alloc (.cells #[.int .i64 (x1 - y)] 3)).heap.size) hg1 (fun g' hg' => owns_lt HO1.out hg'); have D8 := Lib.hid (D7.out.low (below_chg (Below.refl _ _) ch8 (by have := LV.out; have := D7.out.size; rw [HSW.out]; omega) D7.out.size)); have R8 := Lib.hid (show zrow _ _ from Row.chg R7.out ch8 (.inl (by have := LV.out; omega))); have V8 := Lib.hid (show RowH _ _ _ _ _ from Row.chg V7.out ch8 (.inl (by omega))); have O8 := Lib.hid (O7.out.chg ch8 (.inl (by omega))); clear ho1 hg1 hbl ch8)
      go_roundw
      case rel => exact ⟨j - 1, l ++ [x1 - y], by omega, by go_num, by unfold Hid; have := hl.out; simp; omega, U8, D8.out.mono (by omega), R8, V8, O8⟩
      case measure => simp [intOf]; omega
    · have i1 : ¬ (0 : Int) < (j : Int) := by omega
      have ON := Lib.hid (hO.out.chg (chgRow wr w.heap.size (c3 (.slice pa nf qa) (.slice pb nl qb) (.slice pc nr qc))) (.inr (by omega)))
      have UN := Lib.hid (Own.chg how.out (chgRow wr w.heap.size (c3 (.slice pa nf qa) (.slice pb nl qb) (.slice pc nr qc))) (fun g e => .inr (by have := (owns_lt how.out e).1; have := LV.out; omega)))
      have BN := Lib.hid (below_setRow (g := w.heap.size) (DB.out _ _ hD.out) (Nat.le_refl _) (c3 (.slice pa nf qa) (.slice pb nl qb) (.slice pc nr qc)))
      have HLL : Hid (l.length ≤ 20) := by unfold Hid; have := hl.out; omega
      go_wp2_with (first
        | (refine wl_loadH rfl _ rfl gv _ _ _ hV.out rfl ?_)
        | (refine wl_storeH rfl _ _ rfl w.heap.size (.slice pa nf qa) (.slice pb nl qb) (.slice pc nr qc) _ _ _ hR.out rfl rfl rfl rfl rfl ?_))
      refine bodyPost_ret (res_row_slot Try.results24 (Row.put hR.out (c3 (.slice pa nf qa) (.slice pb nl qb) (.slice pc nr qc))) rfl rfl Try.underlying27 rfl info_heap) rfl ?_
      first | exact ⟨_, _, _, h, _, l, rfl, SH.out, HLL.out, ON.out.reads, UN.out.ints, BN.out⟩ | exact ⟨_, _, _, h, _, rfl, SH.out, l, HLL.out, ON.out.reads, UN.out.ints, BN.out⟩
end Go.Proofs.Ythanckifinfpiaa
namespace Go.Proofs.Ythanckifinfpiaa
open Go.RowKit Ph

theorem res_row_row {P : Program} {fn : Func} {p p' : Tmp} {ty ty' : TypeId} (h : fn.results = #[.cell p ty, .cell p' ty']) {tmps : Array Value} {w : World} {g g' : Nat} {t t' : TypeId} {cs cs' : Array Value} {d d' : TypeDesc} (hg : Row w g t cs) (hg' : Row w g' t' cs')
    (hp : tmps.getD p undef = .pointer (some ⟨g, 0, none⟩)) (hp' : tmps.getD p' undef = .pointer (some ⟨g', 0, none⟩)) (hu : P.underlying ty = some d) (hd : (match d with | .struct _ | .array _ _ => true | _ => false) = true) (hi : (P.info? ty).map (·.size) = some cs.size)
    (hu' : P.underlying ty' = some d') (hd' : (match d' with | .struct _ | .array _ _ => true | _ => false) = true) (hi' : (P.info? ty').map (·.size) = some cs'.size) :
    (results fn tmps).run P w = .ok (.tuple #[.agg cs, .agg cs']) w := by
  have e1 : tmps[p]?.getD undef = .pointer (some ⟨g, 0, none⟩) := by simpa using hp
  have e2 : tmps[p']?.getD undef = .pointer (some ⟨g', 0, none⟩) := by simpa using hp'
  simp [results, h, e1, e2, asAddr, run_loadVar_row w g t ty cs (0, 0) d hg hu hd hi, run_loadVar_row w g' t' ty' cs' (0, 0) d' hg' hu' hd' hi']
/-- Two heaps that a draw has made, in their variables, and the two that it answers. -/
structure Two (w W X : World) (n gA : Nat) (a b c : Value) (h : H) : Prop where
  dv : Dv W (w.heap.size + 2) n X
  r0 : zrow X w.heap.size
  r1 : zrow X (w.heap.size + 1)
  va : RowH X gA a b c
  own : OwnH X (w.heap.size + 3) gA a b c h
  low : w.heap.size + 3 ≤ gA
section
variable {w W X Y : World} {n n' gA : Nat} {a b c : Value} {h : H}
theorem Two.step (k : Two w W X n gA a b c h) (hc : CurIs Y (w.heap.size + 2) n') (hg : X.grownBy Y (some (w.heap.size + 2))) : Two w W Y n' gA a b c h :=
  ⟨k.dv.step hc hg, row_stepC k.r0 (by omega) hg, row_stepC k.r1 (by omega) hg, row_stepC k.va (by have := k.low; omega) hg, k.own.stepC (by omega) hg, k.low⟩
theorem Two.below (k : Two w W X n gA a b c h) (hb : Below X.heap.size X Y) : Two w W Y n gA a b c h :=
  ⟨k.dv.low (hb.mono k.dv.size), Row.below k.r0 hb, Row.below k.r1 hb, Row.below k.va hb, k.own.below hb, k.low⟩
end
set_option maxRecDepth 100000 in
set_option maxHeartbeats 6400000 in
theorem d_SameReached (v : Value) (zs : List Int) (w : World) (hby : BytesAt w v zs) : Calls Try.prog 22 #[v] w fun e w' => ∃ a b cc h a' b' cc' h', e = .returned (.tuple #[hv a b cc, hv a' b' cc']) ∧ HeapAt w' a b cc h ∧ HeapAt w' a' b' cc' h' ∧ Below w.heap.size w w' := by
  have hb1 := (below1 w (.cells (c3 (.slice none 0 0) (.slice none 0 0) (.slice none 0 0)) 27)).alloc (by simp) (.cells (c3 (.slice none 0 0) (.slice none 0 0) (.slice none 0 0)) 27)
  have D0 := Lib.hid (dv_new (hby.below hb1))
  have hs1 : ((w.alloc (.cells (c3 (.slice none 0 0) (.slice none 0 0) (.slice none 0 0)) 27)).alloc (.cells (c3 (.slice none 0 0) (.slice none 0 0) (.slice none 0 0)) 27)).heap.size = w.heap.size + 2 := by simp
  have hsW : (((w.alloc (.cells (c3 (.slice none 0 0) (.slice none 0 0) (.slice none 0 0)) 27)).alloc (.cells (c3 (.slice none 0 0) (.slice none 0 0) (.slice none 0 0)) 27)).alloc (.cells #[v, .int .i64 0, .int .u64 0] 104)).heap.size = w.heap.size + 2 + 1 := by simp
  rw [hs1] at D0
  have R0 := Lib.hid (show zrow (((w.alloc (.cells (c3 (.slice none 0 0) (.slice none 0 0) (.slice none 0 0)) 27)).alloc (.cells (c3 (.slice none 0 0) (.slice none 0 0) (.slice none 0 0)) 27)).alloc (.cells #[v, .int .i64 0, .int .u64 0] 104)) w.heap.size from ((Row.new w 27 (c3 (.slice none 0 0) (.slice none 0 0) (.slice none 0 0))).alloc (.cells (c3 (.slice none 0 0) (.slice none 0 0) (.slice none 0 0)) 27)).alloc (.cells #[v, .int .i64 0, .int .u64 0] 104))
  have R1 := Lib.hid (show zrow (((w.alloc (.cells (c3 (.slice none 0 0) (.slice none 0 0) (.slice none 0 0)) 27)).alloc (.cells (c3 (.slice none 0 0) (.slice none 0 0) (.slice none 0 0)) 27)).alloc (.cells #[v, .int .i64 0, .int .u64 0] 104)) (w.heap.size + 1) from (Row.new1 w (.cells (c3 (.slice none 0 0) (.slice none 0 0) (.slice none 0 0)) 27) 27 (c3 (.slice none 0 0) (.slice none 0 0) (.slice none 0 0))).alloc (.cells #[v, .int .i64 0, .int .u64 0] 104))
  have HB1 := Lib.hid hb1
  have HS1 := Lib.hid hs1; have HSW := Lib.hid hsW
  have DB : Hid (∀ X m, Dv (((w.alloc (.cells (c3 (.slice none 0 0) (.slice none 0 0) (.slice none 0 0)) 27)).alloc (.cells (c3 (.slice none 0 0) (.slice none 0 0) (.slice none 0 0)) 27)).alloc (.cells #[v, .int .i64 0, .int .u64 0] 104)) (w.heap.size + 2) m X → Below w.heap.size w X) := fun X m q => HB1.out.trans ((dv_below (w := (w.alloc (.cells (c3 (.slice none 0 0) (.slice none 0 0) (.slice none 0 0)) 27)).alloc (.cells (c3 (.slice none 0 0) (.slice none 0 0) (.slice none 0 0)) 27)) (v := v) (m := m) (X := X) (by rw [HS1.out]; exact q)).mono HB1.out.size)
  obtain ⟨_, _, va, vc, rfl, _⟩ := hby
  clear hb1 hs1 hsW
  go_enter Try.func22, Try.ntmps22
  go_wp2_with fail
  refine (c_heap (w.heap.size + 2) 0 _ D0.out.1 (by omega)).mono ?_
  rintro e w2 ⟨a, b, cc, h, rfl, _, _, ho2, hc2, hg2⟩
  obtain ⟨⟨pa, qa, e1⟩, ⟨pb, qb, e2⟩, ⟨pc, qc, e3⟩⟩ := ho2.shapes
  subst e1 e2 e3
  rw [HSW.out] at ho2
  generalize h.f.length = nf at *
  generalize h.l.length = nl at *
  generalize h.r.length = nr at *
  have D2 := D0.out.step hc2 hg2
  have hba := below1 w2 (.cells (c3 (.slice pa nf qa) (.slice pb nl qb) (.slice pc nr qc)) 27)
  have hs2 := D2.size
  rw [HSW.out] at hs2
  have TA := Lib.hid (Two.mk (w := w) (D2.low (hba.mono D2.size)) (Row.below (row_stepC R0.out (by omega) hg2) hba) (Row.below (row_stepC R1.out (by omega) hg2) hba) (show RowH _ w2.heap.size (.slice pa nf qa) (.slice pb nl qb) (.slice pc nr qc) from Row.new w2 27 (c3 (.slice pa nf qa) (.slice pb nl qb) (.slice pc nr qc))) (ho2.below hba) (by omega))
  clear ho2 hc2 hg2 D0 R0 R1 D2 hba hs2
  go_wp2_with fail
  generalize hgA : w2.heap.size = gA at *
  clear hgA
  generalize w2.alloc (.cells (c3 (.slice pa nf qa) (.slice pb nl qb) (.slice pc nr qc)) 27) = w3 at *
  have HEV := Lib.hid (s_CleanHeap (.slice pa nf qa) (.slice pb nl qb) (.slice pc nr qc) h w3 (TA.out.own.reads))
  generalize (cleanP h).1 = h2 at *
  generalize ((cleanP h).2 : Int) = n2 at *
  generalize good h = ok at *
  refine HEV.out.mono ?_
  intro e w4 hend
  obtain ⟨a2, b2, c2, rfl, ho4, hb4⟩ := hend
  obtain ⟨⟨ra, ta, e1⟩, ⟨rb, tb, e2⟩, ⟨rc, tc, e3⟩⟩ := ho4.shapes
  subst e1 e2 e3
  generalize h2.f.length = mf at *
  generalize h2.l.length = ml at *
  generalize h2.r.length = mr at *
  have hba := below1 w4 (.cells (c3 (.slice ra mf ta) (.slice rb ml tb) (.slice rc mr tc)) 27)
  have TB := Lib.hid ((TA.out.below hb4).below hba)
  have VB := Lib.hid (show RowH _ w4.heap.size (.slice ra mf ta) (.slice rb ml tb) (.slice rc mr tc) from Row.new w4 27 (c3 (.slice ra mf ta) (.slice rb ml tb) (.slice rc mr tc)))
  have OB := Lib.hid (ho4.below hba)
  have LB : Hid (gA < w3.heap.size ∧ w3.heap.size ≤ w4.heap.size) := ⟨TA.out.va.lt, hb4.size⟩
  clear ho4 hb4 hba TA HEV
  cases ok
  · skip
    have d0 := TB.out.va.c0
    have d1 := TB.out.va.c1
    have d2 := TB.out.va.c2
    go_wp2_with fail
    clear d0 d1 d2
    have TC : Hid (Two w (((w.alloc (.cells (c3 (.slice none 0 0) (.slice none 0 0) (.slice none 0 0)) 27)).alloc (.cells (c3 (.slice none 0 0) (.slice none 0 0) (.slice none 0 0)) 27)).alloc (.cells #[(.slice va zs.length vc), .int .i64 0, .int .u64 0] 104)) (w4.alloc (.cells (c3 (.slice ra mf ta) (.slice rb ml tb) (.slice rc mr tc)) 27)).drew (0 + 200) gA (.slice pa nf qa) (.slice pb nl qb) (.slice pc nr qc) h) := TB.out.below (below_drew (Below.refl _ _))
    refine wp_region_held_drew (S := (fun w' => w'.cell? ⟨gA, 0, none⟩ = some (.slice pa nf qa) ∧ w'.cell? ⟨gA, 1, none⟩ = some (.slice pb nl qb) ∧ w'.cell? ⟨gA, 2, none⟩ = some (.slice pc nr qc))) (by kernel_rfl) (⟨TC.out.va.c0, TC.out.va.c1, TC.out.va.c2⟩) (fun hHeld => ?_)
    generalize (w4.alloc (.cells (c3 (.slice ra mf ta) (.slice rb ml tb) (.slice rc mr tc)) 27)).drew = x0 at *
    refine wpAnyH_take (i := 0) (v := ?va0x1) rfl (by kernel_rfl) (by kernel_rfl) (by kernel_rfl) (fun _ _ _ h => h) (Or.inl ⟨by rfl, ?hy0x1⟩) (by assumption) ?rest0x1
    case hy0x1 => (intro w hSw; (try dsimp only at hSw); go_simp; try with_reducible rfl)
    (try simp only [Act.put, List.getElem_toArray, List.getElem_cons_zero, List.setIfInBounds_toArray, List.set_cons_zero, List.set_cons_succ])
    refine wpAnyH_take (i := 1) (v := ?va1x2) rfl (by kernel_rfl) (by kernel_rfl) (by kernel_rfl) (fun _ _ _ h => h) (Or.inl ⟨by rfl, ?hy1x2⟩) (by assumption) ?rest1x2
    case hy1x2 => (intro w hSw; (try dsimp only at hSw); go_simp; try with_reducible rfl)
    (try simp only [Act.put, List.getElem_toArray, List.getElem_cons_zero, List.getElem_cons_succ, List.setIfInBounds_toArray, List.set_cons_zero, List.set_cons_succ])
    refine wpAnyH_ready (rs := [2]) (by kernel_rfl) (by simp) ?_
    refine AllReadyH.cons rfl (fun K hK => ?_) AllReadyH.nil
    go_simp
    refine (c_heap (w.heap.size + 2) (0 + 200) _ TC.out.dv.1 (by omega)).mono ?_
    rintro e w6 ⟨a6, b6, c6, h6, rfl, _, _, ho6, hc6, hg6⟩
    obtain ⟨⟨sa, ua, e1⟩, ⟨sb, ub, e2⟩, ⟨sc, uc, e3⟩⟩ := ho6.shapes
    subst e1 e2 e3
    generalize h6.f.length = kf at *
    generalize h6.l.length = kl at *
    generalize h6.r.length = kr at *
    have LX : Hid (gA < x0.heap.size) := TC.out.va.lt
    have TE := Lib.hid (TC.out.step hc6 hg6)
    have O6 := Lib.hid ho6
    clear ho6 hc6 hg6
    refine hK.out _ _ ⟨TE.out.va.c0, TE.out.va.c1, TE.out.va.c2⟩ (fun hHeld => ?_)
    clear hK K
    (try simp only [Act.put, List.getElem_toArray, List.getElem_cons_zero, List.getElem_cons_succ, List.setIfInBounds_toArray, List.set_cons_zero, List.set_cons_succ])
    have ch1 := chgRow w6 w.heap.size (c3 (.slice pa nf qa) (.slice pb nl qb) (.slice pc nr qc))
    have VA1 := Lib.hid (show RowH _ _ _ _ _ from Row.chg TE.out.va ch1 (.inr (by have := TE.out.low; omega)))
    have OA1 := Lib.hid (TE.out.own.chg ch1 (.inr (by omega)))
    have OB1 := Lib.hid (O6.out.chg ch1 (.inr (by have := LX.out; have := TE.out.low; omega)))
    have R11 := Lib.hid (show zrow _ (w.heap.size + 1) from Row.chg TE.out.r1 ch1 (.inr (by omega)))
    have R01 := Lib.hid (Row.put TE.out.r0 (c3 (.slice pa nf qa) (.slice pb nl qb) (.slice pc nr qc)))
    have BB1 := Lib.hid (below_setRow (g := w.heap.size) (DB.out _ _ TE.out.dv) (Nat.le_refl _) (c3 (.slice pa nf qa) (.slice pb nl qb) (.slice pc nr qc)))
    clear ch1
    refine wpAnyH_ready (rs := [3]) (by kernel_rfl) (by simp) ?_
    refine AllReadyH.cons rfl (fun K hK => ?_) AllReadyH.nil
    refine wp_store_row 27 _ _ rfl w.heap.size (c3 (.slice pa nf qa) (.slice pb nl qb) (.slice pc nr qc)) rfl rfl 27 _ TE.out.r0 info_heap rfl (by simp [Value.oneCell']) ?_
    refine hK.out _ _ ⟨VA1.out.c0, VA1.out.c1, VA1.out.c2⟩ (fun hHeld => ?_)
    clear hK K
    (try simp only [Act.put, List.getElem_toArray, List.getElem_cons_zero, List.getElem_cons_succ])
    generalize w6.setRow w.heap.size (c3 (.slice pa nf qa) (.slice pb nl qb) (.slice pc nr qc)) = z1 at *
    have ch2 := chgRow z1 (w.heap.size + 1) (c3 (.slice sa kf ua) (.slice sb kl ub) (.slice sc kr uc))
    have VA2 := Lib.hid (show RowH _ _ _ _ _ from Row.chg VA1.out ch2 (.inr (by have := TE.out.low; omega)))
    have OA2 := Lib.hid (OA1.out.chg ch2 (.inr (by omega)))
    have OB2 := Lib.hid (OB1.out.chg ch2 (.inr (by have := LX.out; have := TE.out.low; omega)))
    have R02 := Lib.hid (Row.chg R01.out ch2 (.inl (by omega)))
    have BB2 := Lib.hid (below_setRow (g := w.heap.size + 1) BB1.out (by omega) (c3 (.slice sa kf ua) (.slice sb kl ub) (.slice sc kr uc)))
    clear ch2
    refine wpAnyH_ready (rs := [4]) (by kernel_rfl) (by simp) ?_
    refine AllReadyH.cons rfl (fun K hK => ?_) AllReadyH.nil
    refine wp_store_row 27 _ _ rfl (w.heap.size + 1) (c3 (.slice sa kf ua) (.slice sb kl ub) (.slice sc kr uc)) rfl rfl 27 _ R11.out info_heap rfl (by simp [Value.oneCell']) ?_
    refine hK.out _ _ ⟨VA2.out.c0, VA2.out.c1, VA2.out.c2⟩ (fun hHeld => ?_)
    clear hK K
    (try simp only [Act.put, List.getElem_toArray, List.getElem_cons_zero, List.getElem_cons_succ])
    refine wpAnyH_done (by kernel_rfl) ?_ _
    clear hHeld
    go_wp2_with fail
    refine bodyPost_ret (res_row_row Try.results22 R02.out (Row.put R11.out (c3 (.slice sa kf ua) (.slice sb kl ub) (.slice sc kr uc))) rfl rfl Try.underlying27 rfl info_heap Try.underlying27 rfl info_heap) rfl ⟨_, _, _, h, _, _, _, h6, rfl, OA2.out.reads, OB2.out.reads, BB2.out⟩
  have d0 := TB.out.va.c0
  have d1 := TB.out.va.c1
  have d2 := TB.out.va.c2
  go_wp2_with fail
  refine (c_one (w.heap.size + 2) (0 + 200) 2 _ TB.out.dv.1 (by omega) (by omega) (by omega)).mono ?_
  rintro e w5 ⟨bo, rfl, hc5, hg5⟩
  have LW : Hid (w.heap.size + 2 < gA) := (by unfold Hid; have := TB.out.low; omega)
  have T5 := Lib.hid (TB.out.step hc5 hg5)
  have V5 := Lib.hid (show RowH _ _ _ _ _ from row_stepC VB.out (by have := LB.out; have := LW.out; omega) hg5)
  have O5 := Lib.hid (OB.out.stepC (by have := LB.out; have := LW.out; omega) hg5)
  clear hc5 hg5 d0 d1 d2
  generalize hgB : w4.heap.size = gB at *
  clear hgB
  cases bo
  · skip
    have d0 := T5.out.va.c0
    have d1 := T5.out.va.c1
    have d2 := T5.out.va.c2
    go_wp2_with fail
    clear d0 d1 d2
    have TC : Hid (Two w (((w.alloc (.cells (c3 (.slice none 0 0) (.slice none 0 0) (.slice none 0 0)) 27)).alloc (.cells (c3 (.slice none 0 0) (.slice none 0 0) (.slice none 0 0)) 27)).alloc (.cells #[(.slice va zs.length vc), .int .i64 0, .int .u64 0] 104)) w5.drew (0 + 200 + 2) gA (.slice pa nf qa) (.slice pb nl qb) (.slice pc nr qc) h) := T5.out.below (below_drew (Below.refl _ _))
    refine wp_region_held_drew (S := (fun w' => w'.cell? ⟨gA, 0, none⟩ = some (.slice pa nf qa) ∧ w'.cell? ⟨gA, 1, none⟩ = some (.slice pb nl qb) ∧ w'.cell? ⟨gA, 2, none⟩ = some (.slice pc nr qc))) (by kernel_rfl) (⟨TC.out.va.c0, TC.out.va.c1, TC.out.va.c2⟩) (fun hHeld => ?_)
    generalize w5.drew = x0 at *
    refine wpAnyH_take (i := 0) (v := ?va0x3) rfl (by kernel_rfl) (by kernel_rfl) (by kernel_rfl) (fun _ _ _ h => h) (Or.inl ⟨by rfl, ?hy0x3⟩) (by assumption) ?rest0x3
    case hy0x3 => (intro w hSw; (try dsimp only at hSw); go_simp; try with_reducible rfl)
    (try simp only [Act.put, List.getElem_toArray, List.getElem_cons_zero, List.setIfInBounds_toArray, List.set_cons_zero, List.set_cons_succ])
    refine wpAnyH_take (i := 1) (v := ?va1x4) rfl (by kernel_rfl) (by kernel_rfl) (by kernel_rfl) (fun _ _ _ h => h) (Or.inl ⟨by rfl, ?hy1x4⟩) (by assumption) ?rest1x4
    case hy1x4 => (intro w hSw; (try dsimp only at hSw); go_simp; try with_reducible rfl)
    (try simp only [Act.put, List.getElem_toArray, List.getElem_cons_zero, List.getElem_cons_succ, List.setIfInBounds_toArray, List.set_cons_zero, List.set_cons_succ])
    refine wpAnyH_ready (rs := [2]) (by kernel_rfl) (by simp) ?_
    refine AllReadyH.cons rfl (fun K hK => ?_) AllReadyH.nil
    go_simp
    refine (c_heap (w.heap.size + 2) (0 + 200 + 2) _ TC.out.dv.1 (by omega)).mono ?_
    rintro e w6 ⟨a6, b6, c6, h6, rfl, _, _, ho6, hc6, hg6⟩
    obtain ⟨⟨sa, ua, e1⟩, ⟨sb, ub, e2⟩, ⟨sc, uc, e3⟩⟩ := ho6.shapes
    subst e1 e2 e3
    generalize h6.f.length = kf at *
    generalize h6.l.length = kl at *
    generalize h6.r.length = kr at *
    have LX : Hid (gA < x0.heap.size) := TC.out.va.lt
    have TE := Lib.hid (TC.out.step hc6 hg6)
    have O6 := Lib.hid ho6
    clear ho6 hc6 hg6
    refine hK.out _ _ ⟨TE.out.va.c0, TE.out.va.c1, TE.out.va.c2⟩ (fun hHeld => ?_)
    clear hK K
    (try simp only [Act.put, List.getElem_toArray, List.getElem_cons_zero, List.getElem_cons_succ, List.setIfInBounds_toArray, List.set_cons_zero, List.set_cons_succ])
    have ch1 := chgRow w6 w.heap.size (c3 (.slice pa nf qa) (.slice pb nl qb) (.slice pc nr qc))
    have VA1 := Lib.hid (show RowH _ _ _ _ _ from Row.chg TE.out.va ch1 (.inr (by have := TE.out.low; omega)))
    have OA1 := Lib.hid (TE.out.own.chg ch1 (.inr (by omega)))
    have OB1 := Lib.hid (O6.out.chg ch1 (.inr (by have := LX.out; have := TE.out.low; omega)))
    have R11 := Lib.hid (show zrow _ (w.heap.size + 1) from Row.chg TE.out.r1 ch1 (.inr (by omega)))
    have R01 := Lib.hid (Row.put TE.out.r0 (c3 (.slice pa nf qa) (.slice pb nl qb) (.slice pc nr qc)))
    have BB1 := Lib.hid (below_setRow (g := w.heap.size) (DB.out _ _ TE.out.dv) (Nat.le_refl _) (c3 (.slice pa nf qa) (.slice pb nl qb) (.slice pc nr qc)))
    clear ch1
    refine wpAnyH_ready (rs := [3]) (by kernel_rfl) (by simp) ?_
    refine AllReadyH.cons rfl (fun K hK => ?_) AllReadyH.nil
    refine wp_store_row 27 _ _ rfl w.heap.size (c3 (.slice pa nf qa) (.slice pb nl qb) (.slice pc nr qc)) rfl rfl 27 _ TE.out.r0 info_heap rfl (by simp [Value.oneCell']) ?_
    refine hK.out _ _ ⟨VA1.out.c0, VA1.out.c1, VA1.out.c2⟩ (fun hHeld => ?_)
    clear hK K
    (try simp only [Act.put, List.getElem_toArray, List.getElem_cons_zero, List.getElem_cons_succ])
    generalize w6.setRow w.heap.size (c3 (.slice pa nf qa) (.slice pb nl qb) (.slice pc nr qc)) = z1 at *
    have ch2 := chgRow z1 (w.heap.size + 1) (c3 (.slice sa kf ua) (.slice sb kl ub) (.slice sc kr uc))
    have VA2 := Lib.hid (show RowH _ _ _ _ _ from Row.chg VA1.out ch2 (.inr (by have := TE.out.low; omega)))
    have OA2 := Lib.hid (OA1.out.chg ch2 (.inr (by omega)))
    have OB2 := Lib.hid (OB1.out.chg ch2 (.inr (by have := LX.out; have := TE.out.low; omega)))
    have R02 := Lib.hid (Row.chg R01.out ch2 (.inl (by omega)))
    have BB2 := Lib.hid (below_setRow (g := w.heap.size + 1) BB1.out (by omega) (c3 (.slice sa kf ua) (.slice sb kl ub) (.slice sc kr uc)))
    clear ch2
    refine wpAnyH_ready (rs := [4]) (by kernel_rfl) (by simp) ?_
    refine AllReadyH.cons rfl (fun K hK => ?_) AllReadyH.nil
    refine wp_store_row 27 _ _ rfl (w.heap.size + 1) (c3 (.slice sa kf ua) (.slice sb kl ub) (.slice sc kr uc)) rfl rfl 27 _ R11.out info_heap rfl (by simp [Value.oneCell']) ?_
    refine hK.out _ _ ⟨VA2.out.c0, VA2.out.c1, VA2.out.c2⟩ (fun hHeld => ?_)
    clear hK K
    (try simp only [Act.put, List.getElem_toArray, List.getElem_cons_zero, List.getElem_cons_succ])
    refine wpAnyH_done (by kernel_rfl) ?_ _
    clear hHeld
    go_wp2_with fail
    refine bodyPost_ret (res_row_row Try.results22 R02.out (Row.put R11.out (c3 (.slice sa kf ua) (.slice sb kl ub) (.slice sc kr uc))) rfl rfl Try.underlying27 rfl info_heap Try.underlying27 rfl info_heap) rfl ⟨_, _, _, h, _, _, _, h6, rfl, OA2.out.reads, OB2.out.reads, BB2.out⟩
  go_wp2_with fail
  have T6 := Lib.hid (T5.out.below (below_drew (Below.refl _ _)))
  have V6 : Hid (RowH w5.drew gB (.slice ra mf ta) (.slice rb ml tb) (.slice rc mr tc)) := V5.out
  have O6 := Lib.hid (O5.out.below (below_drew (Below.refl _ _)))
  refine wp_region_held_drew (S := (fun w' => w'.cell? ⟨gA, 0, none⟩ = some (.slice pa nf qa) ∧ w'.cell? ⟨gA, 1, none⟩ = some (.slice pb nl qb) ∧ w'.cell? ⟨gA, 2, none⟩ = some (.slice pc nr qc) ∧ w'.cell? ⟨gB, 0, none⟩ = some (.slice ra mf ta) ∧ w'.cell? ⟨gB, 1, none⟩ = some (.slice rb ml tb) ∧ w'.cell? ⟨gB, 2, none⟩ = some (.slice rc mr tc))) (by kernel_rfl) (⟨T6.out.va.c0, T6.out.va.c1, T6.out.va.c2, V6.out.c0, V6.out.c1, V6.out.c2⟩) (fun hHeld => ?_)
  generalize w5.drew = x0 at *
  refine wpAnyH_take (i := 0) (v := ?va0x5) rfl (by kernel_rfl) (by kernel_rfl) (by kernel_rfl) (fun _ _ _ h => h) (Or.inl ⟨by rfl, ?hy0x5⟩) (by assumption) ?rest0x5
  case hy0x5 => (intro w hSw; (try dsimp only at hSw); go_simp; try with_reducible rfl)
  (try simp only [Act.put, List.getElem_toArray, List.getElem_cons_zero, List.setIfInBounds_toArray, List.set_cons_zero, List.set_cons_succ])
  refine wpAnyH_take (i := 1) (v := ?va1x6) rfl (by kernel_rfl) (by kernel_rfl) (by kernel_rfl) (fun _ _ _ h => h) (Or.inl ⟨by rfl, ?hy1x6⟩) (by assumption) ?rest1x6
  case hy1x6 => (intro w hSw; (try dsimp only at hSw); go_simp; try with_reducible rfl)
  (try simp only [Act.put, List.getElem_toArray, List.getElem_cons_zero, List.getElem_cons_succ, List.setIfInBounds_toArray, List.set_cons_zero, List.set_cons_succ])
  have ch1 := chgRow x0 w.heap.size (c3 (.slice pa nf qa) (.slice pb nl qb) (.slice pc nr qc))
  have VA1 := Lib.hid (show RowH _ _ _ _ _ from Row.chg T6.out.va ch1 (.inr (by have := T6.out.low; omega)))
  have VB1 := Lib.hid (show RowH _ _ _ _ _ from Row.chg V6.out ch1 (.inr (by have := LB.out; have := T6.out.low; omega)))
  have OA1 := Lib.hid (T6.out.own.chg ch1 (.inr (by omega)))
  have OB1 := Lib.hid (O6.out.chg ch1 (.inr (by have := LB.out; have := T6.out.low; omega)))
  have R11 := Lib.hid (show zrow _ (w.heap.size + 1) from Row.chg T6.out.r1 ch1 (.inr (by omega)))
  have R01 := Lib.hid (Row.put T6.out.r0 (c3 (.slice pa nf qa) (.slice pb nl qb) (.slice pc nr qc)))
  have BB1 := Lib.hid (below_setRow (g := w.heap.size) (DB.out _ _ T6.out.dv) (Nat.le_refl _) (c3 (.slice pa nf qa) (.slice pb nl qb) (.slice pc nr qc)))
  clear ch1
  refine wpAnyH_ready (rs := [2]) (by kernel_rfl) (by simp) ?_
  refine AllReadyH.cons rfl (fun K hK => ?_) AllReadyH.nil
  refine wp_store_row 27 _ _ rfl w.heap.size (c3 (.slice pa nf qa) (.slice pb nl qb) (.slice pc nr qc)) rfl rfl 27 _ T6.out.r0 info_heap rfl (by simp [Value.oneCell']) ?_
  refine hK.out _ _ ⟨VA1.out.c0, VA1.out.c1, VA1.out.c2, VB1.out.c0, VB1.out.c1, VB1.out.c2⟩ (fun hHeld => ?_)
  clear hK K
  (try simp only [Act.put, List.getElem_toArray, List.getElem_cons_zero, List.getElem_cons_succ])
  generalize x0.setRow w.heap.size (c3 (.slice pa nf qa) (.slice pb nl qb) (.slice pc nr qc)) = z1 at *
  have ch2 := chgRow z1 (w.heap.size + 1) (c3 (.slice ra mf ta) (.slice rb ml tb) (.slice rc mr tc))
  have VA2 := Lib.hid (show RowH _ _ _ _ _ from Row.chg VA1.out ch2 (.inr (by have := T6.out.low; omega)))
  have OA2 := Lib.hid (OA1.out.chg ch2 (.inr (by omega)))
  have OB2 := Lib.hid (OB1.out.chg ch2 (.inr (by have := LB.out; have := T6.out.low; omega)))
  have R02 := Lib.hid (Row.chg R01.out ch2 (.inl (by omega)))
  have BB2 := Lib.hid (below_setRow (g := w.heap.size + 1) BB1.out (by omega) (c3 (.slice ra mf ta) (.slice rb ml tb) (.slice rc mr tc)))
  have VB2 := Lib.hid (show RowH _ _ _ _ _ from Row.chg VB1.out ch2 (.inr (by have := LB.out; have := T6.out.low; omega)))
  clear ch2
  refine wpAnyH_ready (rs := [3]) (by kernel_rfl) (by simp) ?_
  refine AllReadyH.cons rfl (fun K hK => ?_) AllReadyH.nil
  refine wp_store_row 27 _ _ rfl (w.heap.size + 1) (c3 (.slice ra mf ta) (.slice rb ml tb) (.slice rc mr tc)) rfl rfl 27 _ R11.out info_heap rfl (by simp [Value.oneCell']) ?_
  refine hK.out _ _ ⟨VA2.out.c0, VA2.out.c1, VA2.out.c2, VB2.out.c0, VB2.out.c1, VB2.out.c2⟩ (fun hHeld => ?_)
  clear hK K
  (try simp only [Act.put, List.getElem_toArray, List.getElem_cons_zero, List.getElem_cons_succ])
  refine wpAnyH_done (by kernel_rfl) ?_ _
  clear hHeld
  go_wp2_with fail
  refine bodyPost_ret (res_row_row Try.results22 R02.out (Row.put R11.out (c3 (.slice ra mf ta) (.slice rb ml tb) (.slice rc mr tc))) rfl rfl Try.underlying27 rfl info_heap Try.underlying27 rfl info_heap) rfl ⟨_, _, _, h, _, _, _, h2, rfl, OA2.out.reads, OB2.out.reads, BB2.out⟩
end Go.Proofs.Ythanckifinfpiaa
namespace Go.Proofs.Ythanckifinfpiaa
open Go.RowKit Ph

set_option maxHeartbeats 800000 in
theorem c_sameBools (va vb : Value) (zs : List Bool) (w : World) (hA : BoolsAt w va zs) (hB : BoolsAt w vb zs) (hm : zs.length ≤ 9223372036854775806) :
    Calls Try.prog 19 #[va, vb] w fun e w' => e = .returned (.bool true) ∧ ∃ n, w' = w.drewN n := by
  obtain ⟨a, ca, rfl, hA⟩ := hA
  obtain ⟨b, cb, rfl, hB⟩ := hB
  generalize hn : zs.length = n at *
  clear hn
  have hbq : ((n : Int) != (n : Int)) = false := by simp
  have HCA := Lib.hid hA; have HCB := Lib.hid hB; clear hA hB
  go_enter Try.func19, Try.ntmps19
  go_wp2
  go_loopw [13] (fun i wr => ∃ k : Nat, k ≤ n ∧ i = .int .i64 k ∧ ∃ n, wr = w.drewN n) (fun i _ => n - (intOf i).toNat)
  case atStart => exact ⟨0, Nat.zero_le _, rfl, drewN_refl _⟩
  case round =>
    obtain ⟨k, hk, rfl, nd, rfl⟩ := hrel
    by_cases hlt : k < n
    · obtain ⟨ba, oa, rfl, hca⟩ := HCA.out (by omega)
      obtain ⟨bb, ob, rfl, hcb⟩ := HCB.out (by omega)
      have q1 := hca k hlt
      have q2 := hcb k hlt
      have i1 : (k : Int) < (n : Int) := by omega
      clear hca hcb
      generalize zs.getD k false = x at *
      have hxx : (x != x) = false := by simp
      go_wp2
      go_quiet (fail)
      go_wp2
      go_roundw
      case rel => exact ⟨k + 1, by omega, by go_num, nd + nq, by simp⟩
      case measure => simp [intOf]; omega
    · go_wp2
      go_ret
      exact ⟨rfl, _, rfl⟩

set_option maxRecDepth 100000 in
set_option maxHeartbeats 3200000 in
theorem c_sameHeap (a b c a' b' c' : Value) (h : H) (w : World) (hA : HeapAt w a b c h) (hB : HeapAt w a' b' c' h) (h1 : h.f.length ≤ 1000) (h2 : h.l.length ≤ 1000) (h3 : h.r.length ≤ 1000) (h4 : ∀ i, (h.f.getD i []).length ≤ 1000) :
    Calls Try.prog 18 #[hv a b c, hv a' b' c'] w fun e w' => e = .returned (.bool true) ∧ Below w.heap.size w w' := by
  obtain ⟨pa, qa, rfl⟩ := hA.f.shape
  obtain ⟨pb, qb, rfl⟩ := hA.l.shape
  obtain ⟨pc, qc, rfl⟩ := hA.r.shape
  obtain ⟨pa', qa', rfl⟩ := hB.f.shape
  obtain ⟨pb', qb', rfl⟩ := hB.l.shape
  obtain ⟨pc', qc', rfl⟩ := hB.r.shape
  have HA := Lib.hid hA; have HB := Lib.hid hB; have H4 := Lib.hid h4
  have HN2 : Hid (∀ X : List Bool, X = h.l → X.length ≤ 1000) := fun X q => by rw [q]; exact h2
  have HN3 : Hid (∀ X : List Int, X = h.r → X.length ≤ 1000) := fun X q => by rw [q]; exact h3
  clear hA hB h4
  generalize h.f.length = nf at *
  generalize h.l.length = nl at *
  generalize h.r.length = nr at *
  have hb0 : Below w.heap.size w ((w.alloc (.cells (c3 (.slice pa nf qa) (.slice pb nl qb) (.slice pc nr qc)) 27)).alloc (.cells (c3 (.slice pa' nf qa') (.slice pb' nl qb') (.slice pc' nr qc')) 27)) := (below1 w (.cells (c3 (.slice pa nf qa) (.slice pb nl qb) (.slice pc nr qc)) 27)).alloc (by simp) (.cells (c3 (.slice pa' nf qa') (.slice pb' nl qb') (.slice pc' nr qc')) 27)
  have L := Lib.hid hb0
  have RA := Lib.hid (show RowH _ w.heap.size (.slice pa nf qa) (.slice pb nl qb) (.slice pc nr qc) from (Row.new w 27 (c3 (.slice pa nf qa) (.slice pb nl qb) (.slice pc nr qc))).alloc (.cells (c3 (.slice pa' nf qa') (.slice pb' nl qb') (.slice pc' nr qc')) 27))
  have RB := Lib.hid (show RowH _ (w.heap.size + 1) (.slice pa' nf qa') (.slice pb' nl qb') (.slice pc' nr qc') from Row.new1 w (.cells (c3 (.slice pa nf qa) (.slice pb nl qb) (.slice pc nr qc)) 27) 27 (c3 (.slice pa' nf qa') (.slice pb' nl qb') (.slice pc' nr qc')))
  replace HA := Lib.hid (HA.out.below hb0); replace HB := Lib.hid (HB.out.below hb0)
  clear hb0
  have hbq : ((nf : Int) != (nf : Int)) = false := by simp
  go_enter Try.func18, Try.ntmps18
  have a0 := RA.out.c0
  have a1 := RA.out.c1
  have a2 := RA.out.c2
  have b0 := RB.out.c0
  have b1 := RB.out.c1
  have b2 := RB.out.c2
  go_wp2_with fail
  refine (c_sameBools _ _ h.l _ HA.out.l HB.out.l (by have := HN2.out _ rfl; omega)).mono ?_
  rintro e w1 ⟨rfl, nd1, hw1⟩
  have hb1 : Below ((w.alloc (.cells (c3 (.slice pa nf qa) (.slice pb nl qb) (.slice pc nr qc)) 27)).alloc (.cells (c3 (.slice pa' nf qa') (.slice pb' nl qb') (.slice pc' nr qc')) 27)).heap.size ((w.alloc (.cells (c3 (.slice pa nf qa) (.slice pb nl qb) (.slice pc nr qc)) 27)).alloc (.cells (c3 (.slice pa' nf qa') (.slice pb' nl qb') (.slice pc' nr qc')) 27)) w1 := by rw [hw1]; exact below_drewN (Below.refl _ _) nd1
  replace L := Lib.hid (bst L.out hb1 L.out.size); replace RA := Lib.hid (RA.out.below hb1); replace RB := Lib.hid (RB.out.below hb1); replace HA := Lib.hid (HA.out.below hb1); replace HB := Lib.hid (HB.out.below hb1)
  clear a0 a1 a2 b0 b1 b2 hb1 hw1 nd1
  have a0 := RA.out.c0
  have a1 := RA.out.c1
  have a2 := RA.out.c2
  have b0 := RB.out.c0
  have b1 := RB.out.c1
  have b2 := RB.out.c2
  go_wp2_with fail
  refine (c_sameInts _ _ h.r h.r _ HA.out.r HB.out.r (by have := HN3.out _ rfl; omega)).mono ?_
  rintro e w2 ⟨hre, nd2, hw2⟩
  rw [decide_eq_true rfl] at hre
  subst hre
  have hb1 : Below w1.heap.size w1 w2 := by rw [hw2]; exact below_drewN (Below.refl _ _) nd2
  replace L := Lib.hid (bst L.out hb1 L.out.size); replace RA := Lib.hid (RA.out.below hb1); replace RB := Lib.hid (RB.out.below hb1); replace HA := Lib.hid (HA.out.below hb1); replace HB := Lib.hid (HB.out.below hb1)
  clear a0 a1 a2 b0 b1 b2 hb1 hw2 nd2
  have a0 := RA.out.c0
  have b0 := RB.out.c0
  go_wp2_with fail
  clear a0 b0
  go_loopw [32] (fun i wr => ∃ k : Nat, k ≤ nf ∧ i = .int .i64 (k : Int) ∧ Hid (Below w2.heap.size w2 wr)) (fun i _ => nf - (intOf i).toNat)
  case atStart => exact ⟨0, Nat.zero_le _, rfl, Below.refl _ _⟩
  case round =>
    obtain ⟨k, hk, rfl, hbw⟩ := hrel
    by_cases hlt : k < nf
    · have HA' := HA.out.below hbw.out; have HB' := HB.out.below hbw.out
      obtain ⟨fb, fo, rfl, hcf⟩ := HA'.f.at' (by omega)
      obtain ⟨u, quf, huf⟩ := hcf k hlt
      obtain ⟨fb', fo', rfl, hcf'⟩ := HB'.f.at' (by omega)
      obtain ⟨u', quf', huf'⟩ := hcf' k hlt
      obtain ⟨ua, uc, rfl⟩ := huf.shape
      obtain ⟨ua', uc', rfl⟩ := huf'.shape
      have RA1 := RA.out.below hbw.out; have RB1 := RB.out.below hbw.out
      have h4k := H4.out k
      have HU := Lib.hid huf; have HU' := Lib.hid huf'; have H4K := Lib.hid h4k
      have i1 : (k : Int) < (nf : Int) := by omega
      have i0 : (0 : Int) ≤ (k : Int) := by omega
      clear hcf hcf' huf huf' HA' HB' h4k
      generalize h.f.getD k [] = row at *
      generalize hul : row.length = ul at *
      have HUL := Lib.hid hul; clear hul
      have d0 : wr.drew.cell? ⟨w.heap.size, 0, none⟩ = some _ := RA1.c0
      have d1 : wr.drew.cell? ⟨w.heap.size + 1, 0, none⟩ = some _ := RB1.c0
      have d2 : wr.drew.cell? ⟨fb, fo + k, none⟩ = some _ := quf
      have d3 : wr.drew.cell? ⟨fb', fo' + k, none⟩ = some _ := quf'
      have BD := Lib.hid (below_drew (Below.refl wr.heap.size wr))
      have U1 := Lib.hid (HU.out.below BD.out); have U2 := Lib.hid (HU'.out.below BD.out)
      clear RA1 RB1 quf quf'
      go_wp2_with fail
      refine wp_region_held_drew (S := (fun w' => w'.cell? ⟨w.heap.size, 0, none⟩ = some (.slice (some ⟨fb, fo, none⟩) nf qa) ∧ w'.cell? ⟨w.heap.size + 1, 0, none⟩ = some (.slice (some ⟨fb', fo', none⟩) nf qa') ∧ w'.cell? ⟨fb, fo + k, none⟩ = some (.slice ua ul uc) ∧ w'.cell? ⟨fb', fo' + k, none⟩ = some (.slice ua' ul uc'))) (by kernel_rfl) (⟨d0, d1, d2, d3⟩) (fun hHeld => ?_)
      refine wpAnyH_take (i := 0) (v := ?va0x1) rfl (by kernel_rfl) (by kernel_rfl) (by kernel_rfl) (fun _ _ _ h => h) (Or.inl ⟨by rfl, ?hy0x1⟩) (by assumption) ?rest0x1
      case hy0x1 => (intro w hSw; (try dsimp only at hSw); go_simp; try with_reducible rfl)
      (try simp only [Act.put, List.getElem_toArray, List.getElem_cons_zero, List.setIfInBounds_toArray, List.set_cons_zero, List.set_cons_succ])
      refine wpAnyH_take (i := 1) (v := ?va1x2) rfl (by kernel_rfl) (by kernel_rfl) (by kernel_rfl) (fun _ _ _ h => h) (Or.inl ⟨by rfl, ?hy1x2⟩) (by assumption) ?rest1x2
      case hy1x2 => (intro w hSw; (try dsimp only at hSw); go_simp; try with_reducible rfl)
      (try simp only [Act.put, List.getElem_toArray, List.getElem_cons_zero, List.getElem_cons_succ, List.setIfInBounds_toArray, List.set_cons_zero, List.set_cons_succ])
      refine wpAnyH_take (i := 2) (v := ?va2x3) rfl (by kernel_rfl) (by kernel_rfl) (by kernel_rfl) (fun _ _ _ h => h) (Or.inl ⟨by rfl, ?hy2x3⟩) (by assumption) ?rest2x3
      case hy2x3 => (intro w hSw; (try dsimp only at hSw); go_simp; try with_reducible rfl)
      (try simp only [Act.put, List.getElem_toArray, List.getElem_cons_zero, List.getElem_cons_succ, List.setIfInBounds_toArray, List.set_cons_zero, List.set_cons_succ])
      refine wpAnyH_take (i := 3) (v := ?va3x4) rfl (by kernel_rfl) (by kernel_rfl) (by kernel_rfl) (fun _ _ _ h => h) (Or.inl ⟨by rfl, ?hy3x4⟩) (by assumption) ?rest3x4
      case hy3x4 => (intro w hSw; (try dsimp only at hSw); go_simp; try with_reducible rfl)
      (try simp only [Act.put, List.getElem_toArray, List.getElem_cons_zero, List.getElem_cons_succ, List.setIfInBounds_toArray, List.set_cons_zero, List.set_cons_succ])
      refine wpAnyH_take (i := 4) (v := ?va4x5) rfl (by kernel_rfl) (by kernel_rfl) (by kernel_rfl) (fun _ _ _ h => h) (Or.inl ⟨by rfl, ?hy4x5⟩) (by assumption) ?rest4x5
      case hy4x5 => (intro w hSw; (try dsimp only at hSw); go_simp; try with_reducible rfl)
      (try simp only [Act.put, List.getElem_toArray, List.getElem_cons_zero, List.getElem_cons_succ, List.setIfInBounds_toArray, List.set_cons_zero, List.set_cons_succ])
      refine wpAnyH_take (i := 5) (v := ?va5x6) rfl (by kernel_rfl) (by kernel_rfl) (by kernel_rfl) (fun _ _ _ h => h) (Or.inl ⟨by rfl, ?hy5x6⟩) (by assumption) ?rest5x6
      case hy5x6 => (intro w hSw; (try dsimp only at hSw); go_simp; try with_reducible rfl)
      (try simp only [Act.put, List.getElem_toArray, List.getElem_cons_zero, List.getElem_cons_succ, List.setIfInBounds_toArray, List.set_cons_zero, List.set_cons_succ])
      refine wpAnyH_take (i := 6) (v := ?va6x7) rfl (by kernel_rfl) (by kernel_rfl) (by kernel_rfl) (fun _ _ _ h => h) (Or.inl ⟨by rfl, ?hy6x7⟩) (by assumption) ?rest6x7
      case hy6x7 => (intro w hSw; (try dsimp only at hSw); go_simp; try with_reducible rfl)
      (try simp only [Act.put, List.getElem_toArray, List.getElem_cons_zero, List.getElem_cons_succ, List.setIfInBounds_toArray, List.set_cons_zero, List.set_cons_succ])
      refine wpAnyH_take (i := 7) (v := ?va7x8) rfl (by kernel_rfl) (by kernel_rfl) (by kernel_rfl) (fun _ _ _ h => h) (Or.inl ⟨by rfl, ?hy7x8⟩) (by assumption) ?rest7x8
      case hy7x8 => (intro w hSw; (try dsimp only at hSw); go_simp; try with_reducible rfl)
      (try simp only [Act.put, List.getElem_toArray, List.getElem_cons_zero, List.getElem_cons_succ, List.setIfInBounds_toArray, List.set_cons_zero, List.set_cons_succ])
      refine wpAnyH_take (i := 8) (v := ?va8x9) rfl (by kernel_rfl) (by kernel_rfl) (by kernel_rfl) (fun _ _ _ h => h) (Or.inl ⟨by rfl, ?hy8x9⟩) (by assumption) ?rest8x9
      case hy8x9 => (intro w hSw; (try dsimp only at hSw); go_simp; try with_reducible rfl)
      (try simp only [Act.put, List.getElem_toArray, List.getElem_cons_zero, List.getElem_cons_succ, List.setIfInBounds_toArray, List.set_cons_zero, List.set_cons_succ])
      refine wpAnyH_take (i := 9) (v := ?va9x10) rfl (by kernel_rfl) (by kernel_rfl) (by kernel_rfl) (fun _ _ _ h => h) (Or.inl ⟨by rfl, ?hy9x10⟩) (by assumption) ?rest9x10
      case hy9x10 => (intro w hSw; (try dsimp only at hSw); go_simp; try with_reducible rfl)
      (try simp only [Act.put, List.getElem_toArray, List.getElem_cons_zero, List.getElem_cons_succ, List.setIfInBounds_toArray, List.set_cons_zero, List.set_cons_succ])
      refine wpAnyH_ready (rs := [10]) (by kernel_rfl) (by simp) ?_
      refine AllReadyH.cons rfl (fun K hK => ?_) AllReadyH.nil
      go_simp
      refine (c_sameInts _ _ row row _ U1.out U2.out (by rw [HUL.out]; have := H4K.out; omega)).mono ?_
      rintro e w5 ⟨hre, nd, hw5⟩
      rw [decide_eq_true rfl] at hre
      subst hre
      have hb5 : Below wr.drew.heap.size wr.drew w5 := by rw [hw5]; exact below_drewN (Below.refl _ _) nd
      clear hw5 nd
      refine hK.out _ _ (⟨cellBelow hb5 (Nat.le_refl _) d0, cellBelow hb5 (Nat.le_refl _) d1, cellBelow hb5 (Nat.le_refl _) d2, cellBelow hb5 (Nat.le_refl _) d3⟩) (fun hHeld => ?_)
      clear hK K
      (try simp only [Act.put, List.getElem_toArray, List.getElem_cons_zero, List.getElem_cons_succ, List.setIfInBounds_toArray, List.set_cons_zero, List.set_cons_succ])
      refine wpAnyH_take (i := 11) (v := ?va11x11) rfl (by kernel_rfl) (by kernel_rfl) (by kernel_rfl) (fun _ _ _ h => h) (Or.inl ⟨by rfl, ?hy11x11⟩) (by assumption) ?rest11x11
      case hy11x11 => (intro w hSw; (try dsimp only at hSw); go_simp; try with_reducible rfl)
      (try simp only [Act.put, List.getElem_toArray, List.getElem_cons_zero, List.getElem_cons_succ, List.setIfInBounds_toArray, List.set_cons_zero, List.set_cons_succ])
      refine wpAnyH_done (by kernel_rfl) ?_ _
      have HB5 : Hid (Below w2.heap.size w2 w5) := bst (bst hbw.out BD.out hbw.out.size) hb5 (bst hbw.out BD.out hbw.out.size).size
      clear hHeld d0 d1 d2 d3 hb5
      go_wp2_with fail
      go_roundw
      case rel => exact ⟨k + 1, by omega, by go_num, HB5⟩
      case measure => simp [intOf]; omega
    · have i1 : ¬ (k : Int) < (nf : Int) := by omega
      go_wp2_with fail
      go_ret
      exact ⟨rfl, bst L.out hbw.out L.out.size⟩
end Go.Proofs.Ythanckifinfpiaa
