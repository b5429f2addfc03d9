/- laws.FnNamed: for every input the law answers true, and the input reads as it did. No condition. -/
import Derived.Test.YthanckifinfpiaaMb
import Derived.Test.YthanckifinfpiaaCs3
import Derived.Test.YthanckifinfpiaaMf
import Derived.Test.YthanckifinfpiaaHl5
import Derived.Test.YthanckifinfpiaaHn7
import Derived.Test.YthanckifinfpiaaHw8
import Derived.Test.YthanckifinfpiaaMa
import Derived.Test.YthanckifinfpiaaLift
namespace Go.Proofs.Ythanckifinfpiaa
open Go.RowKit Ph

theorem mem_of_getD {zs : List Int} {k : Nat} {x : Int} (h : k < zs.length) (e : zs.getD k 0 = x) : x ∈ zs := by
  rw [← e, List.getD, List.getElem?_eq_getElem h]; simp
theorem not_mem_all {zs : List Int} {x : Int} (h : ∀ i, i < zs.length → zs.getD i 0 ≠ x) : ¬ x ∈ zs := fun hm => by
  obtain ⟨i, hi, e⟩ := List.mem_iff_getElem.1 hm
  exact h i hi (by rw [List.getD, List.getElem?_eq_getElem hi]; simpa using e)

theorem own_ints22 (w : World) (B : Nat) (hB : B ≤ w.heap.size) : Own (w.alloc (.cells #[.int .i64 (-1), .int .i64 3] 3)) B (.slice (some ⟨w.heap.size, 0, none⟩) 2 2) [-1, 3] :=
  ⟨rfl, .inr ⟨w.heap.size, 2, _, rfl, hB, heap_alloc_new _ _, Nat.le_refl _, by decide, rfl, rfl⟩⟩
end Go.Proofs.Ythanckifinfpiaa
namespace Go.Proofs.Ythanckifinfpiaa
open Go.RowKit Ph

theorem dv_new {w : World} {v : Value} {zs : List Int} (h : BytesAt w v zs) : Dv (w.alloc (.cells #[v, .int .i64 0, .int .u64 0] 104)) w.heap.size 0 (w.alloc (.cells #[v, .int .i64 0, .int .u64 0] 104)) := Dv.start (cur_new h)
theorem dv_below {w X : World} {v : Value} {m : Nat} (h : Dv (w.alloc (.cells #[v, .int .i64 0, .int .u64 0] 104)) w.heap.size m X) : Below w.heap.size w X := below_of_cur h.2.1
theorem Own.stepC {X Y : World} {B c : Nat} {v : Value} {zs : List Int} (h : Own X B v zs) (hB : c < B) (hg : X.grownBy Y (some c)) : Own Y B v zs := Own.chg h (chgC hg) (fun g e => .inr (by have := (owns_lt h e).1; omega))
theorem OwnH.stepC {X Y : World} {B c hi : Nat} {a b cc : Value} {h : H} (k : OwnH X B hi a b cc h) (hB : c < B) (hg : X.grownBy Y (some c)) : OwnH Y B hi a b cc h := k.chg (chgC hg) (.inr (by omega))
theorem row_stepC {X Y : World} {c g : Nat} {cs : Array Value} (h : Row X g 27 cs) (hn : g ≠ c) (hg : X.grownBy Y (some c)) : Row Y g 27 cs := Row.chg h (chgC hg) (by omega)
end Go.Proofs.Ythanckifinfpiaa
namespace Go.Proofs.Ythanckifinfpiaa
open Go.RowKit Ph

set_option maxRecDepth 100000 in
set_option maxHeartbeats 3200000 in
theorem d_GoodHeap (v : Value) (zs : List Int) (w : World) (hby : BytesAt w v zs) : Calls Try.prog 71 #[v] w fun e w' => ∃ a b cc h hi, e = .returned (hv a b cc) ∧ Sh h ∧ OwnH w' w.heap.size hi a b cc h ∧ Below w.heap.size w w' := by
  have hb1 := below1 w (.cells (c3 (.slice none 0 0) (.slice none 0 0) (.slice none 0 0)) 27)
  have D0 := Lib.hid (dv_new (hby.below hb1))
  have hs1 : (w.alloc (.cells (c3 (.slice none 0 0) (.slice none 0 0) (.slice none 0 0)) 27)).heap.size = w.heap.size + 1 := World.size_alloc _ _
  have hsW : ((w.alloc (.cells (c3 (.slice none 0 0) (.slice none 0 0) (.slice none 0 0)) 27)).alloc (.cells #[v, .int .i64 0, .int .u64 0] 104)).heap.size = w.heap.size + 1 + 1 := by simp
  rw [hs1] at D0
  have R0 := Lib.hid (show zrow ((w.alloc (.cells (c3 (.slice none 0 0) (.slice none 0 0) (.slice none 0 0)) 27)).alloc (.cells #[v, .int .i64 0, .int .u64 0] 104)) w.heap.size from (Row.new w 27 (c3 (.slice none 0 0) (.slice none 0 0) (.slice none 0 0))).alloc (.cells #[v, .int .i64 0, .int .u64 0] 104))
  have HB1 := Lib.hid hb1
  have HS1 := Lib.hid hs1; have HSW := Lib.hid hsW
  have DB : Hid (∀ X m, Dv ((w.alloc (.cells (c3 (.slice none 0 0) (.slice none 0 0) (.slice none 0 0)) 27)).alloc (.cells #[v, .int .i64 0, .int .u64 0] 104)) (w.heap.size + 1) m X → Below w.heap.size w X) := fun X m q => HB1.out.trans ((dv_below (w := w.alloc (.cells (c3 (.slice none 0 0) (.slice none 0 0) (.slice none 0 0)) 27)) (v := v) (m := m) (X := X) (by rw [HS1.out]; exact q)).mono HB1.out.size)
  obtain ⟨_, _, va, vc, rfl, _⟩ := hby
  clear hb1 hs1 hsW
  go_enter Try.func71, Try.ntmps71
  go_wp2_with fail
  refine (c_heap (w.heap.size + 1) 0 _ D0.out.1 (by omega)).mono ?_
  rintro e w2 ⟨a, b, cc, h, rfl, hsh, hf1, ho2, hc2, hg2⟩
  obtain ⟨⟨pa, qa, rfl⟩, ⟨pb, qb, rfl⟩, ⟨pc, qc, rfl⟩⟩ := ho2.shapes
  rw [HSW.out] at ho2
  have SH := Lib.hid hsh
  have hf12 := hsh.n
  generalize h.f.length = nf at *
  generalize h.l.length = nl at *
  generalize h.r.length = nr at *
  have D2 := Lib.hid (D0.out.step hc2 hg2)
  have R2 := Lib.hid (show zrow w2 w.heap.size from row_stepC R0.out (by omega) hg2)
  have OH := Lib.hid ho2
  clear hsh ho2 hc2 hg2 D0 R0
  have ON := Lib.hid (OH.out.chg (chgRow w2 w.heap.size (c3 (.slice pa nf qa) (.slice pb nl qb) (.slice pc nr qc))) (.inr (by omega)))
  have BN := Lib.hid (below_setRow (g := w.heap.size) (DB.out _ _ D2.out) (Nat.le_refl _) (c3 (.slice pa nf qa) (.slice pb nl qb) (.slice pc nr qc)))
  go_wp2_with (refine wl_storeH rfl _ _ rfl w.heap.size (.slice pa nf qa) (.slice pb nl qb) (.slice pc nr qc) _ _ _ R2.out rfl rfl rfl rfl rfl ?_)
  refine bodyPost_ret (res_row Try.results71 (Row.put R2.out (c3 (.slice pa nf qa) (.slice pb nl qb) (.slice pc nr qc))) rfl Try.underlying27 rfl info_heap) rfl ⟨_, _, _, h, _, rfl, SH.out, ON.out.wide (by omega) (Nat.le_refl _), BN.out⟩
end Go.Proofs.Ythanckifinfpiaa
namespace Go.Proofs.Ythanckifinfpiaa
open Go.RowKit Ph

set_option maxRecDepth 100000 in
set_option maxHeartbeats 3200000 in
theorem d_CleanHeap (v : Value) (zs : List Int) (w : World) (hby : BytesAt w v zs) : Calls Try.prog 13 #[v] w fun e w' => ∃ a b cc h, e = .returned (hv a b cc) ∧ Sh h ∧ HeapAt w' a b cc h ∧ Below w.heap.size w w' := by
  have hb1 := below1 w (.cells (c3 (.slice none 0 0) (.slice none 0 0) (.slice none 0 0)) 27)
  have hs1 : (w.alloc (.cells (c3 (.slice none 0 0) (.slice none 0 0) (.slice none 0 0)) 27)).heap.size = w.heap.size + 1 := World.size_alloc _ _
  have HY := Lib.hid (hby.below hb1)
  have R0 := Lib.hid (show zrow (w.alloc (.cells (c3 (.slice none 0 0) (.slice none 0 0) (.slice none 0 0)) 27)) w.heap.size from Row.new w 27 (c3 (.slice none 0 0) (.slice none 0 0) (.slice none 0 0)))
  have HB1 := Lib.hid hb1; have HS1 := Lib.hid hs1
  obtain ⟨_, _, va, vc, rfl, _⟩ := hby
  clear hb1 hs1
  go_enter Try.func13, Try.ntmps13
  go_wp2_with fail
  refine (d_GoodHeap _ zs _ HY.out).mono ?_
  rintro e w2 ⟨a, b, cc, h, hi, rfl, hsh, ho2, hb2⟩
  obtain ⟨⟨pa, qa, rfl⟩, ⟨pb, qb, rfl⟩, ⟨pc, qc, rfl⟩⟩ := ho2.shapes
  rw [HS1.out] at ho2
  have SH := Lib.hid hsh
  generalize h.f.length = nf at *
  generalize h.l.length = nl at *
  generalize h.r.length = nr at *
  have R2 := Lib.hid (show zrow w2 w.heap.size from Row.below R0.out hb2)
  have ON := Lib.hid (ho2.chg (chgRow w2 w.heap.size (c3 (.slice pa nf qa) (.slice pb nl qb) (.slice pc nr qc))) (.inr (Nat.le_refl _)))
  have BN := Lib.hid (below_setRow (g := w.heap.size) (bst HB1.out hb2 HB1.out.size) (Nat.le_refl _) (c3 (.slice pa nf qa) (.slice pb nl qb) (.slice pc nr qc)))
  clear hsh ho2 hb2
  go_wp2_with (refine wl_storeH rfl _ _ rfl w.heap.size (.slice pa nf qa) (.slice pb nl qb) (.slice pc nr qc) _ _ _ R2.out rfl rfl rfl rfl rfl ?_)
  refine bodyPost_ret (res_row Try.results13 (Row.put R2.out (c3 (.slice pa nf qa) (.slice pb nl qb) (.slice pc nr qc))) rfl Try.underlying27 rfl info_heap) rfl ⟨_, _, _, h, rfl, SH.out, ON.out.reads, BN.out⟩
set_option maxRecDepth 100000 in
set_option maxHeartbeats 3200000 in
theorem d_NewThing (v : Value) (zs : List Int) (w : World) (hby : BytesAt w v zs) : Calls Try.prog 30 #[v] w fun e w' => ∃ a b cc h k, e = .returned (.tuple #[hv a b cc, .int .i64 k]) ∧ Sh h ∧ (-1 ≤ k ∧ k ≤ 20) ∧ HeapAt w' a b cc h ∧ Below w.heap.size w w' := by
  have hb1 := below1 w (.cells (c3 (.slice none 0 0) (.slice none 0 0) (.slice none 0 0)) 27)
  have D0 := Lib.hid (dv_new (hby.below hb1))
  have hs1 : (w.alloc (.cells (c3 (.slice none 0 0) (.slice none 0 0) (.slice none 0 0)) 27)).heap.size = w.heap.size + 1 := World.size_alloc _ _
  have hsW : ((w.alloc (.cells (c3 (.slice none 0 0) (.slice none 0 0) (.slice none 0 0)) 27)).alloc (.cells #[v, .int .i64 0, .int .u64 0] 104)).heap.size = w.heap.size + 1 + 1 := by simp
  rw [hs1] at D0
  have R0 := Lib.hid (show zrow ((w.alloc (.cells (c3 (.slice none 0 0) (.slice none 0 0) (.slice none 0 0)) 27)).alloc (.cells #[v, .int .i64 0, .int .u64 0] 104)) w.heap.size from (Row.new w 27 (c3 (.slice none 0 0) (.slice none 0 0) (.slice none 0 0))).alloc (.cells #[v, .int .i64 0, .int .u64 0] 104))
  have HB1 := Lib.hid hb1
  have HS1 := Lib.hid hs1; have HSW := Lib.hid hsW
  have DB : Hid (∀ X m, Dv ((w.alloc (.cells (c3 (.slice none 0 0) (.slice none 0 0) (.slice none 0 0)) 27)).alloc (.cells #[v, .int .i64 0, .int .u64 0] 104)) (w.heap.size + 1) m X → Below w.heap.size w X) := fun X m q => HB1.out.trans ((dv_below (w := w.alloc (.cells (c3 (.slice none 0 0) (.slice none 0 0) (.slice none 0 0)) 27)) (v := v) (m := m) (X := X) (by rw [HS1.out]; exact q)).mono HB1.out.size)
  obtain ⟨_, _, va, vc, rfl, _⟩ := hby
  clear hb1 hs1 hsW
  go_enter Try.func30, Try.ntmps30
  go_wp2_with fail
  refine (c_heap (w.heap.size + 1) 0 _ D0.out.1 (by omega)).mono ?_
  rintro e w2 ⟨a, b, cc, h, rfl, hsh, hf1, ho2, hc2, hg2⟩
  obtain ⟨⟨pa, qa, rfl⟩, ⟨pb, qb, rfl⟩, ⟨pc, qc, rfl⟩⟩ := ho2.shapes
  rw [HSW.out] at ho2
  have SH := Lib.hid hsh
  have hf12 := hsh.n
  generalize h.f.length = nf at *
  generalize h.l.length = nl at *
  generalize h.r.length = nr at *
  have D2 := Lib.hid (D0.out.step hc2 hg2)
  have R2 := Lib.hid (show zrow w2 w.heap.size from row_stepC R0.out (by omega) hg2)
  have OH := Lib.hid ho2
  clear hsh ho2 hc2 hg2 D0 R0
  go_wp2_with fail
  refine (c_pick (w.heap.size + 1) (0 + 200) 6 _ D2.out.1 (by omega) (by omega) (by omega)).mono ?_
  rintro e w3 ⟨x, hx, rfl, hc3, hg3⟩
  have D3 := Lib.hid (D2.out.step hc3 hg3)
  have R3 := Lib.hid (show zrow w3 w.heap.size from row_stepC R2.out (by omega) hg3)
  have O3 := OH.out.stepC (by omega) hg3
  have ON := Lib.hid (O3.chg (chgRow w3 w.heap.size (c3 (.slice pa nf qa) (.slice pb nl qb) (.slice pc nr qc))) (.inr (by omega)))
  have BN := Lib.hid (below_setRow (g := w.heap.size) (DB.out _ _ D3.out) (Nat.le_refl _) (c3 (.slice pa nf qa) (.slice pb nl qb) (.slice pc nr qc)))
  have hwx : IntKind.i64.wrap (x - 1) = x - 1 := IntWalk.i64_in _ (by omega)
  clear hc3 hg3 O3
  go_wp2_with (refine wl_storeH rfl _ _ rfl w.heap.size (.slice pa nf qa) (.slice pb nl qb) (.slice pc nr qc) _ _ _ R3.out rfl rfl rfl rfl rfl ?_)
  refine bodyPost_ret (res_row_slot Try.results30 (Row.put R3.out (c3 (.slice pa nf qa) (.slice pb nl qb) (.slice pc nr qc))) rfl rfl Try.underlying27 rfl info_heap) rfl ⟨_, _, _, h, x - 1, rfl, SH.out, by omega, ON.out.reads, BN.out⟩
set_option maxRecDepth 100000 in
set_option maxHeartbeats 3200000 in
theorem d_SetRoot (v : Value) (zs : List Int) (w : World) (hby : BytesAt w v zs) : Calls Try.prog 33 #[v] w fun e w' => ∃ a b cc h k t, e = .returned (.tuple #[hv a b cc, .int .i64 k, .int .i64 t]) ∧ Sh h ∧ HeapAt w' a b cc h ∧ Below w.heap.size w w' := by
  have hb1 := below1 w (.cells (c3 (.slice none 0 0) (.slice none 0 0) (.slice none 0 0)) 27)
  have D0 := Lib.hid (dv_new (hby.below hb1))
  have hs1 : (w.alloc (.cells (c3 (.slice none 0 0) (.slice none 0 0) (.slice none 0 0)) 27)).heap.size = w.heap.size + 1 := World.size_alloc _ _
  have hsW : ((w.alloc (.cells (c3 (.slice none 0 0) (.slice none 0 0) (.slice none 0 0)) 27)).alloc (.cells #[v, .int .i64 0, .int .u64 0] 104)).heap.size = w.heap.size + 1 + 1 := by simp
  rw [hs1] at D0
  have R0 := Lib.hid (show zrow ((w.alloc (.cells (c3 (.slice none 0 0) (.slice none 0 0) (.slice none 0 0)) 27)).alloc (.cells #[v, .int .i64 0, .int .u64 0] 104)) w.heap.size from (Row.new w 27 (c3 (.slice none 0 0) (.slice none 0 0) (.slice none 0 0))).alloc (.cells #[v, .int .i64 0, .int .u64 0] 104))
  have HB1 := Lib.hid hb1
  have HS1 := Lib.hid hs1; have HSW := Lib.hid hsW
  have DB : Hid (∀ X m, Dv ((w.alloc (.cells (c3 (.slice none 0 0) (.slice none 0 0) (.slice none 0 0)) 27)).alloc (.cells #[v, .int .i64 0, .int .u64 0] 104)) (w.heap.size + 1) m X → Below w.heap.size w X) := fun X m q => HB1.out.trans ((dv_below (w := w.alloc (.cells (c3 (.slice none 0 0) (.slice none 0 0) (.slice none 0 0)) 27)) (v := v) (m := m) (X := X) (by rw [HS1.out]; exact q)).mono HB1.out.size)
  obtain ⟨_, _, va, vc, rfl, _⟩ := hby
  clear hb1 hs1 hsW
  go_enter Try.func33, Try.ntmps33
  go_wp2_with fail
  refine (c_heap (w.heap.size + 1) 0 _ D0.out.1 (by omega)).mono ?_
  rintro e w2 ⟨a, b, cc, h, rfl, hsh, hf1, ho2, hc2, hg2⟩
  obtain ⟨⟨pa, qa, rfl⟩, ⟨pb, qb, rfl⟩, ⟨pc, qc, rfl⟩⟩ := ho2.shapes
  rw [HSW.out] at ho2
  have SH := Lib.hid hsh
  have hf12 := hsh.n
  generalize h.f.length = nf at *
  generalize h.l.length = nl at *
  generalize h.r.length = nr at *
  have D2 := Lib.hid (D0.out.step hc2 hg2)
  have R2 := Lib.hid (show zrow w2 w.heap.size from row_stepC R0.out (by omega) hg2)
  have OH := Lib.hid ho2
  clear hsh ho2 hc2 hg2 D0 R0
  have hba := below1 w2 (.cells (c3 (.slice pa nf qa) (.slice pb nl qb) (.slice pc nr qc)) 27)
  have hs2 := D2.out.size
  rw [HSW.out] at hs2
  have DA := Lib.hid (D2.out.low (hba.mono D2.out.size))
  have RA := Lib.hid (show zrow _ _ from Row.alloc R2.out (.cells (c3 (.slice pa nf qa) (.slice pb nl qb) (.slice pc nr qc)) 27))
  have VA := Lib.hid (show RowH _ _ _ _ _ from Row.new w2 27 (c3 (.slice pa nf qa) (.slice pb nl qb) (.slice pc nr qc)))
  have OA := Lib.hid (OH.out.below hba)
  have LV : Hid (w.heap.size + 1 + 1 ≤ w2.heap.size) := hs2
  have HGA : Hid (w2.heap.size < (w2.alloc (.cells (c3 (.slice pa nf qa) (.slice pb nl qb) (.slice pc nr qc)) 27)).heap.size) := by unfold Hid; simp
  clear hba hs2 D2 R2 OH
  go_wp2_with fail
  generalize w2.heap.size = gv at *
  generalize w2.alloc (.cells (c3 (.slice pa nf qa) (.slice pb nl qb) (.slice pc nr qc)) 27) = w3 at *
  have DD := Lib.hid (DA.out.low (below_drew (Below.refl _ w3)))
  have RD : Hid (zrow w3.drew w.heap.size) := RA.out
  have VD : Hid (RowH w3.drew gv (.slice pa nf qa) (.slice pb nl qb) (.slice pc nr qc)) := VA.out
  have OD := Lib.hid (OA.out.below (below_drew (Below.refl w3.heap.size w3)))
  have d0 := VD.out.c0
  have d1 := VD.out.c1
  have d2 := VD.out.c2
  have hwn2 : IntKind.i64.wrap ((nf : Int) + 2) = (nf : Int) + 2 := IntWalk.i64_in _ (by omega)
  refine wp_region_held_drew (S := (fun w' => w'.cell? ⟨gv, 0, none⟩ = some (.slice pa nf qa) ∧ w'.cell? ⟨gv, 1, none⟩ = some (.slice pb nl qb) ∧ w'.cell? ⟨gv, 2, none⟩ = some (.slice pc nr qc))) (by kernel_rfl) (⟨d0, d1, d2⟩) (fun hHeld => ?_)
  refine wpAnyH_take (i := 0) (v := ?va0x1) rfl (by kernel_rfl) (by kernel_rfl) (by kernel_rfl) (fun _ _ _ h => h) (Or.inl ⟨by rfl, ?hy0x1⟩) (by assumption) ?rest0x1
  case hy0x1 => (intro w hSw; (try dsimp only at hSw); go_simp; try with_reducible rfl)
  (try simp only [Act.put, List.getElem_toArray, List.getElem_cons_zero, List.setIfInBounds_toArray, List.set_cons_zero, List.set_cons_succ])
  refine wpAnyH_take (i := 1) (v := ?va1x2) rfl (by kernel_rfl) (by kernel_rfl) (by kernel_rfl) (fun _ _ _ h => h) (Or.inl ⟨by rfl, ?hy1x2⟩) (by assumption) ?rest1x2
  case hy1x2 => (intro w hSw; (try dsimp only at hSw); go_simp; try with_reducible rfl)
  (try simp only [Act.put, List.getElem_toArray, List.getElem_cons_zero, List.getElem_cons_succ, List.setIfInBounds_toArray, List.set_cons_zero, List.set_cons_succ])
  refine wpAnyH_take (i := 4) (v := ?va4x3) rfl (by kernel_rfl) (by kernel_rfl) (by kernel_rfl) (fun _ _ _ h => h) (Or.inl ⟨by rfl, ?hy4x3⟩) (by assumption) ?rest4x3
  case hy4x3 => (intro w hSw; (try dsimp only at hSw); go_simp; try with_reducible rfl)
  (try simp only [Act.put, List.getElem_toArray, List.getElem_cons_zero, List.getElem_cons_succ, List.setIfInBounds_toArray, List.set_cons_zero, List.set_cons_succ])
  refine wpAnyH_take (i := 5) (v := ?va5x4) rfl (by kernel_rfl) (by kernel_rfl) (by kernel_rfl) (fun _ _ _ h => h) (Or.inl ⟨by rfl, ?hy5x4⟩) (by assumption) ?rest5x4
  case hy5x4 => (intro w hSw; (try dsimp only at hSw); go_simp; try with_reducible rfl)
  (try simp only [Act.put, List.getElem_toArray, List.getElem_cons_zero, List.getElem_cons_succ, List.setIfInBounds_toArray, List.set_cons_zero, List.set_cons_succ])
  refine wpAnyH_take (i := 6) (v := ?va6x5) rfl (by kernel_rfl) (by kernel_rfl) (by kernel_rfl) (fun _ _ _ h => h) (Or.inl ⟨by rfl, ?hy6x5⟩) (by assumption) ?rest6x5
  case hy6x5 => (intro w hSw; (try dsimp only at hSw); go_simp; try with_reducible rfl)
  (try simp only [Act.put, List.getElem_toArray, List.getElem_cons_zero, List.getElem_cons_succ, List.setIfInBounds_toArray, List.set_cons_zero, List.set_cons_succ])
  refine wpAnyH_take (i := 7) (v := ?va7x6) rfl (by kernel_rfl) (by kernel_rfl) (by kernel_rfl) (fun _ _ _ h => h) (Or.inl ⟨by rfl, ?hy7x6⟩) (by assumption) ?rest7x6
  case hy7x6 => (intro w hSw; (try dsimp only at hSw); go_simp; try with_reducible rfl)
  (try simp only [Act.put, List.getElem_toArray, List.getElem_cons_zero, List.getElem_cons_succ, List.setIfInBounds_toArray, List.set_cons_zero, List.set_cons_succ])
  refine wpAnyH_take (i := 8) (v := ?va8x7) rfl (by kernel_rfl) (by kernel_rfl) (by kernel_rfl) (fun _ _ _ h => h) (Or.inl ⟨by rfl, ?hy8x7⟩) (by assumption) ?rest8x7
  case hy8x7 => (intro w hSw; (try dsimp only at hSw); go_simp; try with_reducible rfl)
  (try simp only [Act.put, List.getElem_toArray, List.getElem_cons_zero, List.getElem_cons_succ, List.setIfInBounds_toArray, List.set_cons_zero, List.set_cons_succ])
  generalize w3.drew = wd at *
  clear d0 d1 d2
  refine wpAnyH_ready (rs := [2]) (by kernel_rfl) (by simp) ?_
  refine AllReadyH.cons rfl (fun K hK => ?_) AllReadyH.nil
  go_simp
  refine (c_pick (w.heap.size + 1) (0 + 200) (4) _ DD.out.1 (by omega) (by omega) (by omega)).mono ?_
  rintro e wp0 ⟨x1, hx1, rfl, hc5, hg5⟩
  have Dp0 := Lib.hid (DD.out.step hc5 hg5)
  have Rp0 := Lib.hid (show zrow _ _ from row_stepC RD.out (by omega) hg5)
  have Vp0 := Lib.hid (show RowH _ _ _ _ _ from row_stepC VD.out (by have := LV.out; omega) hg5)
  have Op0 := Lib.hid (OD.out.stepC (by omega) hg5)
  clear hc5 hg5
  refine hK.out _ _ ⟨Vp0.out.c0, Vp0.out.c1, Vp0.out.c2⟩ (fun hHeld => ?_)
  clear hK K
  (try simp only [Act.put, List.getElem_toArray, List.getElem_cons_zero, List.getElem_cons_succ, List.setIfInBounds_toArray, List.set_cons_zero, List.set_cons_succ])
  have hwx1 : IntKind.i64.wrap (x1 - 1) = x1 - 1 := IntWalk.i64_in _ (by omega)
  refine wpAnyH_take (i := 3) (v := ?va3x8) rfl (by kernel_rfl) (by kernel_rfl) (by kernel_rfl) (fun _ _ _ h => h) (Or.inl ⟨by rfl, ?hy3x8⟩) (by assumption) ?rest3x8
  case hy3x8 => (intro w hSw; (try dsimp only at hSw); go_simp; try with_reducible rfl)
  (try simp only [Act.put, List.getElem_toArray, List.getElem_cons_zero, List.getElem_cons_succ, List.setIfInBounds_toArray, List.set_cons_zero, List.set_cons_succ])
  refine wpAnyH_ready (rs := [9]) (by kernel_rfl) (by simp) ?_
  refine AllReadyH.cons rfl (fun K hK => ?_) AllReadyH.nil
  go_simp
  refine (c_pick (w.heap.size + 1) (0 + 200 + 2) ((nf : Int) + 2) _ Dp0.out.1 (by omega) (by omega) (by omega)).mono ?_
  rintro e wp1 ⟨x2, hx2, rfl, hc5, hg5⟩
  have Dp1 := Lib.hid (Dp0.out.step hc5 hg5)
  have Rp1 := Lib.hid (show zrow _ _ from row_stepC Rp0.out (by omega) hg5)
  have Vp1 := Lib.hid (show RowH _ _ _ _ _ from row_stepC Vp0.out (by have := LV.out; omega) hg5)
  have Op1 := Lib.hid (Op0.out.stepC (by omega) hg5)
  clear hc5 hg5
  refine hK.out _ _ ⟨Vp1.out.c0, Vp1.out.c1, Vp1.out.c2⟩ (fun hHeld => ?_)
  clear hK K
  (try simp only [Act.put, List.getElem_toArray, List.getElem_cons_zero, List.getElem_cons_succ, List.setIfInBounds_toArray, List.set_cons_zero, List.set_cons_succ])
  have hwx2 : IntKind.i64.wrap (x2 - 1) = x2 - 1 := IntWalk.i64_in _ (by omega)
  refine wpAnyH_take (i := 10) (v := ?va10x9) rfl (by kernel_rfl) (by kernel_rfl) (by kernel_rfl) (fun _ _ _ h => h) (Or.inl ⟨by rfl, ?hy10x9⟩) (by assumption) ?rest10x9
  case hy10x9 => (intro w hSw; (try dsimp only at hSw); go_simp; try with_reducible rfl)
  (try simp only [Act.put, List.getElem_toArray, List.getElem_cons_zero, List.getElem_cons_succ, List.setIfInBounds_toArray, List.set_cons_zero, List.set_cons_succ])
  refine wpAnyH_ready (rs := [11]) (by kernel_rfl) (by simp) ?_
  refine AllReadyH.cons rfl (fun K hK => ?_) AllReadyH.nil
  have hch := chgRow wp1 w.heap.size (c3 (.slice pa nf qa) (.slice pb nl qb) (.slice pc nr qc))
  have VN := Lib.hid (show RowH _ _ _ _ _ from Row.chg Vp1.out hch (.inr (by have := LV.out; omega)))
  have ON := Lib.hid (Op1.out.chg hch (.inr (by omega)))
  have BN := Lib.hid (below_setRow (g := w.heap.size) (DB.out _ _ Dp1.out) (Nat.le_refl _) (c3 (.slice pa nf qa) (.slice pb nl qb) (.slice pc nr qc)))
  clear hch
  refine wp_store_row 27 _ _ rfl w.heap.size (c3 (.slice pa nf qa) (.slice pb nl qb) (.slice pc nr qc)) rfl rfl 27 _ Rp1.out info_heap rfl (by simp [Value.oneCell']) ?_
  refine hK.out _ _ ⟨VN.out.c0, VN.out.c1, VN.out.c2⟩ (fun hHeld => ?_)
  clear hK K
  (try simp only [Act.put, List.getElem_toArray, List.getElem_cons_zero, List.getElem_cons_succ])
  refine wpAnyH_take (i := 12) (v := ?va12x10) rfl (by kernel_rfl) (by kernel_rfl) (by kernel_rfl) (fun _ _ _ h => h) (Or.inl ⟨by rfl, ?hy12x10⟩) (by assumption) ?rest12x10
  case hy12x10 => (intro w hSw; (try dsimp only at hSw); go_simp; try with_reducible rfl)
  (try simp only [Act.put, List.getElem_toArray, List.getElem_cons_zero, List.getElem_cons_succ, List.setIfInBounds_toArray, List.set_cons_zero, List.set_cons_succ])
  refine wpAnyH_take (i := 13) (v := ?va13x11) rfl (by kernel_rfl) (by kernel_rfl) (by kernel_rfl) (fun _ _ _ h => h) (Or.inl ⟨by rfl, ?hy13x11⟩) (by assumption) ?rest13x11
  case hy13x11 => (intro w hSw; (try dsimp only at hSw); go_simp; try with_reducible rfl)
  (try simp only [Act.put, List.getElem_toArray, List.getElem_cons_zero, List.getElem_cons_succ, List.setIfInBounds_toArray, List.set_cons_zero, List.set_cons_succ])
  refine wpAnyH_done (by kernel_rfl) ?_ _
  clear hHeld
  go_wp2_with fail
  refine bodyPost_ret (res_row_slot2 Try.results33 (Row.put Rp1.out (c3 (.slice pa nf qa) (.slice pb nl qb) (.slice pc nr qc))) rfl rfl rfl Try.underlying27 rfl info_heap) rfl ⟨_, _, _, h, x1 - 1, x2 - 1, rfl, SH.out, ON.out.reads, BN.out⟩
theorem res_row_slot3 {P : Program} {fn : Func} {p q r s : Tmp} {ty : TypeId} (h : fn.results = #[.cell p ty, .tmp q, .tmp r, .tmp s]) {tmps : Array Value} {w : World} {g : Nat} {t : TypeId} {cs : Array Value} {d : TypeDesc} {v v' v'' : Value} (hg : Row w g t cs)
    (hp : tmps.getD p undef = .pointer (some ⟨g, 0, none⟩)) (hq : tmps.getD q undef = v) (hr : tmps.getD r undef = v') (hs : tmps.getD s undef = v'') (hu : P.underlying ty = some d) (hd : (match d with | .struct _ | .array _ _ => true | _ => false) = true) (hi : (P.info? ty).map (·.size) = some cs.size) :
    (results fn tmps).run P w = .ok (.tuple #[.agg cs, v, v', v'']) w := by
  have hp' : tmps[p]?.getD undef = .pointer (some ⟨g, 0, none⟩) := by simpa using hp
  have hq' : tmps[q]?.getD undef = v := by simpa using hq
  have hr' : tmps[r]?.getD undef = v' := by simpa using hr
  have hs' : tmps[s]?.getD undef = v'' := by simpa using hs
  simp [results, h, hp', hq', hr', hs', asAddr, run_loadVar_row w g t ty cs (0, 0) d hg hu hd hi]
set_option maxRecDepth 100000 in
set_option maxHeartbeats 3200000 in
theorem d_SetField (v : Value) (zs : List Int) (w : World) (hby : BytesAt w v zs) : Calls Try.prog 27 #[v] w fun e w' => ∃ a b cc h t f z, e = .returned (.tuple #[hv a b cc, .int .i64 t, .int .i64 f, .int .i64 z]) ∧ Sh h ∧ HeapAt w' a b cc h ∧ Below w.heap.size w w' := by
  have hb1 := below1 w (.cells (c3 (.slice none 0 0) (.slice none 0 0) (.slice none 0 0)) 27)
  have D0 := Lib.hid (dv_new (hby.below hb1))
  have hs1 : (w.alloc (.cells (c3 (.slice none 0 0) (.slice none 0 0) (.slice none 0 0)) 27)).heap.size = w.heap.size + 1 := World.size_alloc _ _
  have hsW : ((w.alloc (.cells (c3 (.slice none 0 0) (.slice none 0 0) (.slice none 0 0)) 27)).alloc (.cells #[v, .int .i64 0, .int .u64 0] 104)).heap.size = w.heap.size + 1 + 1 := by simp
  rw [hs1] at D0
  have R0 := Lib.hid (show zrow ((w.alloc (.cells (c3 (.slice none 0 0) (.slice none 0 0) (.slice none 0 0)) 27)).alloc (.cells #[v, .int .i64 0, .int .u64 0] 104)) w.heap.size from (Row.new w 27 (c3 (.slice none 0 0) (.slice none 0 0) (.slice none 0 0))).alloc (.cells #[v, .int .i64 0, .int .u64 0] 104))
  have HB1 := Lib.hid hb1
  have HS1 := Lib.hid hs1; have HSW := Lib.hid hsW
  have DB : Hid (∀ X m, Dv ((w.alloc (.cells (c3 (.slice none 0 0) (.slice none 0 0) (.slice none 0 0)) 27)).alloc (.cells #[v, .int .i64 0, .int .u64 0] 104)) (w.heap.size + 1) m X → Below w.heap.size w X) := fun X m q => HB1.out.trans ((dv_below (w := w.alloc (.cells (c3 (.slice none 0 0) (.slice none 0 0) (.slice none 0 0)) 27)) (v := v) (m := m) (X := X) (by rw [HS1.out]; exact q)).mono HB1.out.size)
  obtain ⟨_, _, va, vc, rfl, _⟩ := hby
  clear hb1 hs1 hsW
  go_enter Try.func27, Try.ntmps27
  go_wp2_with fail
  refine (c_heap (w.heap.size + 1) 0 _ D0.out.1 (by omega)).mono ?_
  rintro e w2 ⟨a, b, cc, h, rfl, hsh, hf1, ho2, hc2, hg2⟩
  obtain ⟨⟨pa, qa, rfl⟩, ⟨pb, qb, rfl⟩, ⟨pc, qc, rfl⟩⟩ := ho2.shapes
  rw [HSW.out] at ho2
  have SH := Lib.hid hsh
  have hf12 := hsh.n
  generalize h.f.length = nf at *
  generalize h.l.length = nl at *
  generalize h.r.length = nr at *
  have D2 := Lib.hid (D0.out.step hc2 hg2)
  have R2 := Lib.hid (show zrow w2 w.heap.size from row_stepC R0.out (by omega) hg2)
  have OH := Lib.hid ho2
  clear hsh ho2 hc2 hg2 D0 R0
  have hba := below1 w2 (.cells (c3 (.slice pa nf qa) (.slice pb nl qb) (.slice pc nr qc)) 27)
  have hs2 := D2.out.size
  rw [HSW.out] at hs2
  have DA := Lib.hid (D2.out.low (hba.mono D2.out.size))
  have RA := Lib.hid (show zrow _ _ from Row.alloc R2.out (.cells (c3 (.slice pa nf qa) (.slice pb nl qb) (.slice pc nr qc)) 27))
  have VA := Lib.hid (show RowH _ _ _ _ _ from Row.new w2 27 (c3 (.slice pa nf qa) (.slice pb nl qb) (.slice pc nr qc)))
  have OA := Lib.hid (OH.out.below hba)
  have LV : Hid (w.heap.size + 1 + 1 ≤ w2.heap.size) := hs2
  have HGA : Hid (w2.heap.size < (w2.alloc (.cells (c3 (.slice pa nf qa) (.slice pb nl qb) (.slice pc nr qc)) 27)).heap.size) := by unfold Hid; simp
  clear hba hs2 D2 R2 OH
  go_wp2_with fail
  generalize w2.heap.size = gv at *
  generalize w2.alloc (.cells (c3 (.slice pa nf qa) (.slice pb nl qb) (.slice pc nr qc)) 27) = w3 at *
  have DD := Lib.hid (DA.out.low (below_drew (Below.refl _ w3)))
  have RD : Hid (zrow w3.drew w.heap.size) := RA.out
  have VD : Hid (RowH w3.drew gv (.slice pa nf qa) (.slice pb nl qb) (.slice pc nr qc)) := VA.out
  have OD := Lib.hid (OA.out.below (below_drew (Below.refl w3.heap.size w3)))
  have d0 := VD.out.c0
  have d1 := VD.out.c1
  have d2 := VD.out.c2
  have hwn1 : IntKind.i64.wrap ((nf : Int) + 1) = (nf : Int) + 1 := IntWalk.i64_in _ (by omega)
  have hwn2 : IntKind.i64.wrap ((nf : Int) + 2) = (nf : Int) + 2 := IntWalk.i64_in _ (by omega)
  refine wp_region_held_drew (S := (fun w' => w'.cell? ⟨gv, 0, none⟩ = some (.slice pa nf qa) ∧ w'.cell? ⟨gv, 1, none⟩ = some (.slice pb nl qb) ∧ w'.cell? ⟨gv, 2, none⟩ = some (.slice pc nr qc))) (by kernel_rfl) (⟨d0, d1, d2⟩) (fun hHeld => ?_)
  refine wpAnyH_take (i := 0) (v := ?va0x12) rfl (by kernel_rfl) (by kernel_rfl) (by kernel_rfl) (fun _ _ _ h => h) (Or.inl ⟨by rfl, ?hy0x12⟩) (by assumption) ?rest0x12
  case hy0x12 => (intro w hSw; (try dsimp only at hSw); go_simp; try with_reducible rfl)
  (try simp only [Act.put, List.getElem_toArray, List.getElem_cons_zero, List.setIfInBounds_toArray, List.set_cons_zero, List.set_cons_succ])
  refine wpAnyH_take (i := 1) (v := ?va1x13) rfl (by kernel_rfl) (by kernel_rfl) (by kernel_rfl) (fun _ _ _ h => h) (Or.inl ⟨by rfl, ?hy1x13⟩) (by assumption) ?rest1x13
  case hy1x13 => (intro w hSw; (try dsimp only at hSw); go_simp; try with_reducible rfl)
  (try simp only [Act.put, List.getElem_toArray, List.getElem_cons_zero, List.getElem_cons_succ, List.setIfInBounds_toArray, List.set_cons_zero, List.set_cons_succ])
  refine wpAnyH_take (i := 2) (v := ?va2x14) rfl (by kernel_rfl) (by kernel_rfl) (by kernel_rfl) (fun _ _ _ h => h) (Or.inl ⟨by rfl, ?hy2x14⟩) (by assumption) ?rest2x14
  case hy2x14 => (intro w hSw; (try dsimp only at hSw); go_simp; try with_reducible rfl)
  (try simp only [Act.put, List.getElem_toArray, List.getElem_cons_zero, List.getElem_cons_succ, List.setIfInBounds_toArray, List.set_cons_zero, List.set_cons_succ])
  refine wpAnyH_take (i := 3) (v := ?va3x15) rfl (by kernel_rfl) (by kernel_rfl) (by kernel_rfl) (fun _ _ _ h => h) (Or.inl ⟨by rfl, ?hy3x15⟩) (by assumption) ?rest3x15
  case hy3x15 => (intro w hSw; (try dsimp only at hSw); go_simp; try with_reducible rfl)
  (try simp only [Act.put, List.getElem_toArray, List.getElem_cons_zero, List.getElem_cons_succ, List.setIfInBounds_toArray, List.set_cons_zero, List.set_cons_succ])
  refine wpAnyH_take (i := 4) (v := ?va4x16) rfl (by kernel_rfl) (by kernel_rfl) (by kernel_rfl) (fun _ _ _ h => h) (Or.inl ⟨by rfl, ?hy4x16⟩) (by assumption) ?rest4x16
  case hy4x16 => (intro w hSw; (try dsimp only at hSw); go_simp; try with_reducible rfl)
  (try simp only [Act.put, List.getElem_toArray, List.getElem_cons_zero, List.getElem_cons_succ, List.setIfInBounds_toArray, List.set_cons_zero, List.set_cons_succ])
  refine wpAnyH_take (i := 5) (v := ?va5x17) rfl (by kernel_rfl) (by kernel_rfl) (by kernel_rfl) (fun _ _ _ h => h) (Or.inl ⟨by rfl, ?hy5x17⟩) (by assumption) ?rest5x17
  case hy5x17 => (intro w hSw; (try dsimp only at hSw); go_simp; try with_reducible rfl)
  (try simp only [Act.put, List.getElem_toArray, List.getElem_cons_zero, List.getElem_cons_succ, List.setIfInBounds_toArray, List.set_cons_zero, List.set_cons_succ])
  refine wpAnyH_take (i := 7) (v := ?va7x18) rfl (by kernel_rfl) (by kernel_rfl) (by kernel_rfl) (fun _ _ _ h => h) (Or.inl ⟨by rfl, ?hy7x18⟩) (by assumption) ?rest7x18
  case hy7x18 => (intro w hSw; (try dsimp only at hSw); go_simp; try with_reducible rfl)
  (try simp only [Act.put, List.getElem_toArray, List.getElem_cons_zero, List.getElem_cons_succ, List.setIfInBounds_toArray, List.set_cons_zero, List.set_cons_succ])
  refine wpAnyH_take (i := 11) (v := ?va11x19) rfl (by kernel_rfl) (by kernel_rfl) (by kernel_rfl) (fun _ _ _ h => h) (Or.inl ⟨by rfl, ?hy11x19⟩) (by assumption) ?rest11x19
  case hy11x19 => (intro w hSw; (try dsimp only at hSw); go_simp; try with_reducible rfl)
  (try simp only [Act.put, List.getElem_toArray, List.getElem_cons_zero, List.getElem_cons_succ, List.setIfInBounds_toArray, List.set_cons_zero, List.set_cons_succ])
  refine wpAnyH_take (i := 13) (v := ?va13x20) rfl (by kernel_rfl) (by kernel_rfl) (by kernel_rfl) (fun _ _ _ h => h) (Or.inl ⟨by rfl, ?hy13x20⟩) (by assumption) ?rest13x20
  case hy13x20 => (intro w hSw; (try dsimp only at hSw); go_simp; try with_reducible rfl)
  (try simp only [Act.put, List.getElem_toArray, List.getElem_cons_zero, List.getElem_cons_succ, List.setIfInBounds_toArray, List.set_cons_zero, List.set_cons_succ])
  refine wpAnyH_take (i := 14) (v := ?va14x21) rfl (by kernel_rfl) (by kernel_rfl) (by kernel_rfl) (fun _ _ _ h => h) (Or.inl ⟨by rfl, ?hy14x21⟩) (by assumption) ?rest14x21
  case hy14x21 => (intro w hSw; (try dsimp only at hSw); go_simp; try with_reducible rfl)
  (try simp only [Act.put, List.getElem_toArray, List.getElem_cons_zero, List.getElem_cons_succ, List.setIfInBounds_toArray, List.set_cons_zero, List.set_cons_succ])
  refine wpAnyH_take (i := 15) (v := ?va15x22) rfl (by kernel_rfl) (by kernel_rfl) (by kernel_rfl) (fun _ _ _ h => h) (Or.inl ⟨by rfl, ?hy15x22⟩) (by assumption) ?rest15x22
  case hy15x22 => (intro w hSw; (try dsimp only at hSw); go_simp; try with_reducible rfl)
  (try simp only [Act.put, List.getElem_toArray, List.getElem_cons_zero, List.getElem_cons_succ, List.setIfInBounds_toArray, List.set_cons_zero, List.set_cons_succ])
  refine wpAnyH_take (i := 16) (v := ?va16x23) rfl (by kernel_rfl) (by kernel_rfl) (by kernel_rfl) (fun _ _ _ h => h) (Or.inl ⟨by rfl, ?hy16x23⟩) (by assumption) ?rest16x23
  case hy16x23 => (intro w hSw; (try dsimp only at hSw); go_simp; try with_reducible rfl)
  (try simp only [Act.put, List.getElem_toArray, List.getElem_cons_zero, List.getElem_cons_succ, List.setIfInBounds_toArray, List.set_cons_zero, List.set_cons_succ])
  refine wpAnyH_take (i := 17) (v := ?va17x24) rfl (by kernel_rfl) (by kernel_rfl) (by kernel_rfl) (fun _ _ _ h => h) (Or.inl ⟨by rfl, ?hy17x24⟩) (by assumption) ?rest17x24
  case hy17x24 => (intro w hSw; (try dsimp only at hSw); go_simp; try with_reducible rfl)
  (try simp only [Act.put, List.getElem_toArray, List.getElem_cons_zero, List.getElem_cons_succ, List.setIfInBounds_toArray, List.set_cons_zero, List.set_cons_succ])
  generalize w3.drew = wd at *
  clear d0 d1 d2
  refine wpAnyH_ready (rs := [6]) (by kernel_rfl) (by simp) ?_
  refine AllReadyH.cons rfl (fun K hK => ?_) AllReadyH.nil
  go_simp
  refine (c_pick (w.heap.size + 1) (0 + 200) ((nf : Int) + 1) _ DD.out.1 (by omega) (by omega) (by omega)).mono ?_
  rintro e wp0 ⟨x1, hx1, rfl, hc5, hg5⟩
  have Dp0 := Lib.hid (DD.out.step hc5 hg5)
  have Rp0 := Lib.hid (show zrow _ _ from row_stepC RD.out (by omega) hg5)
  have Vp0 := Lib.hid (show RowH _ _ _ _ _ from row_stepC VD.out (by have := LV.out; omega) hg5)
  have Op0 := Lib.hid (OD.out.stepC (by omega) hg5)
  clear hc5 hg5
  refine hK.out _ _ ⟨Vp0.out.c0, Vp0.out.c1, Vp0.out.c2⟩ (fun hHeld => ?_)
  clear hK K
  (try simp only [Act.put, List.getElem_toArray, List.getElem_cons_zero, List.getElem_cons_succ, List.setIfInBounds_toArray, List.set_cons_zero, List.set_cons_succ])
  refine wpAnyH_ready (rs := [8]) (by kernel_rfl) (by simp) ?_
  refine AllReadyH.cons rfl (fun K hK => ?_) AllReadyH.nil
  go_simp
  refine (c_pick (w.heap.size + 1) (0 + 200 + 2) (9) _ Dp0.out.1 (by omega) (by omega) (by omega)).mono ?_
  rintro e wp1 ⟨x2, hx2, rfl, hc5, hg5⟩
  have Dp1 := Lib.hid (Dp0.out.step hc5 hg5)
  have Rp1 := Lib.hid (show zrow _ _ from row_stepC Rp0.out (by omega) hg5)
  have Vp1 := Lib.hid (show RowH _ _ _ _ _ from row_stepC Vp0.out (by have := LV.out; omega) hg5)
  have Op1 := Lib.hid (Op0.out.stepC (by omega) hg5)
  clear hc5 hg5
  refine hK.out _ _ ⟨Vp1.out.c0, Vp1.out.c1, Vp1.out.c2⟩ (fun hHeld => ?_)
  clear hK K
  (try simp only [Act.put, List.getElem_toArray, List.getElem_cons_zero, List.getElem_cons_succ, List.setIfInBounds_toArray, List.set_cons_zero, List.set_cons_succ])
  have hq8 : x2.tdiv 8 = x2 / 8 := Int.tdiv_eq_ediv_of_nonneg hx2.1
  have q8 : 0 ≤ x2 / 8 ∧ x2 / 8 ≤ 1 := by omega
  generalize x2 / 8 = y8 at *
  have hwy : IntKind.i64.wrap y8 = y8 := IntWalk.i64_in _ (by omega)
  have hws : IntKind.i64.wrap (x1 - y8) = x1 - y8 := IntWalk.i64_in _ (by omega)
  refine wpAnyH_take (i := 9) (v := ?va9x25) rfl (by kernel_rfl) (by kernel_rfl) (by kernel_rfl) (fun _ _ _ h => h) (Or.inl ⟨by rfl, ?hy9x25⟩) (by assumption) ?rest9x25
  case hy9x25 => (intro w hSw; (try dsimp only at hSw); go_simp; try with_reducible rfl)
  (try simp only [Act.put, List.getElem_toArray, List.getElem_cons_zero, List.getElem_cons_succ, List.setIfInBounds_toArray, List.set_cons_zero, List.set_cons_succ])
  refine wpAnyH_take (i := 10) (v := ?va10x26) rfl (by kernel_rfl) (by kernel_rfl) (by kernel_rfl) (fun _ _ _ h => h) (Or.inl ⟨by rfl, ?hy10x26⟩) (by assumption) ?rest10x26
  case hy10x26 => (intro w hSw; (try dsimp only at hSw); go_simp; try with_reducible rfl)
  (try simp only [Act.put, List.getElem_toArray, List.getElem_cons_zero, List.getElem_cons_succ, List.setIfInBounds_toArray, List.set_cons_zero, List.set_cons_succ])
  refine wpAnyH_ready (rs := [12]) (by kernel_rfl) (by simp) ?_
  refine AllReadyH.cons rfl (fun K hK => ?_) AllReadyH.nil
  go_simp
  refine (c_pick (w.heap.size + 1) (0 + 200 + 2 + 2) (4) _ Dp1.out.1 (by omega) (by omega) (by omega)).mono ?_
  rintro e wp2 ⟨x3, hx3, rfl, hc5, hg5⟩
  have Dp2 := Lib.hid (Dp1.out.step hc5 hg5)
  have Rp2 := Lib.hid (show zrow _ _ from row_stepC Rp1.out (by omega) hg5)
  have Vp2 := Lib.hid (show RowH _ _ _ _ _ from row_stepC Vp1.out (by have := LV.out; omega) hg5)
  have Op2 := Lib.hid (Op1.out.stepC (by omega) hg5)
  clear hc5 hg5
  refine hK.out _ _ ⟨Vp2.out.c0, Vp2.out.c1, Vp2.out.c2⟩ (fun hHeld => ?_)
  clear hK K
  (try simp only [Act.put, List.getElem_toArray, List.getElem_cons_zero, List.getElem_cons_succ, List.setIfInBounds_toArray, List.set_cons_zero, List.set_cons_succ])
  refine wpAnyH_ready (rs := [18]) (by kernel_rfl) (by simp) ?_
  refine AllReadyH.cons rfl (fun K hK => ?_) AllReadyH.nil
  go_simp
  refine (c_pick (w.heap.size + 1) (0 + 200 + 2 + 2 + 2) ((nf : Int) + 2) _ Dp2.out.1 (by omega) (by omega) (by omega)).mono ?_
  rintro e wp3 ⟨x4, hx4, rfl, hc5, hg5⟩
  have Dp3 := Lib.hid (Dp2.out.step hc5 hg5)
  have Rp3 := Lib.hid (show zrow _ _ from row_stepC Rp2.out (by omega) hg5)
  have Vp3 := Lib.hid (show RowH _ _ _ _ _ from row_stepC Vp2.out (by have := LV.out; omega) hg5)
  have Op3 := Lib.hid (Op2.out.stepC (by omega) hg5)
  clear hc5 hg5
  refine hK.out _ _ ⟨Vp3.out.c0, Vp3.out.c1, Vp3.out.c2⟩ (fun hHeld => ?_)
  clear hK K
  (try simp only [Act.put, List.getElem_toArray, List.getElem_cons_zero, List.getElem_cons_succ, List.setIfInBounds_toArray, List.set_cons_zero, List.set_cons_succ])
  have hwx4 : IntKind.i64.wrap (x4 - 1) = x4 - 1 := IntWalk.i64_in _ (by omega)
  refine wpAnyH_take (i := 19) (v := ?va19x27) rfl (by kernel_rfl) (by kernel_rfl) (by kernel_rfl) (fun _ _ _ h => h) (Or.inl ⟨by rfl, ?hy19x27⟩) (by assumption) ?rest19x27
  case hy19x27 => (intro w hSw; (try dsimp only at hSw); go_simp; try with_reducible rfl)
  (try simp only [Act.put, List.getElem_toArray, List.getElem_cons_zero, List.getElem_cons_succ, List.setIfInBounds_toArray, List.set_cons_zero, List.set_cons_succ])
  refine wpAnyH_ready (rs := [20]) (by kernel_rfl) (by simp) ?_
  refine AllReadyH.cons rfl (fun K hK => ?_) AllReadyH.nil
  have hch := chgRow wp3 w.heap.size (c3 (.slice pa nf qa) (.slice pb nl qb) (.slice pc nr qc))
  have VN := Lib.hid (show RowH _ _ _ _ _ from Row.chg Vp3.out hch (.inr (by have := LV.out; omega)))
  have ON := Lib.hid (Op3.out.chg hch (.inr (by omega)))
  have BN := Lib.hid (below_setRow (g := w.heap.size) (DB.out _ _ Dp3.out) (Nat.le_refl _) (c3 (.slice pa nf qa) (.slice pb nl qb) (.slice pc nr qc)))
  clear hch
  refine wp_store_row 27 _ _ rfl w.heap.size (c3 (.slice pa nf qa) (.slice pb nl qb) (.slice pc nr qc)) rfl rfl 27 _ Rp3.out info_heap rfl (by simp [Value.oneCell']) ?_
  refine hK.out _ _ ⟨VN.out.c0, VN.out.c1, VN.out.c2⟩ (fun hHeld => ?_)
  clear hK K
  (try simp only [Act.put, List.getElem_toArray, List.getElem_cons_zero, List.getElem_cons_succ])
  refine wpAnyH_take (i := 21) (v := ?va21x28) rfl (by kernel_rfl) (by kernel_rfl) (by kernel_rfl) (fun _ _ _ h => h) (Or.inl ⟨by rfl, ?hy21x28⟩) (by assumption) ?rest21x28
  case hy21x28 => (intro w hSw; (try dsimp only at hSw); go_simp; try with_reducible rfl)
  (try simp only [Act.put, List.getElem_toArray, List.getElem_cons_zero, List.getElem_cons_succ, List.setIfInBounds_toArray, List.set_cons_zero, List.set_cons_succ])
  refine wpAnyH_take (i := 22) (v := ?va22x29) rfl (by kernel_rfl) (by kernel_rfl) (by kernel_rfl) (fun _ _ _ h => h) (Or.inl ⟨by rfl, ?hy22x29⟩) (by assumption) ?rest22x29
  case hy22x29 => (intro w hSw; (try dsimp only at hSw); go_simp; try with_reducible rfl)
  (try simp only [Act.put, List.getElem_toArray, List.getElem_cons_zero, List.getElem_cons_succ, List.setIfInBounds_toArray, List.set_cons_zero, List.set_cons_succ])
  refine wpAnyH_take (i := 23) (v := ?va23x30) rfl (by kernel_rfl) (by kernel_rfl) (by kernel_rfl) (fun _ _ _ h => h) (Or.inl ⟨by rfl, ?hy23x30⟩) (by assumption) ?rest23x30
  case hy23x30 => (intro w hSw; (try dsimp only at hSw); go_simp; try with_reducible rfl)
  (try simp only [Act.put, List.getElem_toArray, List.getElem_cons_zero, List.getElem_cons_succ, List.setIfInBounds_toArray, List.set_cons_zero, List.set_cons_succ])
  refine wpAnyH_done (by kernel_rfl) ?_ _
  clear hHeld
  go_wp2_with fail
  refine bodyPost_ret (res_row_slot3 Try.results27 (Row.put Rp3.out (c3 (.slice pa nf qa) (.slice pb nl qb) (.slice pc nr qc))) rfl rfl rfl rfl Try.underlying27 rfl info_heap) rfl ⟨_, _, _, h, x1 - y8, x3, x4 - 1, rfl, SH.out, ON.out.reads, BN.out⟩
set_option maxRecDepth 100000 in
set_option maxHeartbeats 3200000 in
theorem d_ReachFrom (v : Value) (zs : List Int) (w : World) (hby : BytesAt w v zs) : Calls Try.prog 24 #[v] w fun e w' => ∃ a b cc h v' l, e = .returned (.tuple #[hv a b cc, v']) ∧ Sh h ∧ l.length ≤ 20 ∧ HeapAt w' a b cc h ∧ IntsAt w' v' l ∧ Below w.heap.size w w' := by
  obtain ⟨i0, hi, hz0, hz1, hz2⟩ := info_parts info_int
  have hb1 := below1 w (.cells (c3 (.slice none 0 0) (.slice none 0 0) (.slice none 0 0)) 27)
  have D0 := Lib.hid (dv_new (hby.below hb1))
  have hs1 : (w.alloc (.cells (c3 (.slice none 0 0) (.slice none 0 0) (.slice none 0 0)) 27)).heap.size = w.heap.size + 1 := World.size_alloc _ _
  have hsW : ((w.alloc (.cells (c3 (.slice none 0 0) (.slice none 0 0) (.slice none 0 0)) 27)).alloc (.cells #[v, .int .i64 0, .int .u64 0] 104)).heap.size = w.heap.size + 1 + 1 := by simp
  rw [hs1] at D0
  have R0 := Lib.hid (show zrow ((w.alloc (.cells (c3 (.slice none 0 0) (.slice none 0 0) (.slice none 0 0)) 27)).alloc (.cells #[v, .int .i64 0, .int .u64 0] 104)) w.heap.size from (Row.new w 27 (c3 (.slice none 0 0) (.slice none 0 0) (.slice none 0 0))).alloc (.cells #[v, .int .i64 0, .int .u64 0] 104))
  have HB1 := Lib.hid hb1
  have HS1 := Lib.hid hs1; have HSW := Lib.hid hsW
  have DB : Hid (∀ X m, Dv ((w.alloc (.cells (c3 (.slice none 0 0) (.slice none 0 0) (.slice none 0 0)) 27)).alloc (.cells #[v, .int .i64 0, .int .u64 0] 104)) (w.heap.size + 1) m X → Below w.heap.size w X) := fun X m q => HB1.out.trans ((dv_below (w := w.alloc (.cells (c3 (.slice none 0 0) (.slice none 0 0) (.slice none 0 0)) 27)) (v := v) (m := m) (X := X) (by rw [HS1.out]; exact q)).mono HB1.out.size)
  obtain ⟨_, _, va, vc, rfl, _⟩ := hby
  clear hb1 hs1 hsW
  go_enter Try.func24, Try.ntmps24
  go_wp2_with fail
  refine (c_heap (w.heap.size + 1) 0 _ D0.out.1 (by omega)).mono ?_
  rintro e w2 ⟨a, b, cc, h, rfl, hsh, hf1, ho2, hc2, hg2⟩
  obtain ⟨⟨pa, qa, rfl⟩, ⟨pb, qb, rfl⟩, ⟨pc, qc, rfl⟩⟩ := ho2.shapes
  rw [HSW.out] at ho2
  have SH := Lib.hid hsh
  have hf12 := hsh.n
  generalize h.f.length = nf at *
  generalize h.l.length = nl at *
  generalize h.r.length = nr at *
  have D2 := Lib.hid (D0.out.step hc2 hg2)
  have R2 := Lib.hid (show zrow w2 w.heap.size from row_stepC R0.out (by omega) hg2)
  have OH := Lib.hid ho2
  clear hsh ho2 hc2 hg2 D0 R0
  have hba := below1 w2 (.cells (c3 (.slice pa nf qa) (.slice pb nl qb) (.slice pc nr qc)) 27)
  have hs2 := D2.out.size
  rw [HSW.out] at hs2
  have DA := Lib.hid (D2.out.low (hba.mono D2.out.size))
  have RA := Lib.hid (show zrow _ _ from Row.alloc R2.out (.cells (c3 (.slice pa nf qa) (.slice pb nl qb) (.slice pc nr qc)) 27))
  have VA := Lib.hid (show RowH _ _ _ _ _ from Row.new w2 27 (c3 (.slice pa nf qa) (.slice pb nl qb) (.slice pc nr qc)))
  have OA := Lib.hid (OH.out.below hba)
  have LV : Hid (w.heap.size + 1 + 1 ≤ w2.heap.size) := hs2
  have HGA : Hid (w2.heap.size < (w2.alloc (.cells (c3 (.slice pa nf qa) (.slice pb nl qb) (.slice pc nr qc)) 27)).heap.size) := by unfold Hid; simp
  clear hba hs2 D2 R2 OH
  go_wp2_with fail
  generalize w2.heap.size = gv at *
  generalize w2.alloc (.cells (c3 (.slice pa nf qa) (.slice pb nl qb) (.slice pc nr qc)) 27) = w3 at *
  refine (c_pick (w.heap.size + 1) (0 + 200) 4 _ DA.out.1 (by omega) (by omega) (by omega)).mono ?_
  rintro e w4 ⟨x4, hx4, rfl, hc4, hg4⟩
  obtain ⟨k4, rfl⟩ : ∃ k : Nat, x4 = k := ⟨x4.toNat, by omega⟩
  have D4 := Lib.hid (DA.out.step hc4 hg4)
  have R4 := Lib.hid (show zrow _ _ from row_stepC RA.out (by omega) hg4)
  have V4 := Lib.hid (show RowH _ _ _ _ _ from row_stepC VA.out (by have := LV.out; omega) hg4)
  have O4 := Lib.hid (OA.out.stepC (by omega) hg4)
  have hwn : IntKind.i64.wrap ((nf : Int) + 1) = (nf : Int) + 1 := IntWalk.i64_in _ (by omega)
  clear hc4 hg4
  go_wp2_with fail
  go_loopw [6, 7] (fun t i wr => ∃ (j : Nat) (l : List Int), j ≤ 3 ∧ i = .int .i64 (j : Int) ∧ Hid (l.length + j ≤ 3) ∧ Hid (Own wr (gv + 1) t l) ∧ Hid (Dv ((w.alloc (.cells (c3 (.slice none 0 0) (.slice none 0 0) (.slice none 0 0)) 27)).alloc (.cells #[(.slice va zs.length vc), .int .i64 0, .int .u64 0] 104)) (w.heap.size + 1) (0 + 200 + 2 + 4 * (3 - j)) wr) ∧ Hid (zrow wr w.heap.size) ∧ Hid (RowH wr gv (.slice pa nf qa) (.slice pb nl qb) (.slice pc nr qc)) ∧ Hid (OwnH wr (w.heap.size + 1 + 1) gv (.slice pa nf qa) (.slice pb nl qb) (.slice pc nr qc) h)) (fun _ i _ => (intOf i).toNat)
  case atStart => exact ⟨k4, [], by omega, rfl, by unfold Hid; simp; omega, Own.nil _ _, D4.out.mono (by omega), R4, V4, O4⟩
  case round =>
    clear D4 R4 V4 O4 DA RA VA OA
    obtain ⟨j, l, hj, rfl, hl, how, hD, hR, hV, hO⟩ := hrel
    by_cases hlt : 0 < j
    · have i1 : (0 : Int) < (j : Int) := by omega
      have hwj : IntKind.i64.wrap ((j : Int) - 1) = ((j - 1 : Nat) : Int) := by rw [IntWalk.i64_in _ (by omega)]; omega
      have d0 := hV.out.c0
      go_wp2_with fail
      clear d0
      refine (c_pick (w.heap.size + 1) (0 + 200 + 2 + 4 * (3 - j)) ((nf : Int) + 1) _ hD.out.1 (by omega) (by omega) (by omega)).mono ?_
      rintro e w5 ⟨x1, hx1, rfl, hc5, hg5⟩
      have D5 := Lib.hid (hD.out.step hc5 hg5)
      have R5 := Lib.hid (show zrow _ _ from row_stepC hR.out (by omega) hg5)
      have V5 := Lib.hid (show RowH _ _ _ _ _ from row_stepC hV.out (by have := LV.out; omega) hg5)
      have O5 := Lib.hid (hO.out.stepC (by omega) hg5)
      have U5 := Lib.hid (Own.stepC how.out (by have := LV.out; omega) hg5)
      clear hc5 hg5
      go_wp2_with fail
      refine (c_pick (w.heap.size + 1) (0 + 200 + 2 + 4 * (3 - j) + 2) 20 _ D5.out.1 (by omega) (by omega) (by omega)).mono ?_
      rintro e w6 ⟨x2, hx2, rfl, hc5, hg5⟩
      have D6 := Lib.hid (D5.out.step hc5 hg5)
      have R6 := Lib.hid (show zrow _ _ from row_stepC R5.out (by omega) hg5)
      have V6 := Lib.hid (show RowH _ _ _ _ _ from row_stepC V5.out (by have := LV.out; omega) hg5)
      have O6 := Lib.hid (O5.out.stepC (by omega) hg5)
      have U6 := Lib.hid (Own.stepC U5.out (by have := LV.out; omega) hg5)
      clear hc5 hg5
      have hq19 : x2.tdiv 19 = x2 / 19 := Int.tdiv_eq_ediv_of_nonneg hx2.1
      have q19 : 0 ≤ x2 / 19 ∧ x2 / 19 ≤ 1 := by omega
      generalize x2 / 19 = y at *
      have hwy : IntKind.i64.wrap y = y := IntWalk.i64_in _ (by omega)
      have hws : IntKind.i64.wrap (x1 - y) = x1 - y := IntWalk.i64_in _ (by omega)
      have hbc := below1 w6 (.cells #[.int .i64 (x1 - y)] 3)
      have gv6 := V6.out.lt
      have HO1 := Lib.hid (U6.out.below hbc)
      have HS := Lib.hid (src_int w6 (x1 - y))
      have HL2 : Hid (l.length ≤ 3) := by unfold Hid; have := hl.out; omega
      have HWS : Hid (gv + 1 ≤ (w6.alloc (.cells #[.int .i64 (x1 - y)] 3)).heap.size) := by unfold Hid; have := hbc.size; omega
      have D7 := Lib.hid (D6.out.low (hbc.mono D6.out.size)); have R7 := Lib.hid (show zrow _ _ from Row.below R6.out hbc); have V7 := Lib.hid (show RowH _ _ _ _ _ from Row.below V6.out hbc); have O7 := Lib.hid (O6.out.below hbc)
      clear hbc
      go_wp2_with (at_builtin; refine wl_appOwn _ rfl _ _ 25 rfl (gv + 1) 3 i0 (.int .i64 0) 8 Try.underlying25 hi hz0 hz1 hz2 rfl u6 _ _ rfl HO1.out _ _ rfl HS.out (by have := HL2.out; simp; unfold maxLen; omega) (by have := HL2.out; simp; omega) HWS.out ?_; intro v1 w1 ho1 hg1 hbl; have U8 : Hid (Own w1 (gv + 1) v1 (l ++ [x1 - y])) := (by { unfold Hid Own; rw [List.map_append, List.length_append]; exact ho1 }); have ch8 := Chg.of_grown (lo := gv + 1) (hi := (w6.alloc (.cells #[.int .i64 (x1 - y)] 3)).heap.size) hg1 (fun g' hg' => owns_lt HO1.out hg'); have D8 := Lib.hid (D7.out.low (below_chg (Below.refl _ _) ch8 (by have := LV.out; have := D7.out.size; rw [HSW.out]; omega) D7.out.size)); have R8 := Lib.hid (show zrow _ _ from Row.chg R7.out ch8 (.inl (by have := LV.out; omega))); have V8 := Lib.hid (show RowH _ _ _ _ _ from Row.chg V7.out ch8 (.inl (by omega))); have O8 := Lib.hid (O7.out.chg ch8 (.inl (by omega))); clear ho1 hg1 hbl ch8)
      go_roundw
      case rel => exact ⟨j - 1, l ++ [x1 - y], by omega, by go_num, by unfold Hid; have := hl.out; simp; omega, U8, D8.out.mono (by omega), R8, V8, O8⟩
      case measure => simp [intOf]; omega
    · have i1 : ¬ (0 : Int) < (j : Int) := by omega
      have ON := Lib.hid (hO.out.chg (chgRow wr w.heap.size (c3 (.slice pa nf qa) (.slice pb nl qb) (.slice pc nr qc))) (.inr (by omega)))
      have UN := Lib.hid (Own.chg how.out (chgRow wr w.heap.size (c3 (.slice pa nf qa) (.slice pb nl qb) (.slice pc nr qc))) (fun g e => .inr (by have := (owns_lt how.out e).1; have := LV.out; omega)))
      have BN := Lib.hid (below_setRow (g := w.heap.size) (DB.out _ _ hD.out) (Nat.le_refl _) (c3 (.slice pa nf qa) (.slice pb nl qb) (.slice pc nr qc)))
      have HLL : Hid (l.length ≤ 20) := by unfold Hid; have := hl.out; omega
      go_wp2_with (first
        | (refine wl_loadH rfl _ rfl gv _ _ _ hV.out rfl ?_)
        | (refine wl_storeH rfl _ _ rfl w.heap.size (.slice pa nf qa) (.slice pb nl qb) (.slice pc nr qc) _ _ _ hR.out rfl rfl rfl rfl rfl ?_))
      refine bodyPost_ret (res_row_slot Try.results24 (Row.put hR.out (c3 (.slice pa nf qa) (.slice pb nl qb) (.slice pc nr qc))) rfl rfl Try.underlying27 rfl info_heap) rfl ?_
      first | exact ⟨_, _, _, h, _, l, rfl, SH.out, HLL.out, ON.out.reads, UN.out.ints, BN.out⟩ | exact ⟨_, _, _, h, _, rfl, SH.out, l, HLL.out, ON.out.reads, UN.out.ints, BN.out⟩
end Go.Proofs.Ythanckifinfpiaa
namespace Go.Proofs.Ythanckifinfpiaa
open Go.RowKit Ph

set_option maxHeartbeats 800000 in
theorem c_sameBools (va vb : Value) (zs : List Bool) (w : World) (hA : BoolsAt w va zs) (hB : BoolsAt w vb zs) (hm : zs.length ≤ 9223372036854775806) :
    Calls Try.prog 19 #[va, vb] w fun e w' => e = .returned (.bool true) ∧ ∃ n, w' = w.drewN n := by
  obtain ⟨a, ca, rfl, hA⟩ := hA
  obtain ⟨b, cb, rfl, hB⟩ := hB
  generalize hn : zs.length = n at *
  clear hn
  have hbq : ((n : Int) != (n : Int)) = false := by simp
  have HCA := Lib.hid hA; have HCB := Lib.hid hB; clear hA hB
  go_enter Try.func19, Try.ntmps19
  go_wp2
  go_loopw [13] (fun i wr => ∃ k : Nat, k ≤ n ∧ i = .int .i64 k ∧ ∃ n, wr = w.drewN n) (fun i _ => n - (intOf i).toNat)
  case atStart => exact ⟨0, Nat.zero_le _, rfl, drewN_refl _⟩
  case round =>
    obtain ⟨k, hk, rfl, nd, rfl⟩ := hrel
    by_cases hlt : k < n
    · obtain ⟨ba, oa, rfl, hca⟩ := HCA.out (by omega)
      obtain ⟨bb, ob, rfl, hcb⟩ := HCB.out (by omega)
      have q1 := hca k hlt
      have q2 := hcb k hlt
      have i1 : (k : Int) < (n : Int) := by omega
      clear hca hcb
      generalize zs.getD k false = x at *
      have hxx : (x != x) = false := by simp
      go_wp2
      go_quiet (fail)
      go_wp2
      go_roundw
      case rel => exact ⟨k + 1, by omega, by go_num, nd + nq, by simp⟩
      case measure => simp [intOf]; omega
    · go_wp2
      go_ret
      exact ⟨rfl, _, rfl⟩

set_option maxRecDepth 100000 in
set_option maxHeartbeats 3200000 in
theorem c_sameHeap (a b c a' b' c' : Value) (h : H) (w : World) (hA : HeapAt w a b c h) (hB : HeapAt w a' b' c' h) (h1 : h.f.length ≤ 1000) (h2 : h.l.length ≤ 1000) (h3 : h.r.length ≤ 1000) (h4 : ∀ i, (h.f.getD i []).length ≤ 1000) :
    Calls Try.prog 18 #[hv a b c, hv a' b' c'] w fun e w' => e = .returned (.bool true) ∧ Below w.heap.size w w' := by
  obtain ⟨pa, qa, rfl⟩ := hA.f.shape
  obtain ⟨pb, qb, rfl⟩ := hA.l.shape
  obtain ⟨pc, qc, rfl⟩ := hA.r.shape
  obtain ⟨pa', qa', rfl⟩ := hB.f.shape
  obtain ⟨pb', qb', rfl⟩ := hB.l.shape
  obtain ⟨pc', qc', rfl⟩ := hB.r.shape
  have HA := Lib.hid hA; have HB := Lib.hid hB; have H4 := Lib.hid h4
  have HN2 : Hid (∀ X : List Bool, X = h.l → X.length ≤ 1000) := fun X q => by rw [q]; exact h2
  have HN3 : Hid (∀ X : List Int, X = h.r → X.length ≤ 1000) := fun X q => by rw [q]; exact h3
  clear hA hB h4
  generalize h.f.length = nf at *
  generalize h.l.length = nl at *
  generalize h.r.length = nr at *
  have hb0 : Below w.heap.size w ((w.alloc (.cells (c3 (.slice pa nf qa) (.slice pb nl qb) (.slice pc nr qc)) 27)).alloc (.cells (c3 (.slice pa' nf qa') (.slice pb' nl qb') (.slice pc' nr qc')) 27)) := (below1 w (.cells (c3 (.slice pa nf qa) (.slice pb nl qb) (.slice pc nr qc)) 27)).alloc (by simp) (.cells (c3 (.slice pa' nf qa') (.slice pb' nl qb') (.slice pc' nr qc')) 27)
  have L := Lib.hid hb0
  have RA := Lib.hid (show RowH _ w.heap.size (.slice pa nf qa) (.slice pb nl qb) (.slice pc nr qc) from (Row.new w 27 (c3 (.slice pa nf qa) (.slice pb nl qb) (.slice pc nr qc))).alloc (.cells (c3 (.slice pa' nf qa') (.slice pb' nl qb') (.slice pc' nr qc')) 27))
  have RB := Lib.hid (show RowH _ (w.heap.size + 1) (.slice pa' nf qa') (.slice pb' nl qb') (.slice pc' nr qc') from Row.new1 w (.cells (c3 (.slice pa nf qa) (.slice pb nl qb) (.slice pc nr qc)) 27) 27 (c3 (.slice pa' nf qa') (.slice pb' nl qb') (.slice pc' nr qc')))
  replace HA := Lib.hid (HA.out.below hb0); replace HB := Lib.hid (HB.out.below hb0)
  clear hb0
  have hbq : ((nf : Int) != (nf : Int)) = false := by simp
  go_enter Try.func18, Try.ntmps18
  have a0 := RA.out.c0
  have a1 := RA.out.c1
  have a2 := RA.out.c2
  have b0 := RB.out.c0
  have b1 := RB.out.c1
  have b2 := RB.out.c2
  go_wp2_with fail
  refine (c_sameBools _ _ h.l _ HA.out.l HB.out.l (by have := HN2.out _ rfl; omega)).mono ?_
  rintro e w1 ⟨rfl, nd1, hw1⟩
  have hb1 : Below ((w.alloc (.cells (c3 (.slice pa nf qa) (.slice pb nl qb) (.slice pc nr qc)) 27)).alloc (.cells (c3 (.slice pa' nf qa') (.slice pb' nl qb') (.slice pc' nr qc')) 27)).heap.size ((w.alloc (.cells (c3 (.slice pa nf qa) (.slice pb nl qb) (.slice pc nr qc)) 27)).alloc (.cells (c3 (.slice pa' nf qa') (.slice pb' nl qb') (.slice pc' nr qc')) 27)) w1 := by rw [hw1]; exact below_drewN (Below.refl _ _) nd1
  replace L := Lib.hid (bst L.out hb1 L.out.size); replace RA := Lib.hid (RA.out.below hb1); replace RB := Lib.hid (RB.out.below hb1); replace HA := Lib.hid (HA.out.below hb1); replace HB := Lib.hid (HB.out.below hb1)
  clear a0 a1 a2 b0 b1 b2 hb1 hw1 nd1
  have a0 := RA.out.c0
  have a1 := RA.out.c1
  have a2 := RA.out.c2
  have b0 := RB.out.c0
  have b1 := RB.out.c1
  have b2 := RB.out.c2
  go_wp2_with fail
  refine (c_sameInts _ _ h.r h.r _ HA.out.r HB.out.r (by have := HN3.out _ rfl; omega)).mono ?_
  rintro e w2 ⟨hre, nd2, hw2⟩
  rw [decide_eq_true rfl] at hre
  subst hre
  have hb1 : Below w1.heap.size w1 w2 := by rw [hw2]; exact below_drewN (Below.refl _ _) nd2
  replace L := Lib.hid (bst L.out hb1 L.out.size); replace RA := Lib.hid (RA.out.below hb1); replace RB := Lib.hid (RB.out.below hb1); replace HA := Lib.hid (HA.out.below hb1); replace HB := Lib.hid (HB.out.below hb1)
  clear a0 a1 a2 b0 b1 b2 hb1 hw2 nd2
  have a0 := RA.out.c0
  have b0 := RB.out.c0
  go_wp2_with fail
  clear a0 b0
  go_loopw [32] (fun i wr => ∃ k : Nat, k ≤ nf ∧ i = .int .i64 (k : Int) ∧ Hid (Below w2.heap.size w2 wr)) (fun i _ => nf - (intOf i).toNat)
  case atStart => exact ⟨0, Nat.zero_le _, rfl, Below.refl _ _⟩
  case round =>
    obtain ⟨k, hk, rfl, hbw⟩ := hrel
    by_cases hlt : k < nf
    · have HA' := HA.out.below hbw.out; have HB' := HB.out.below hbw.out
      obtain ⟨fb, fo, rfl, hcf⟩ := HA'.f.at' (by omega)
      obtain ⟨u, quf, huf⟩ := hcf k hlt
      obtain ⟨fb', fo', rfl, hcf'⟩ := HB'.f.at' (by omega)
      obtain ⟨u', quf', huf'⟩ := hcf' k hlt
      obtain ⟨ua, uc, rfl⟩ := huf.shape
      obtain ⟨ua', uc', rfl⟩ := huf'.shape
      have RA1 := RA.out.below hbw.out; have RB1 := RB.out.below hbw.out
      have h4k := H4.out k
      have HU := Lib.hid huf; have HU' := Lib.hid huf'; have H4K := Lib.hid h4k
      have i1 : (k : Int) < (nf : Int) := by omega
      have i0 : (0 : Int) ≤ (k : Int) := by omega
      clear hcf hcf' huf huf' HA' HB' h4k
      generalize h.f.getD k [] = row at *
      generalize hul : row.length = ul at *
      have HUL := Lib.hid hul; clear hul
      have d0 : wr.drew.cell? ⟨w.heap.size, 0, none⟩ = some _ := RA1.c0
      have d1 : wr.drew.cell? ⟨w.heap.size + 1, 0, none⟩ = some _ := RB1.c0
      have d2 : wr.drew.cell? ⟨fb, fo + k, none⟩ = some _ := quf
      have d3 : wr.drew.cell? ⟨fb', fo' + k, none⟩ = some _ := quf'
      have BD := Lib.hid (below_drew (Below.refl wr.heap.size wr))
      have U1 := Lib.hid (HU.out.below BD.out); have U2 := Lib.hid (HU'.out.below BD.out)
      clear RA1 RB1 quf quf'
      go_wp2_with fail
      refine wp_region_held_drew (S := (fun w' => w'.cell? ⟨w.heap.size, 0, none⟩ = some (.slice (some ⟨fb, fo, none⟩) nf qa) ∧ w'.cell? ⟨w.heap.size + 1, 0, none⟩ = some (.slice (some ⟨fb', fo', none⟩) nf qa') ∧ w'.cell? ⟨fb, fo + k, none⟩ = some (.slice ua ul uc) ∧ w'.cell? ⟨fb', fo' + k, none⟩ = some (.slice ua' ul uc'))) (by kernel_rfl) (⟨d0, d1, d2, d3⟩) (fun hHeld => ?_)
      refine wpAnyH_take (i := 0) (v := ?va0x1) rfl (by kernel_rfl) (by kernel_rfl) (by kernel_rfl) (fun _ _ _ h => h) (Or.inl ⟨by rfl, ?hy0x1⟩) (by assumption) ?rest0x1
      case hy0x1 => (intro w hSw; (try dsimp only at hSw); go_simp; try with_reducible rfl)
      (try simp only [Act.put, List.getElem_toArray, List.getElem_cons_zero, List.setIfInBounds_toArray, List.set_cons_zero, List.set_cons_succ])
      refine wpAnyH_take (i := 1) (v := ?va1x2) rfl (by kernel_rfl) (by kernel_rfl) (by kernel_rfl) (fun _ _ _ h => h) (Or.inl ⟨by rfl, ?hy1x2⟩) (by assumption) ?rest1x2
      case hy1x2 => (intro w hSw; (try dsimp only at hSw); go_simp; try with_reducible rfl)
      (try simp only [Act.put, List.getElem_toArray, List.getElem_cons_zero, List.getElem_cons_succ, List.setIfInBounds_toArray, List.set_cons_zero, List.set_cons_succ])
      refine wpAnyH_take (i := 2) (v := ?va2x3) rfl (by kernel_rfl) (by kernel_rfl) (by kernel_rfl) (fun _ _ _ h => h) (Or.inl ⟨by rfl, ?hy2x3⟩) (by assumption) ?rest2x3
      case hy2x3 => (intro w hSw; (try dsimp only at hSw); go_simp; try with_reducible rfl)
      (try simp only [Act.put, List.getElem_toArray, List.getElem_cons_zero, List.getElem_cons_succ, List.setIfInBounds_toArray, List.set_cons_zero, List.set_cons_succ])
      refine wpAnyH_take (i := 3) (v := ?va3x4) rfl (by kernel_rfl) (by kernel_rfl) (by kernel_rfl) (fun _ _ _ h => h) (Or.inl ⟨by rfl, ?hy3x4⟩) (by assumption) ?rest3x4
      case hy3x4 => (intro w hSw; (try dsimp only at hSw); go_simp; try with_reducible rfl)
      (try simp only [Act.put, List.getElem_toArray, List.getElem_cons_zero, List.getElem_cons_succ, List.setIfInBounds_toArray, List.set_cons_zero, List.set_cons_succ])
      refine wpAnyH_take (i := 4) (v := ?va4x5) rfl (by kernel_rfl) (by kernel_rfl) (by kernel_rfl) (fun _ _ _ h => h) (Or.inl ⟨by rfl, ?hy4x5⟩) (by assumption) ?rest4x5
      case hy4x5 => (intro w hSw; (try dsimp only at hSw); go_simp; try with_reducible rfl)
      (try simp only [Act.put, List.getElem_toArray, List.getElem_cons_zero, List.getElem_cons_succ, List.setIfInBounds_toArray, List.set_cons_zero, List.set_cons_succ])
      refine wpAnyH_take (i := 5) (v := ?va5x6) rfl (by kernel_rfl) (by kernel_rfl) (by kernel_rfl) (fun _ _ _ h => h) (Or.inl ⟨by rfl, ?hy5x6⟩) (by assumption) ?rest5x6
      case hy5x6 => (intro w hSw; (try dsimp only at hSw); go_simp; try with_reducible rfl)
      (try simp only [Act.put, List.getElem_toArray, List.getElem_cons_zero, List.getElem_cons_succ, List.setIfInBounds_toArray, List.set_cons_zero, List.set_cons_succ])
      refine wpAnyH_take (i := 6) (v := ?va6x7) rfl (by kernel_rfl) (by kernel_rfl) (by kernel_rfl) (fun _ _ _ h => h) (Or.inl ⟨by rfl, ?hy6x7⟩) (by assumption) ?rest6x7
      case hy6x7 => (intro w hSw; (try dsimp only at hSw); go_simp; try with_reducible rfl)
      (try simp only [Act.put, List.getElem_toArray, List.getElem_cons_zero, List.getElem_cons_succ, List.setIfInBounds_toArray, List.set_cons_zero, List.set_cons_succ])
      refine wpAnyH_take (i := 7) (v := ?va7x8) rfl (by kernel_rfl) (by kernel_rfl) (by kernel_rfl) (fun _ _ _ h => h) (Or.inl ⟨by rfl, ?hy7x8⟩) (by assumption) ?rest7x8
      case hy7x8 => (intro w hSw; (try dsimp only at hSw); go_simp; try with_reducible rfl)
      (try simp only [Act.put, List.getElem_toArray, List.getElem_cons_zero, List.getElem_cons_succ, List.setIfInBounds_toArray, List.set_cons_zero, List.set_cons_succ])
      refine wpAnyH_take (i := 8) (v := ?va8x9) rfl (by kernel_rfl) (by kernel_rfl) (by kernel_rfl) (fun _ _ _ h => h) (Or.inl ⟨by rfl, ?hy8x9⟩) (by assumption) ?rest8x9
      case hy8x9 => (intro w hSw; (try dsimp only at hSw); go_simp; try with_reducible rfl)
      (try simp only [Act.put, List.getElem_toArray, List.getElem_cons_zero, List.getElem_cons_succ, List.setIfInBounds_toArray, List.set_cons_zero, List.set_cons_succ])
      refine wpAnyH_take (i := 9) (v := ?va9x10) rfl (by kernel_rfl) (by kernel_rfl) (by kernel_rfl) (fun _ _ _ h => h) (Or.inl ⟨by rfl, ?hy9x10⟩) (by assumption) ?rest9x10
      case hy9x10 => (intro w hSw; (try dsimp only at hSw); go_simp; try with_reducible rfl)
      (try simp only [Act.put, List.getElem_toArray, List.getElem_cons_zero, List.getElem_cons_succ, List.setIfInBounds_toArray, List.set_cons_zero, List.set_cons_succ])
      refine wpAnyH_ready (rs := [10]) (by kernel_rfl) (by simp) ?_
      refine AllReadyH.cons rfl (fun K hK => ?_) AllReadyH.nil
      go_simp
      refine (c_sameInts _ _ row row _ U1.out U2.out (by rw [HUL.out]; have := H4K.out; omega)).mono ?_
      rintro e w5 ⟨hre, nd, hw5⟩
      rw [decide_eq_true rfl] at hre
      subst hre
      have hb5 : Below wr.drew.heap.size wr.drew w5 := by rw [hw5]; exact below_drewN (Below.refl _ _) nd
      clear hw5 nd
      refine hK.out _ _ (⟨cellBelow hb5 (Nat.le_refl _) d0, cellBelow hb5 (Nat.le_refl _) d1, cellBelow hb5 (Nat.le_refl _) d2, cellBelow hb5 (Nat.le_refl _) d3⟩) (fun hHeld => ?_)
      clear hK K
      (try simp only [Act.put, List.getElem_toArray, List.getElem_cons_zero, List.getElem_cons_succ, List.setIfInBounds_toArray, List.set_cons_zero, List.set_cons_succ])
      refine wpAnyH_take (i := 11) (v := ?va11x11) rfl (by kernel_rfl) (by kernel_rfl) (by kernel_rfl) (fun _ _ _ h => h) (Or.inl ⟨by rfl, ?hy11x11⟩) (by assumption) ?rest11x11
      case hy11x11 => (intro w hSw; (try dsimp only at hSw); go_simp; try with_reducible rfl)
      (try simp only [Act.put, List.getElem_toArray, List.getElem_cons_zero, List.getElem_cons_succ, List.setIfInBounds_toArray, List.set_cons_zero, List.set_cons_succ])
      refine wpAnyH_done (by kernel_rfl) ?_ _
      have HB5 : Hid (Below w2.heap.size w2 w5) := bst (bst hbw.out BD.out hbw.out.size) hb5 (bst hbw.out BD.out hbw.out.size).size
      clear hHeld d0 d1 d2 d3 hb5
      go_wp2_with fail
      go_roundw
      case rel => exact ⟨k + 1, by omega, by go_num, HB5⟩
      case measure => simp [intOf]; omega
    · have i1 : ¬ (k : Int) < (nf : Int) := by omega
      go_wp2_with fail
      go_ret
      exact ⟨rfl, bst L.out hbw.out L.out.size⟩
end Go.Proofs.Ythanckifinfpiaa
namespace Go.Proofs.Ythanckifinfpiaa.Ph
theorem setF_facts {h : H} {t f z : Int} (hok : setFOk h t f z = true) : ∃ tn fn : Nat, t = tn ∧ f = fn ∧ tn < h.f.length ∧ fn < (h.f.getD tn []).length ∧ (setF h t f z).f.length = h.f.length ∧ (setF h t f z).l.length = h.l.length ∧ (setF h t f z).r.length = h.r.length ∧ (∀ k, (setF h t f z).f.getD k [] = if k = tn then (h.f.getD tn []).set fn z else h.f.getD k []) ∧ good h = true := by
  have hok' := hok
  unfold setFOk at hok'
  simp only [Bool.and_eq_true] at hok'
  obtain ⟨⟨hg, hb⟩, _⟩ := hok'
  obtain ⟨tn, fn, rfl, rfl, h1, h2⟩ := hasFB_iff hb (good_iff.1 hg)
  refine ⟨tn, fn, rfl, rfl, h1, h2, ?_⟩
  rw [setF_yes hok, Int.toNat_natCast, Int.toNat_natCast]
  exact ⟨by simp only [List.length_set], rfl, rfl, fun k => by simp only; rw [getD_setL h1], hg⟩
/-- The place that a new object takes was none's. -/
theorem place_dead (l : List Bool) : l.getD (placeOf l) false = false := by
  by_cases hp : placeOf l < l.length
  · have : (fun b => !b) l[placeOf l] = true := List.findIdx_getElem (w := hp)
    simp only [Bool.not_eq_true'] at this
    simp [List.getD, List.getElem?_eq_getElem hp, this]
  · simp [List.getD, List.getElem?_eq_none (Nat.le_of_not_lt hp)]
structure New (h N : H) (p m : Nat) : Prop where
  n : N.f.length = N.l.length ∧ N.f.length ≤ 12 ∧ p < N.f.length
  f : ∀ i, N.f.getD i [] = if i = p then List.replicate m (-1) else h.f.getD i []
  l : ∀ i, N.l.getD i false = if i = p then true else h.l.getD i false
  r : N.r = h.r
  d : h.l.getD p false = false
theorem New.of {h : H} {m : Int} (hok : newOk h m = true) : New h (newP h m).1 (newP h m).2 m.toNat := by
  have hok' := hok
  unfold newOk at hok'
  simp only [Bool.and_eq_true, decide_eq_true_eq] at hok'
  have g := good_iff.1 hok'.1.1.1
  have h12 := hok'.2
  have hle := place_le h.l
  have hll := g.ll
  have hn := g.n
  rw [newP_yes hok]
  simp only
  have hd := place_dead h.l
  unfold put1 grown1
  by_cases hp : placeOf h.l < h.l.length
  · rw [if_pos hp]
    refine ⟨by simp only [List.length_set]; omega, fun i => ?_, fun i => ?_, rfl, hd⟩
    · simp only; rw [getD_setL (by omega)]
    · simp only; rw [getD_set (by omega)]
  · rw [if_neg hp]
    have hpe : placeOf h.l = h.l.length := by omega
    refine ⟨by simp; omega, fun i => ?_, fun i => ?_, rfl, hd⟩
    · simp only
      rw [getD_setL (by simp; omega)]
      by_cases e : i = placeOf h.l
      · rw [if_pos e, if_pos e]
      · rw [if_neg e, if_neg e]
        by_cases hi : i < h.f.length
        · simp [List.getD, List.getElem?_append_left hi]
        · have h1 : (h.f ++ [([] : List Int)])[i]? = none := List.getElem?_eq_none (by simp; omega)
          have h2 : h.f[i]? = none := List.getElem?_eq_none (by omega)
          simp [List.getD, h1, h2]
    · simp only
      rw [getD_set (by simp; omega)]
      by_cases e : i = placeOf h.l
      · rw [if_pos e, if_pos e]
      · rw [if_neg e, if_neg e]
        by_cases hi : i < h.l.length
        · simp [List.getD, List.getElem?_append_left hi]
        · have h1 : (h.l ++ [false])[i]? = none := List.getElem?_eq_none (by simp; omega)
          have h2 : h.l[i]? = none := List.getElem?_eq_none (by omega)
          simp [List.getD, h1, h2]
theorem New.ref {h N : H} {p m : Nat} (k : New h N p m) {zs : List Int} (hz : refsB h.l zs = true) : refsB N.l zs = true := by
  rw [refsB_iff] at hz ⊢
  intro z q
  rcases refB_iff.1 (hz z q) with e | e
  · exact refB_iff.2 (.inl e)
  · obtain ⟨e1, e2⟩ := liveB_iff.1 e
    refine refB_iff.2 (.inr (liveB_iff.2 ⟨e1, ?_⟩))
    rw [k.l]
    split
    · rfl
    · exact e2
theorem New.good {h N : H} {p m : Nat} (g : Good h) (hm : m ≤ 3) (k : New h N p m) : Good N := by
  refine ⟨k.n.2.1, k.n.1.symm, fun i hi => ?_, by rw [k.r]; exact g.rn, by rw [k.r]; exact k.ref g.rr⟩
  rw [k.f, k.l]
  by_cases e : i = p
  · rw [if_pos e, if_pos e]
    refine ⟨by simp; omega, .inl rfl, ?_⟩
    rw [refsB_iff]
    intro z hz
    exact refB_iff.2 (.inl (List.eq_of_mem_replicate hz))
  · rw [if_neg e, if_neg e]
    by_cases hi2 : i < h.f.length
    · exact ⟨(g.row i hi2).1, (g.row i hi2).2.1, k.ref (g.row i hi2).2.2⟩
    · have : h.f.getD i [] = [] := by simp [List.getD, List.getElem?_eq_none (Nat.le_of_not_lt hi2)]
      rw [this]
      exact ⟨by simp, .inr rfl, rfl⟩
theorem New.apart {h N : H} {p m : Nat} (g : Good h) (k : New h N p m) (i : Nat) (hr : Reach N.f N.r i) : i ≠ p := by
  have old : ∀ zs : List Int, refsB h.l zs = true → (i : Int) ∈ zs → i ≠ p := fun zs hz hi e => by
    rcases refs_bound g hz _ hi with q | ⟨_, _, q⟩
    · omega
    · have := k.d
      rw [← e] at this
      rw [Int.toNat_natCast, this] at q; cases q
  cases hr with
  | root hz => rw [k.r] at hz; exact old _ g.rr hz
  | step _ hz =>
    rename_i y _
    rw [k.f] at hz
    by_cases e : y = p
    · rw [if_pos e] at hz
      have := List.eq_of_mem_replicate hz
      omega
    · rw [if_neg e] at hz
      by_cases hy : y < h.f.length
      · exact old _ (g.row y hy).2.2 hz
      · rw [show h.f.getD y [] = [] by simp [List.getD, List.getElem?_eq_none (Nat.le_of_not_lt hy)]] at hz
        simp at hz
/-- What the law asks of a new object. -/
theorem new_facts {h : H} {m : Int} (hok : newOk h m = true) : good (newP h m).1 = true ∧ (reachR (newP h m).1).length = (newP h m).1.f.length ∧ (newP h m).2 < (newP h m).1.f.length ∧ (newP h m).1.l.length = (newP h m).1.f.length ∧ (reachR (newP h m).1).getD (newP h m).2 false = false ∧ (newP h m).1.l.getD (newP h m).2 false = true ∧ (((newP h m).1.f.getD (newP h m).2 []).length : Int) = m := by
  have hok' := hok
  unfold newOk at hok'
  simp only [Bool.and_eq_true, decide_eq_true_eq] at hok'
  have g := good_iff.1 hok'.1.1.1
  have k := New.of hok
  have gN := k.good g (by omega)
  have hg := good_iff.2 gN
  refine ⟨hg, by rw [reachR_yes hg, reachL_length], k.n.2.2, k.n.1.symm, ?_, by rw [k.l, if_pos rfl], by rw [k.f, if_pos rfl]; simp; omega⟩
  rw [reachR_yes hg]
  cases hq : (reachL (newP h m).1.f (newP h m).1.r).getD (newP h m).2 false with
  | false => rfl
  | true => exact absurd rfl (k.apart g _ (reachL_getD.1 hq).2)
end Go.Proofs.Ythanckifinfpiaa.Ph
namespace Go.Proofs.Ythanckifinfpiaa
open Go.RowKit Ph

set_option maxRecDepth 100000 in
set_option maxHeartbeats 6400000 in
theorem s_SetRoot (a b c : Value) (h : H) (t z : Int) (w : World) (hA : HeapAt w a b c h) : Calls Try.prog 35 #[hv a b c, .int .i64 t, .int .i64 z] w (EndH (setR h t z) (setROk h t z) w) := by
  have hb0 := (below1 w (.cells (c3 a b c) 27)).alloc (by simp) (.cells (c3 (.slice none 0 0) (.slice none 0 0) (.slice none 0 0)) 27)
  have A0 := Lib.hid (hA.below hb0)
  have HB := Lib.hid hb0
  have P0 := Lib.hid (show RowH _ _ a b c from (Row.new w 27 (c3 a b c)).alloc (.cells (c3 (.slice none 0 0) (.slice none 0 0) (.slice none 0 0)) 27))
  have R0 := Lib.hid (show RowH _ (w.heap.size + 1) (.slice none 0 0) (.slice none 0 0) (.slice none 0 0) from Row.new1 w (.cells (c3 a b c) 27) 27 (c3 (.slice none 0 0) (.slice none 0 0) (.slice none 0 0)))
  clear hA hb0
  have HC := Lib.hid (s_GoodHeap a b c h _ A0.out)
  have G1 := Lib.hid (good_iff (h := h)).1
  have E1 := Lib.hid (setR_no (h := h) (t := t) (z := z))
  have E2 := Lib.hid (setR_yes (h := h) (t := t) (z := z))
  have hok : setROk h t z = (good h && hasRB h t && refB h.l z) := rfl
  have hfb : hasRB h t = (decide (0 ≤ t) && decide (t < (h.r.length : Int))) := rfl
  have HSH := Lib.hid A0.out.r.shape
  obtain ⟨ra, rc, hra⟩ := HSH.out
  subst hra
  clear HSH
  generalize good h = x at *
  have p0 := P0.out.c0
  have p1 := P0.out.c1
  have p2 := P0.out.c2
  generalize setROk h t z = ok at *
  cases x
  · have HE : Hid (ok = false) := by unfold Hid; rw [hok]; rfl
    clear hok hfb
    go_enter Try.func35, Try.ntmps35
    go_wp2_with (first
      | (go_at_call 75; refine HC.out.mono ?_; rintro e w1 ⟨rfl, hb1⟩; have B1 := Lib.hid (bst HB.out hb1 HB.out.size); have A1 := Lib.hid (A0.out.below hb1); have P1 := Lib.hid (P0.out.below hb1); have R1 := Lib.hid (R0.out.below hb1); have d10 := P1.out.c0; have d11 := P1.out.c1; have d12 := P1.out.c2; clear hb1)
      | (refine wl_storeH rfl _ _ rfl (w.heap.size + 1) (.slice none 0 0) (.slice none 0 0) (.slice none 0 0) _ _ _ R1.out rfl rfl rfl rfl rfl ?_))
    refine bodyPost_ret (res_row_slot Try.results35 (Row.put R1.out (c3 (.slice none 0 0) (.slice none 0 0) (.slice none 0 0))) rfl rfl Try.underlying27 rfl info_heap) rfl (endH_no (below_setRow B1.out (by omega) _) (E1.out HE.out) HE.out)
  · have G := Lib.hid (G1.out rfl)
    have hm3 : h.r.length ≤ 4 := G.out.rn
    by_cases hf : 0 ≤ t ∧ t ≤ (h.r.length : Int) - 1
    · have HIN : Hid (∀ w', Calls Try.prog 94 #[.int .i64 t, .int .i64 0, .int .i64 ((h.r.length : Int) - 1)] w' fun e w'' => e = .returned (.bool true) ∧ w' = w'') := fun w' => s_l1In_yes t 0 _ w' hf.1 hf.2
      have HX2 : Hid (hasRB h t = true) := by unfold Hid; rw [hfb]; simp; omega
      have HZR : Hid (refB h.l z = (decide (z = -1) || liveB h.l z)) := rfl
      rw [HX2.out, HZR.out] at hok
      clear hfb
      by_cases z1 : z = -1
      · subst z1
        have HE : Hid (ok = true) := by unfold Hid; rw [hok]; simp
        clear hok hf
        go_enter Try.func35, Try.ntmps35
        go_wp2_with (first
          | (go_at_call 75; refine HC.out.mono ?_; rintro e w1 ⟨rfl, hb1⟩; have B1 := Lib.hid (bst HB.out hb1 HB.out.size); have A1 := Lib.hid (A0.out.below hb1); have P1 := Lib.hid (P0.out.below hb1); have R1 := Lib.hid (R0.out.below hb1); have d10 := P1.out.c0; have d11 := P1.out.c1; have d12 := P1.out.c2; clear hb1)
          | (go_at_call 94; refine (HIN.out _).mono ?_; rintro e wi ⟨rfl, rfl⟩))
        refine (s_l5Own a b _ h _ A1.out G.out).mono ?_
        rintro e w9 ⟨a', b', c', rfl, ho, hb9⟩
        have B9 := Lib.hid (bst B1.out hb9 B1.out.size); have R9 := Lib.hid (R1.out.below hb9)
        have hfl := hasRB_iff HX2.out
        obtain ⟨k, rfl, hk⟩ := hfl
        obtain ⟨pa, qa, pb, qb, gc, cc, x, rfl, rfl, rfl, q2, q3, hgr, rA, rR, oN⟩ := setRt_facts ho hk (-1) R9.out
        have hE2 := E2.out HE.out
        rw [Int.toNat_natCast] at hE2
        have RA := Lib.hid rA; have RR := Lib.hid rR; have ON := Lib.hid oN; have EE := Lib.hid hE2
        have LL : Hid (w.heap.size ≤ gc) := Nat.le_trans B1.out.size hgr
        have L9 : Hid (w.heap.size ≤ w9.heap.size) := B9.out.size
        have LK := Lib.hid B1.out.size
        clear rA rR oN hE2 ho hb9 hgr
        have i1 : (k : Int) < (h.r.length : Int) := by omega
        have j1 : (0 : Int) ≤ (k : Int) := by omega
        generalize h.f.length = nf at *
        generalize h.l.length = nl at *
        generalize h.r.length = nr at *
        go_wp2_with (first
          | (refine wl_loadH rfl _ rfl w9.heap.size _ _ _ RA.out rfl ?_)
          | (refine wl_storeH rfl _ _ rfl (w.heap.size + 1) (.slice pa nf qa) (.slice pb nl qb) (.slice (some ⟨gc, 0, none⟩) nr cc) _ _ _ RR.out rfl rfl rfl rfl rfl ?_))
        refine bodyPost_ret (res_row_slot Try.results35 (Row.put RR.out (c3 (.slice pa nf qa) (.slice pb nl qb) (.slice (some ⟨gc, 0, none⟩) nr cc))) rfl rfl Try.underlying27 rfl info_heap) rfl (endH_yes (below_setRow ((B9.out.alloc L9.out _).setCell (p := ⟨gc, k, none⟩) LL.out _) (by omega) _) (ON.out.wholeRow RR.out _) LK.out (by rw [size_setRow, World.size_setCell, World.size_alloc]; omega) EE.out HE.out)
      · have hz1 : (z != -1) = true := by rw [bne_iff_ne]; exact z1
        generalize hb3 : liveB h.l z = x3 at *
        have HX3 := Lib.hid hb3
        clear hb3
        cases x3
        · have HE : Hid (ok = false) := by unfold Hid; rw [hok]; simp [z1]
          clear hok hf z1
          go_enter Try.func35, Try.ntmps35
          go_wp2_with (first
            | (go_at_call 75; refine HC.out.mono ?_; rintro e w1 ⟨rfl, hb1⟩; have B1 := Lib.hid (bst HB.out hb1 HB.out.size); have A1 := Lib.hid (A0.out.below hb1); have P1 := Lib.hid (P0.out.below hb1); have R1 := Lib.hid (R0.out.below hb1); have d10 := P1.out.c0; have d11 := P1.out.c1; have d12 := P1.out.c2; clear hb1)
            | (go_at_call 94; refine (HIN.out _).mono ?_; rintro e wi ⟨rfl, rfl⟩)
            | (go_at_call 93; refine (s_l5Thing a b _ h z _ A1.out G.out).mono ?_; rintro e w2 ⟨rfl, hb2⟩; rw [HX3.out]; have B2 := Lib.hid (bst B1.out hb2 B1.out.size); have A2 := Lib.hid (A1.out.below hb2); have P2 := Lib.hid (P1.out.below hb2); have R2 := Lib.hid (R1.out.below hb2); have d20 := P2.out.c0; have d21 := P2.out.c1; have d22 := P2.out.c2; clear hb2)
            | (refine wl_storeH rfl _ _ rfl (w.heap.size + 1) (.slice none 0 0) (.slice none 0 0) (.slice none 0 0) _ _ _ R2.out rfl rfl rfl rfl rfl ?_))
          refine bodyPost_ret (res_row_slot Try.results35 (Row.put R2.out (c3 (.slice none 0 0) (.slice none 0 0) (.slice none 0 0))) rfl rfl Try.underlying27 rfl info_heap) rfl (endH_no (below_setRow B2.out (by omega) _) (E1.out HE.out) HE.out)
        · have HE : Hid (ok = true) := by unfold Hid; rw [hok]; simp
          clear hok hf z1
          go_enter Try.func35, Try.ntmps35
          go_wp2_with (first
            | (go_at_call 75; refine HC.out.mono ?_; rintro e w1 ⟨rfl, hb1⟩; have B1 := Lib.hid (bst HB.out hb1 HB.out.size); have A1 := Lib.hid (A0.out.below hb1); have P1 := Lib.hid (P0.out.below hb1); have R1 := Lib.hid (R0.out.below hb1); have d10 := P1.out.c0; have d11 := P1.out.c1; have d12 := P1.out.c2; clear hb1)
            | (go_at_call 94; refine (HIN.out _).mono ?_; rintro e wi ⟨rfl, rfl⟩)
            | (go_at_call 93; refine (s_l5Thing a b _ h z _ A1.out G.out).mono ?_; rintro e w2 ⟨rfl, hb2⟩; rw [HX3.out]; have B2 := Lib.hid (bst B1.out hb2 B1.out.size); have A2 := Lib.hid (A1.out.below hb2); have P2 := Lib.hid (P1.out.below hb2); have R2 := Lib.hid (R1.out.below hb2); have d20 := P2.out.c0; have d21 := P2.out.c1; have d22 := P2.out.c2; clear hb2))
          refine (s_l5Own a b _ h _ A2.out G.out).mono ?_
          rintro e w9 ⟨a', b', c', rfl, ho, hb9⟩
          have B9 := Lib.hid (bst B2.out hb9 B2.out.size); have R9 := Lib.hid (R2.out.below hb9)
          have hfl := hasRB_iff HX2.out
          obtain ⟨k, rfl, hk⟩ := hfl
          obtain ⟨pa, qa, pb, qb, gc, cc, x, rfl, rfl, rfl, q2, q3, hgr, rA, rR, oN⟩ := setRt_facts ho hk z R9.out
          have hE2 := E2.out HE.out
          rw [Int.toNat_natCast] at hE2
          have RA := Lib.hid rA; have RR := Lib.hid rR; have ON := Lib.hid oN; have EE := Lib.hid hE2
          have LL : Hid (w.heap.size ≤ gc) := Nat.le_trans B2.out.size hgr
          have L9 : Hid (w.heap.size ≤ w9.heap.size) := B9.out.size
          have LK := Lib.hid B2.out.size
          clear rA rR oN hE2 ho hb9 hgr
          have i1 : (k : Int) < (h.r.length : Int) := by omega
          have j1 : (0 : Int) ≤ (k : Int) := by omega
          generalize h.f.length = nf at *
          generalize h.l.length = nl at *
          generalize h.r.length = nr at *
          go_wp2_with (first
            | (refine wl_loadH rfl _ rfl w9.heap.size _ _ _ RA.out rfl ?_)
            | (refine wl_storeH rfl _ _ rfl (w.heap.size + 1) (.slice pa nf qa) (.slice pb nl qb) (.slice (some ⟨gc, 0, none⟩) nr cc) _ _ _ RR.out rfl rfl rfl rfl rfl ?_))
          refine bodyPost_ret (res_row_slot Try.results35 (Row.put RR.out (c3 (.slice pa nf qa) (.slice pb nl qb) (.slice (some ⟨gc, 0, none⟩) nr cc))) rfl rfl Try.underlying27 rfl info_heap) rfl (endH_yes (below_setRow ((B9.out.alloc L9.out _).setCell (p := ⟨gc, k, none⟩) LL.out _) (by omega) _) (ON.out.wholeRow RR.out _) LK.out (by rw [size_setRow, World.size_setCell, World.size_alloc]; omega) EE.out HE.out)
    · have HIN : Hid (∀ w', Calls Try.prog 94 #[.int .i64 t, .int .i64 0, .int .i64 ((h.r.length : Int) - 1)] w' fun e w'' => e = .returned (.bool false) ∧ w' = w'') := fun w' => s_l1In_no t 0 _ w' (by omega)
      have HX2 : Hid (hasRB h t = false) := by unfold Hid; rw [hfb]; simp; omega
      have HE : Hid (ok = false) := by unfold Hid; rw [hok, HX2.out]; simp
      clear hok hf hfb
      go_enter Try.func35, Try.ntmps35
      go_wp2_with (first
        | (go_at_call 75; refine HC.out.mono ?_; rintro e w1 ⟨rfl, hb1⟩; have B1 := Lib.hid (bst HB.out hb1 HB.out.size); have A1 := Lib.hid (A0.out.below hb1); have P1 := Lib.hid (P0.out.below hb1); have R1 := Lib.hid (R0.out.below hb1); have d10 := P1.out.c0; have d11 := P1.out.c1; have d12 := P1.out.c2; clear hb1)
        | (go_at_call 94; refine (HIN.out _).mono ?_; rintro e wi ⟨rfl, rfl⟩)
        | (refine wl_storeH rfl _ _ rfl (w.heap.size + 1) (.slice none 0 0) (.slice none 0 0) (.slice none 0 0) _ _ _ R1.out rfl rfl rfl rfl rfl ?_))
      refine bodyPost_ret (res_row_slot Try.results35 (Row.put R1.out (c3 (.slice none 0 0) (.slice none 0 0) (.slice none 0 0))) rfl rfl Try.underlying27 rfl info_heap) rfl (endH_no (below_setRow B1.out (by omega) _) (E1.out HE.out) HE.out)
end Go.Proofs.Ythanckifinfpiaa
namespace Go.Proofs.Ythanckifinfpiaa
open Go.RowKit Ph

theorem wt_bounds {h : H} (k : wtH h ≤ 1000) : h.f.length ≤ 1000 ∧ h.l.length ≤ 1000 ∧ h.r.length ≤ 1000 ∧ ∀ i, (h.f.getD i []).length ≤ 1000 := by
  unfold wtH wt at k
  refine ⟨by omega, by omega, by omega, fun i => ?_⟩
  by_cases hi : i < h.f.length
  · have h1 := sumL_succ hi
    have h2 := sumL_le h.f (i + 1)
    omega
  · simp [List.getD, List.getElem?_eq_none (Nat.le_of_not_lt hi)]
theorem EndH.reads {h : H} {ok : Bool} {w w' : World} {e : Ending} (k : EndH h ok w e w') : ∃ a b c, e = .returned (.tuple #[hv a b c, .bool ok]) ∧ HeapAt w' a b c h ∧ Below w.heap.size w w' := by
  obtain ⟨a, b, c, h1, h2, h3⟩ := k
  exact ⟨a, b, c, h1, h2.reads, h3⟩
theorem EndHI.reads {h : H} {n : Int} {ok : Bool} {w w' : World} {e : Ending} (k : EndHI h n ok w e w') : ∃ a b c, e = .returned (.tuple #[hv a b c, .int .i64 n, .bool ok]) ∧ HeapAt w' a b c h ∧ Below w.heap.size w w' := by
  obtain ⟨a, b, c, h1, h2, h3⟩ := k
  exact ⟨a, b, c, h1, h2.reads, h3⟩
theorem EndB.reads5 {bs : List Bool} {ok : Bool} {w w' : World} {e : Ending} (h : EndB bs ok w e w') : ∃ v, e = .returned (.tuple #[v, .bool ok]) ∧ BoolsAt w' v bs ∧ Below w.heap.size w w' := by
  obtain ⟨v, h1, h2, h3⟩ := h
  exact ⟨v, h1, h2.reads.l, h3⟩
set_option maxHeartbeats 12800000 in
set_option maxRecDepth 100000 in
theorem walk_FnNamed (v0 : Value) (z0 : List Int) (v1 : Value) (z1 : List Int) (w : World) (hz0 : BytesAt w v0 z0) (hz1 : BytesAt w v1 z1) : Calls Try.prog 4 #[v0, v1] w fun e w' => e = .returned (.bool true) ∧ Below w.heap.size w w' := by
  obtain ⟨_, _, a0, ca0, hv0, _⟩ := id hz0
  obtain ⟨_, _, a2, ca2, hv2, _⟩ := id hz1
  have HZ := Lib.hid hz0; have M1 := Lib.hid hz1; clear hz0 hz1
  subst hv0
  subst hv2
  generalize hn : z0.length = n at *
  generalize hn2 : z1.length = n2 at *
  clear hn hn2
  by_cases hm : 1048576 < Go.RowKit.wrap64 ((n : Int) + (n2 : Int))
  · go_enter Try.func4, Try.ntmps4
    go_wp2
    go_ret
    exact ⟨rfl, Below.refl _ _⟩
  have L := Lib.hid (Below.refl w.heap.size w)
  go_enter Try.func4, Try.ntmps4
  go_wp2_with fail
  refine (d_SetField _ z0 _ HZ.out).mono ?_
  rintro e w1 ⟨a, b, cc, h, t, f, z, rfl, hsh, hA, hb⟩
  clear HZ
  obtain ⟨paH, qaH, rfl⟩ := hA.f.shape
  obtain ⟨pbH, qbH, rfl⟩ := hA.l.shape
  obtain ⟨pcH, qcH, rfl⟩ := hA.r.shape
  have HA := Lib.hid hA
  have FS := Lib.hid (setF_facts (h := h) (t := t) (f := f) (z := z))
  have HSN := Lib.hid hsh.n; have HSR := Lib.hid hsh.row
  have HBS : Hid (∀ X : H, X = setF h t f z → X.f.length ≤ 1000 ∧ X.l.length ≤ 1000 ∧ X.r.length ≤ 1000 ∧ ∀ i, (X.f.getD i []).length ≤ 1000) := fun X q => by rw [q]; exact wt_bounds (setF_wt h t f z)
  have HC1 := Lib.hid (fun w' q1 => c_SetField (.slice paH h.f.length qaH) (.slice pbH h.l.length qbH) (.slice pcH h.r.length qcH) h t f z w' q1)
  have HC2 := Lib.hid (fun w' q1 => s_SetField (.slice paH h.f.length qaH) (.slice pbH h.l.length qbH) (.slice pcH h.r.length qcH) h t f z w' q1)
  clear hA hsh
  generalize setF h t f z = s at *
  generalize setFOk h t f z = ok at *
  generalize h.f.length = nfH at *
  generalize h.l.length = nlH at *
  generalize h.r.length = nrH at *
  obtain ⟨nfS, hnf⟩ : ∃ q, s.f.length = q := ⟨_, rfl⟩
  obtain ⟨nlS, hnl⟩ : ∃ q, s.l.length = q := ⟨_, rfl⟩
  obtain ⟨nrS, hnr⟩ : ∃ q, s.r.length = q := ⟨_, rfl⟩
  have NSf := Lib.hid hnf; have NSl := Lib.hid hnl; have NSr := Lib.hid hnr
  clear hnf hnl hnr
  replace M1 := Lib.hid (M1.out.below hb)
  replace L := Lib.hid (bst L.out hb L.out.size)
  clear hb
  have hbq := below1 w1 (.cells (c3 (.slice paH nfH qaH) (.slice pbH nlH qbH) (.slice pcH nrH qcH)) 27)
  replace M1 := Lib.hid (M1.out.below hbq)
  replace HA := Lib.hid (HA.out.below hbq)
  replace L := Lib.hid (bst L.out hbq L.out.size)
  clear hbq
  have VH := Lib.hid (show RowH _ _ _ _ _ from Row.new w1 27 (c3 (.slice paH nfH qaH) (.slice pbH nlH qbH) (.slice pcH nrH qcH)))
  have c0VH := VH.out.c0
  have c1VH := VH.out.c1
  have c2VH := VH.out.c2
  go_wp2_with fail
  clear c0VH c1VH c2VH
  refine (HC1.out _ HA.out).mono ?_
  intro e w2 hend
  obtain ⟨aG, bG, cG, rfl, hiG, hb⟩ := hend.reads
  clear hend
  obtain ⟨paG, qaG, rfl⟩ := hiG.f.shape
  obtain ⟨pbG, qbG, rfl⟩ := hiG.l.shape
  obtain ⟨pcG, qcG, rfl⟩ := hiG.r.shape
  replace M1 := Lib.hid (M1.out.below hb)
  replace HA := Lib.hid (HA.out.below hb)
  replace VH := Lib.hid (VH.out.below hb)
  replace L := Lib.hid (bst L.out hb L.out.size)
  have IG := Lib.hid hiG
  clear hb hiG
  simp only [NSf.out, NSl.out, NSr.out] at IG ⊢
  have hbq := below1 w2 (.cells (c3 (.slice paG nfS qaG) (.slice pbG nlS qbG) (.slice pcG nrS qcG)) 27)
  replace M1 := Lib.hid (M1.out.below hbq)
  replace HA := Lib.hid (HA.out.below hbq)
  replace VH := Lib.hid (VH.out.below hbq)
  replace IG := Lib.hid (IG.out.below hbq)
  replace L := Lib.hid (bst L.out hbq L.out.size)
  clear hbq
  have VG := Lib.hid (show RowH _ _ _ _ _ from Row.new w2 27 (c3 (.slice paG nfS qaG) (.slice pbG nlS qbG) (.slice pcG nrS qcG)))
  have c0VH := VH.out.c0
  have c1VH := VH.out.c1
  have c2VH := VH.out.c2
  go_wp2_with fail
  clear c0VH c1VH c2VH
  refine (HC2.out _ HA.out).mono ?_
  intro e w3 hend
  obtain ⟨aW, bW, cW, rfl, hiW, hb⟩ := hend.reads
  clear hend
  obtain ⟨paW, qaW, rfl⟩ := hiW.f.shape
  obtain ⟨pbW, qbW, rfl⟩ := hiW.l.shape
  obtain ⟨pcW, qcW, rfl⟩ := hiW.r.shape
  replace M1 := Lib.hid (M1.out.below hb)
  replace HA := Lib.hid (HA.out.below hb)
  replace VH := Lib.hid (VH.out.below hb)
  replace IG := Lib.hid (IG.out.below hb)
  replace VG := Lib.hid (VG.out.below hb)
  replace L := Lib.hid (bst L.out hb L.out.size)
  have IW := Lib.hid hiW
  clear hb hiW
  simp only [NSf.out, NSl.out, NSr.out] at IW ⊢
  have hbq := below1 w3 (.cells (c3 (.slice paW nfS qaW) (.slice pbW nlS qbW) (.slice pcW nrS qcW)) 27)
  replace M1 := Lib.hid (M1.out.below hbq)
  replace HA := Lib.hid (HA.out.below hbq)
  replace VH := Lib.hid (VH.out.below hbq)
  replace IG := Lib.hid (IG.out.below hbq)
  replace VG := Lib.hid (VG.out.below hbq)
  replace IW := Lib.hid (IW.out.below hbq)
  replace L := Lib.hid (bst L.out hbq L.out.size)
  clear hbq
  have VW := Lib.hid (show RowH _ _ _ _ _ from Row.new w3 27 (c3 (.slice paW nfS qaW) (.slice pbW nlS qbW) (.slice pcW nrS qcW)))
  have e1 : (ok != ok) = false := by simp
  have c0VG := VG.out.c0
  have c1VG := VG.out.c1
  have c2VG := VG.out.c2
  have c0VW := VW.out.c0
  have c1VW := VW.out.c1
  have c2VW := VW.out.c2
  go_wp2_with fail
  clear c0VG c1VG c2VG c0VW c1VW c2VW
  obtain ⟨u1, u2, u3, u4⟩ := HBS.out _ rfl
  refine (c_sameHeap _ _ _ _ _ _ s _ IG.out IW.out u1 u2 u3 u4).mono ?_
  clear u1 u2 u3 u4
  rintro e w4 ⟨rfl, hb⟩
  replace M1 := Lib.hid (M1.out.below hb)
  replace HA := Lib.hid (HA.out.below hb)
  replace VH := Lib.hid (VH.out.below hb)
  replace IG := Lib.hid (IG.out.below hb)
  replace VG := Lib.hid (VG.out.below hb)
  replace IW := Lib.hid (IW.out.below hb)
  replace VW := Lib.hid (VW.out.below hb)
  replace L := Lib.hid (bst L.out hb L.out.size)
  clear hb
  cases ok
  · skip
    go_wp2_with fail
    refine (d_NewThing _ z1 _ M1.out).mono ?_
    rintro e x1a ⟨aU, bU, cU, hU, mU, rfl, hshU, hmU, hAU, hb⟩
    obtain ⟨paU, qaU, rfl⟩ := hAU.f.shape
    obtain ⟨pbU, qbU, rfl⟩ := hAU.l.shape
    obtain ⟨pcU, qcU, rfl⟩ := hAU.r.shape
    replace M1 := Lib.hid (M1.out.below hb)
    replace HA := Lib.hid (HA.out.below hb)
    replace VH := Lib.hid (VH.out.below hb)
    replace IG := Lib.hid (IG.out.below hb)
    replace VG := Lib.hid (VG.out.below hb)
    replace IW := Lib.hid (IW.out.below hb)
    replace VW := Lib.hid (VW.out.below hb)
    replace L := Lib.hid (bst L.out hb L.out.size)
    have HU := Lib.hid hAU
    have FN := Lib.hid (new_facts (h := hU) (m := mU))
    have HBN : Hid (∀ X : H, X = (newP hU mU).1 → X.f.length ≤ 1000 ∧ X.l.length ≤ 1000 ∧ X.r.length ≤ 1000 ∧ ∀ i, (X.f.getD i []).length ≤ 1000) := fun X q => by rw [q]; exact wt_bounds (newP_wt hU mU)
    have HN1 := Lib.hid (fun w' q1 => c_NewThing (.slice paU hU.f.length qaU) (.slice pbU hU.l.length qbU) (.slice pcU hU.r.length qcU) hU mU w' q1)
    have HN2 := Lib.hid (fun w' q1 => s_NewThing (.slice paU hU.f.length qaU) (.slice pbU hU.l.length qbU) (.slice pcU hU.r.length qcU) hU mU w' q1)
    clear hb hAU hshU
    generalize (newP hU mU).1 = hN at *
    generalize (newP hU mU).2 = kN at *
    generalize newOk hU mU = okN at *
    generalize hU.f.length = nfU at *
    generalize hU.l.length = nlU at *
    generalize hU.r.length = nrU at *
    obtain ⟨nfN, hnf⟩ : ∃ q, hN.f.length = q := ⟨_, rfl⟩
    obtain ⟨nlN, hnl⟩ : ∃ q, hN.l.length = q := ⟨_, rfl⟩
    obtain ⟨nrN, hnr⟩ : ∃ q, hN.r.length = q := ⟨_, rfl⟩
    have NNf := Lib.hid hnf; have NNl := Lib.hid hnl; have NNr := Lib.hid hnr
    clear hnf hnl hnr
    have hbq := below1 x1a (.cells (c3 (.slice paU nfU qaU) (.slice pbU nlU qbU) (.slice pcU nrU qcU)) 27)
    replace M1 := Lib.hid (M1.out.below hbq)
    replace HA := Lib.hid (HA.out.below hbq)
    replace VH := Lib.hid (VH.out.below hbq)
    replace IG := Lib.hid (IG.out.below hbq)
    replace VG := Lib.hid (VG.out.below hbq)
    replace IW := Lib.hid (IW.out.below hbq)
    replace VW := Lib.hid (VW.out.below hbq)
    replace HU := Lib.hid (HU.out.below hbq)
    replace L := Lib.hid (bst L.out hbq L.out.size)
    clear hbq
    have VU := Lib.hid (show RowH _ _ _ _ _ from Row.new x1a 27 (c3 (.slice paU nfU qaU) (.slice pbU nlU qbU) (.slice pcU nrU qcU)))
    have c0VU := VU.out.c0
    have c1VU := VU.out.c1
    have c2VU := VU.out.c2
    go_wp2_with fail
    clear c0VU c1VU c2VU
    refine (HN1.out _ HU.out).mono ?_
    intro e x2a hend
    obtain ⟨aM, bM, cM, rfl, hiM, hb⟩ := hend.reads
    clear hend
    obtain ⟨paM, qaM, rfl⟩ := hiM.f.shape
    obtain ⟨pbM, qbM, rfl⟩ := hiM.l.shape
    obtain ⟨pcM, qcM, rfl⟩ := hiM.r.shape
    replace M1 := Lib.hid (M1.out.below hb)
    replace HA := Lib.hid (HA.out.below hb)
    replace VH := Lib.hid (VH.out.below hb)
    replace IG := Lib.hid (IG.out.below hb)
    replace VG := Lib.hid (VG.out.below hb)
    replace IW := Lib.hid (IW.out.below hb)
    replace VW := Lib.hid (VW.out.below hb)
    replace HU := Lib.hid (HU.out.below hb)
    replace VU := Lib.hid (VU.out.below hb)
    replace L := Lib.hid (bst L.out hb L.out.size)
    have IM := Lib.hid hiM
    clear hb hiM
    simp only [NNf.out, NNl.out, NNr.out] at IM ⊢
    have hbq := below1 x2a (.cells (c3 (.slice paM nfN qaM) (.slice pbM nlN qbM) (.slice pcM nrN qcM)) 27)
    replace M1 := Lib.hid (M1.out.below hbq)
    replace HA := Lib.hid (HA.out.below hbq)
    replace VH := Lib.hid (VH.out.below hbq)
    replace IG := Lib.hid (IG.out.below hbq)
    replace VG := Lib.hid (VG.out.below hbq)
    replace IW := Lib.hid (IW.out.below hbq)
    replace VW := Lib.hid (VW.out.below hbq)
    replace HU := Lib.hid (HU.out.below hbq)
    replace VU := Lib.hid (VU.out.below hbq)
    replace IM := Lib.hid (IM.out.below hbq)
    replace L := Lib.hid (bst L.out hbq L.out.size)
    clear hbq
    have VM := Lib.hid (show RowH _ _ _ _ _ from Row.new x2a 27 (c3 (.slice paM nfN qaM) (.slice pbM nlN qbM) (.slice pcM nrN qcM)))
    have c0VU := VU.out.c0
    have c1VU := VU.out.c1
    have c2VU := VU.out.c2
    go_wp2_with fail
    clear c0VU c1VU c2VU
    refine (HN2.out _ HU.out).mono ?_
    intro e x3a hend
    obtain ⟨aO, bO, cO, rfl, hiO, hb⟩ := hend.reads
    clear hend
    obtain ⟨paO, qaO, rfl⟩ := hiO.f.shape
    obtain ⟨pbO, qbO, rfl⟩ := hiO.l.shape
    obtain ⟨pcO, qcO, rfl⟩ := hiO.r.shape
    replace M1 := Lib.hid (M1.out.below hb)
    replace HA := Lib.hid (HA.out.below hb)
    replace VH := Lib.hid (VH.out.below hb)
    replace IG := Lib.hid (IG.out.below hb)
    replace VG := Lib.hid (VG.out.below hb)
    replace IW := Lib.hid (IW.out.below hb)
    replace VW := Lib.hid (VW.out.below hb)
    replace HU := Lib.hid (HU.out.below hb)
    replace VU := Lib.hid (VU.out.below hb)
    replace IM := Lib.hid (IM.out.below hb)
    replace VM := Lib.hid (VM.out.below hb)
    replace L := Lib.hid (bst L.out hb L.out.size)
    have IO := Lib.hid hiO
    clear hb hiO
    simp only [NNf.out, NNl.out, NNr.out] at IO ⊢
    have hbq := below1 x3a (.cells (c3 (.slice paO nfN qaO) (.slice pbO nlN qbO) (.slice pcO nrN qcO)) 27)
    replace M1 := Lib.hid (M1.out.below hbq)
    replace HA := Lib.hid (HA.out.below hbq)
    replace VH := Lib.hid (VH.out.below hbq)
    replace IG := Lib.hid (IG.out.below hbq)
    replace VG := Lib.hid (VG.out.below hbq)
    replace IW := Lib.hid (IW.out.below hbq)
    replace VW := Lib.hid (VW.out.below hbq)
    replace HU := Lib.hid (HU.out.below hbq)
    replace VU := Lib.hid (VU.out.below hbq)
    replace IM := Lib.hid (IM.out.below hbq)
    replace VM := Lib.hid (VM.out.below hbq)
    replace IO := Lib.hid (IO.out.below hbq)
    replace L := Lib.hid (bst L.out hbq L.out.size)
    clear hbq
    have VO := Lib.hid (show RowH _ _ _ _ _ from Row.new x3a 27 (c3 (.slice paO nfN qaO) (.slice pbO nlN qbO) (.slice pcO nrN qcO)))
    go_wp2_with fail
    refine (d_SetRoot _ z1 _ M1.out).mono ?_
    rintro e x4a ⟨aR, bR, cR, hR, kR, tR, rfl, hshR, hAR, hb⟩
    obtain ⟨paR, qaR, rfl⟩ := hAR.f.shape
    obtain ⟨pbR, qbR, rfl⟩ := hAR.l.shape
    obtain ⟨pcR, qcR, rfl⟩ := hAR.r.shape
    replace M1 := Lib.hid (M1.out.below hb)
    replace HA := Lib.hid (HA.out.below hb)
    replace VH := Lib.hid (VH.out.below hb)
    replace IG := Lib.hid (IG.out.below hb)
    replace VG := Lib.hid (VG.out.below hb)
    replace IW := Lib.hid (IW.out.below hb)
    replace VW := Lib.hid (VW.out.below hb)
    replace HU := Lib.hid (HU.out.below hb)
    replace VU := Lib.hid (VU.out.below hb)
    replace IM := Lib.hid (IM.out.below hb)
    replace VM := Lib.hid (VM.out.below hb)
    replace IO := Lib.hid (IO.out.below hb)
    replace VO := Lib.hid (VO.out.below hb)
    replace L := Lib.hid (bst L.out hb L.out.size)
    have HRR := Lib.hid hAR
    have HBR : Hid (∀ X : H, X = setR hR kR tR → X.f.length ≤ 1000 ∧ X.l.length ≤ 1000 ∧ X.r.length ≤ 1000 ∧ ∀ i, (X.f.getD i []).length ≤ 1000) := fun X q => by rw [q]; exact wt_bounds (setR_wt hR kR tR)
    have HR1 := Lib.hid (fun w' q1 => c_SetRoot (.slice paR hR.f.length qaR) (.slice pbR hR.l.length qbR) (.slice pcR hR.r.length qcR) hR kR tR w' q1)
    have HR2 := Lib.hid (fun w' q1 => s_SetRoot (.slice paR hR.f.length qaR) (.slice pbR hR.l.length qbR) (.slice pcR hR.r.length qcR) hR kR tR w' q1)
    clear hb hAR hshR
    generalize setR hR kR tR = hT at *
    generalize setROk hR kR tR = okR at *
    generalize hR.f.length = nfR at *
    generalize hR.l.length = nlR at *
    generalize hR.r.length = nrR at *
    obtain ⟨nfT, hnf⟩ : ∃ q, hT.f.length = q := ⟨_, rfl⟩
    obtain ⟨nlT, hnl⟩ : ∃ q, hT.l.length = q := ⟨_, rfl⟩
    obtain ⟨nrT, hnr⟩ : ∃ q, hT.r.length = q := ⟨_, rfl⟩
    have NTf := Lib.hid hnf; have NTl := Lib.hid hnl; have NTr := Lib.hid hnr
    clear hnf hnl hnr
    have hbq := below1 x4a (.cells (c3 (.slice paR nfR qaR) (.slice pbR nlR qbR) (.slice pcR nrR qcR)) 27)
    replace M1 := Lib.hid (M1.out.below hbq)
    replace HA := Lib.hid (HA.out.below hbq)
    replace VH := Lib.hid (VH.out.below hbq)
    replace IG := Lib.hid (IG.out.below hbq)
    replace VG := Lib.hid (VG.out.below hbq)
    replace IW := Lib.hid (IW.out.below hbq)
    replace VW := Lib.hid (VW.out.below hbq)
    replace HU := Lib.hid (HU.out.below hbq)
    replace VU := Lib.hid (VU.out.below hbq)
    replace IM := Lib.hid (IM.out.below hbq)
    replace VM := Lib.hid (VM.out.below hbq)
    replace IO := Lib.hid (IO.out.below hbq)
    replace VO := Lib.hid (VO.out.below hbq)
    replace HRR := Lib.hid (HRR.out.below hbq)
    replace L := Lib.hid (bst L.out hbq L.out.size)
    clear hbq
    have VR := Lib.hid (show RowH _ _ _ _ _ from Row.new x4a 27 (c3 (.slice paR nfR qaR) (.slice pbR nlR qbR) (.slice pcR nrR qcR)))
    have c0VR := VR.out.c0
    have c1VR := VR.out.c1
    have c2VR := VR.out.c2
    go_wp2_with fail
    clear c0VR c1VR c2VR
    refine (HR1.out _ HRR.out).mono ?_
    intro e x5a hend
    obtain ⟨aP, bP, cP, rfl, hiP, hb⟩ := hend.reads
    clear hend
    obtain ⟨paP, qaP, rfl⟩ := hiP.f.shape
    obtain ⟨pbP, qbP, rfl⟩ := hiP.l.shape
    obtain ⟨pcP, qcP, rfl⟩ := hiP.r.shape
    replace M1 := Lib.hid (M1.out.below hb)
    replace HA := Lib.hid (HA.out.below hb)
    replace VH := Lib.hid (VH.out.below hb)
    replace IG := Lib.hid (IG.out.below hb)
    replace VG := Lib.hid (VG.out.below hb)
    replace IW := Lib.hid (IW.out.below hb)
    replace VW := Lib.hid (VW.out.below hb)
    replace HU := Lib.hid (HU.out.below hb)
    replace VU := Lib.hid (VU.out.below hb)
    replace IM := Lib.hid (IM.out.below hb)
    replace VM := Lib.hid (VM.out.below hb)
    replace IO := Lib.hid (IO.out.below hb)
    replace VO := Lib.hid (VO.out.below hb)
    replace HRR := Lib.hid (HRR.out.below hb)
    replace VR := Lib.hid (VR.out.below hb)
    replace L := Lib.hid (bst L.out hb L.out.size)
    have IP := Lib.hid hiP
    clear hb hiP
    simp only [NTf.out, NTl.out, NTr.out] at IP ⊢
    have hbq := below1 x5a (.cells (c3 (.slice paP nfT qaP) (.slice pbP nlT qbP) (.slice pcP nrT qcP)) 27)
    replace M1 := Lib.hid (M1.out.below hbq)
    replace HA := Lib.hid (HA.out.below hbq)
    replace VH := Lib.hid (VH.out.below hbq)
    replace IG := Lib.hid (IG.out.below hbq)
    replace VG := Lib.hid (VG.out.below hbq)
    replace IW := Lib.hid (IW.out.below hbq)
    replace VW := Lib.hid (VW.out.below hbq)
    replace HU := Lib.hid (HU.out.below hbq)
    replace VU := Lib.hid (VU.out.below hbq)
    replace IM := Lib.hid (IM.out.below hbq)
    replace VM := Lib.hid (VM.out.below hbq)
    replace IO := Lib.hid (IO.out.below hbq)
    replace VO := Lib.hid (VO.out.below hbq)
    replace HRR := Lib.hid (HRR.out.below hbq)
    replace VR := Lib.hid (VR.out.below hbq)
    replace IP := Lib.hid (IP.out.below hbq)
    replace L := Lib.hid (bst L.out hbq L.out.size)
    clear hbq
    have VP := Lib.hid (show RowH _ _ _ _ _ from Row.new x5a 27 (c3 (.slice paP nfT qaP) (.slice pbP nlT qbP) (.slice pcP nrT qcP)))
    have c0VR := VR.out.c0
    have c1VR := VR.out.c1
    have c2VR := VR.out.c2
    go_wp2_with fail
    clear c0VR c1VR c2VR
    refine (HR2.out _ HRR.out).mono ?_
    intro e x6a hend
    obtain ⟨aQ, bQ, cQ, rfl, hiQ, hb⟩ := hend.reads
    clear hend
    obtain ⟨paQ, qaQ, rfl⟩ := hiQ.f.shape
    obtain ⟨pbQ, qbQ, rfl⟩ := hiQ.l.shape
    obtain ⟨pcQ, qcQ, rfl⟩ := hiQ.r.shape
    replace M1 := Lib.hid (M1.out.below hb)
    replace HA := Lib.hid (HA.out.below hb)
    replace VH := Lib.hid (VH.out.below hb)
    replace IG := Lib.hid (IG.out.below hb)
    replace VG := Lib.hid (VG.out.below hb)
    replace IW := Lib.hid (IW.out.below hb)
    replace VW := Lib.hid (VW.out.below hb)
    replace HU := Lib.hid (HU.out.below hb)
    replace VU := Lib.hid (VU.out.below hb)
    replace IM := Lib.hid (IM.out.below hb)
    replace VM := Lib.hid (VM.out.below hb)
    replace IO := Lib.hid (IO.out.below hb)
    replace VO := Lib.hid (VO.out.below hb)
    replace HRR := Lib.hid (HRR.out.below hb)
    replace VR := Lib.hid (VR.out.below hb)
    replace IP := Lib.hid (IP.out.below hb)
    replace VP := Lib.hid (VP.out.below hb)
    replace L := Lib.hid (bst L.out hb L.out.size)
    have IQ := Lib.hid hiQ
    clear hb hiQ
    simp only [NTf.out, NTl.out, NTr.out] at IQ ⊢
    have hbq := below1 x6a (.cells (c3 (.slice paQ nfT qaQ) (.slice pbQ nlT qbQ) (.slice pcQ nrT qcQ)) 27)
    replace M1 := Lib.hid (M1.out.below hbq)
    replace HA := Lib.hid (HA.out.below hbq)
    replace VH := Lib.hid (VH.out.below hbq)
    replace IG := Lib.hid (IG.out.below hbq)
    replace VG := Lib.hid (VG.out.below hbq)
    replace IW := Lib.hid (IW.out.below hbq)
    replace VW := Lib.hid (VW.out.below hbq)
    replace HU := Lib.hid (HU.out.below hbq)
    replace VU := Lib.hid (VU.out.below hbq)
    replace IM := Lib.hid (IM.out.below hbq)
    replace VM := Lib.hid (VM.out.below hbq)
    replace IO := Lib.hid (IO.out.below hbq)
    replace VO := Lib.hid (VO.out.below hbq)
    replace HRR := Lib.hid (HRR.out.below hbq)
    replace VR := Lib.hid (VR.out.below hbq)
    replace IP := Lib.hid (IP.out.below hbq)
    replace VP := Lib.hid (VP.out.below hbq)
    replace IQ := Lib.hid (IQ.out.below hbq)
    replace L := Lib.hid (bst L.out hbq L.out.size)
    clear hbq
    have VQ := Lib.hid (show RowH _ _ _ _ _ from Row.new x6a 27 (c3 (.slice paQ nfT qaQ) (.slice pbQ nlT qbQ) (.slice pcQ nrT qcQ)))
    have e5 : (okN != okN) = false := by simp
    have e6 : ((kN : Int) != (kN : Int)) = false := by simp
    have e7 : (okR != okR) = false := by simp
    have c0VM := VM.out.c0
    have c1VM := VM.out.c1
    have c2VM := VM.out.c2
    have c0VO := VO.out.c0
    have c1VO := VO.out.c1
    have c2VO := VO.out.c2
    go_wp2_with fail
    clear c0VM c1VM c2VM c0VO c1VO c2VO
    obtain ⟨u1, u2, u3, u4⟩ := HBN.out _ rfl
    refine (c_sameHeap _ _ _ _ _ _ hN _ IM.out IO.out u1 u2 u3 u4).mono ?_
    clear u1 u2 u3 u4
    rintro e y1a ⟨rfl, hb⟩
    replace M1 := Lib.hid (M1.out.below hb)
    replace HA := Lib.hid (HA.out.below hb)
    replace VH := Lib.hid (VH.out.below hb)
    replace IG := Lib.hid (IG.out.below hb)
    replace VG := Lib.hid (VG.out.below hb)
    replace IW := Lib.hid (IW.out.below hb)
    replace VW := Lib.hid (VW.out.below hb)
    replace HU := Lib.hid (HU.out.below hb)
    replace VU := Lib.hid (VU.out.below hb)
    replace IM := Lib.hid (IM.out.below hb)
    replace VM := Lib.hid (VM.out.below hb)
    replace IO := Lib.hid (IO.out.below hb)
    replace VO := Lib.hid (VO.out.below hb)
    replace HRR := Lib.hid (HRR.out.below hb)
    replace VR := Lib.hid (VR.out.below hb)
    replace IP := Lib.hid (IP.out.below hb)
    replace VP := Lib.hid (VP.out.below hb)
    replace IQ := Lib.hid (IQ.out.below hb)
    replace VQ := Lib.hid (VQ.out.below hb)
    replace L := Lib.hid (bst L.out hb L.out.size)
    clear hb
    have c0VP := VP.out.c0
    have c1VP := VP.out.c1
    have c2VP := VP.out.c2
    have c0VQ := VQ.out.c0
    have c1VQ := VQ.out.c1
    have c2VQ := VQ.out.c2
    go_wp2_with fail
    clear c0VP c1VP c2VP c0VQ c1VQ c2VQ
    obtain ⟨u1, u2, u3, u4⟩ := HBR.out _ rfl
    refine (c_sameHeap _ _ _ _ _ _ hT _ IP.out IQ.out u1 u2 u3 u4).mono ?_
    clear u1 u2 u3 u4
    rintro e y2a ⟨rfl, hb⟩
    replace M1 := Lib.hid (M1.out.below hb)
    replace HA := Lib.hid (HA.out.below hb)
    replace VH := Lib.hid (VH.out.below hb)
    replace IG := Lib.hid (IG.out.below hb)
    replace VG := Lib.hid (VG.out.below hb)
    replace IW := Lib.hid (IW.out.below hb)
    replace VW := Lib.hid (VW.out.below hb)
    replace HU := Lib.hid (HU.out.below hb)
    replace VU := Lib.hid (VU.out.below hb)
    replace IM := Lib.hid (IM.out.below hb)
    replace VM := Lib.hid (VM.out.below hb)
    replace IO := Lib.hid (IO.out.below hb)
    replace VO := Lib.hid (VO.out.below hb)
    replace HRR := Lib.hid (HRR.out.below hb)
    replace VR := Lib.hid (VR.out.below hb)
    replace IP := Lib.hid (IP.out.below hb)
    replace VP := Lib.hid (VP.out.below hb)
    replace IQ := Lib.hid (IQ.out.below hb)
    replace VQ := Lib.hid (VQ.out.below hb)
    replace L := Lib.hid (bst L.out hb L.out.size)
    clear hb
    cases okN
    · go_wp2_with fail
      go_ret
      exact ⟨rfl, L.out⟩
    obtain ⟨g1, g2, g3, g4, g5, g6, g7⟩ := FN.out rfl
    have HC3 := Lib.hid (fun w' q1 => c_ReachedIn (.slice paM nfN qaM) (.slice pbM nlN qbM) (.slice pcM nrN qcM) hN w' q1)
    have HC4 := Lib.hid (fun w' q1 => c_GoodHeap (.slice paM nfN qaM) (.slice pbM nlN qbM) (.slice pcM nrN qcM) hN w' q1)
    rw [g1] at HC3 HC4
    rw [NNf.out] at g2 g3 g4
    rw [NNl.out] at g4
    have G5 := Lib.hid g5; have G6 := Lib.hid g6; have G7 := Lib.hid g7; have G2 := Lib.hid g2; have G4 := Lib.hid g4
    clear g1 g2 g4 g5 g6 g7 FN
    generalize reachR hN = rb at *
    have c0VM := VM.out.c0
    have c1VM := VM.out.c1
    have c2VM := VM.out.c2
    go_wp2_with fail
    clear c0VM c1VM c2VM
    refine (HC3.out _ IM.out).mono ?_
    intro e y3a hend
    obtain ⟨vB, rfl, hiB, hb⟩ := hend.reads5
    clear hend
    obtain ⟨pB, qB, rfl⟩ := hiB.shape
    replace M1 := Lib.hid (M1.out.below hb)
    replace HA := Lib.hid (HA.out.below hb)
    replace VH := Lib.hid (VH.out.below hb)
    replace IG := Lib.hid (IG.out.below hb)
    replace VG := Lib.hid (VG.out.below hb)
    replace IW := Lib.hid (IW.out.below hb)
    replace VW := Lib.hid (VW.out.below hb)
    replace HU := Lib.hid (HU.out.below hb)
    replace VU := Lib.hid (VU.out.below hb)
    replace IM := Lib.hid (IM.out.below hb)
    replace VM := Lib.hid (VM.out.below hb)
    replace IO := Lib.hid (IO.out.below hb)
    replace VO := Lib.hid (VO.out.below hb)
    replace HRR := Lib.hid (HRR.out.below hb)
    replace VR := Lib.hid (VR.out.below hb)
    replace IP := Lib.hid (IP.out.below hb)
    replace VP := Lib.hid (VP.out.below hb)
    replace IQ := Lib.hid (IQ.out.below hb)
    replace VQ := Lib.hid (VQ.out.below hb)
    replace L := Lib.hid (bst L.out hb L.out.size)
    have IB := Lib.hid hiB
    clear hb hiB
    have c0VM := VM.out.c0
    have c1VM := VM.out.c1
    have c2VM := VM.out.c2
    go_wp2_with fail
    clear c0VM c1VM c2VM
    refine (HC4.out _ IM.out).mono ?_
    rintro e y4a ⟨rfl, hb⟩
    replace M1 := Lib.hid (M1.out.below hb)
    replace HA := Lib.hid (HA.out.below hb)
    replace VH := Lib.hid (VH.out.below hb)
    replace IG := Lib.hid (IG.out.below hb)
    replace VG := Lib.hid (VG.out.below hb)
    replace IW := Lib.hid (IW.out.below hb)
    replace VW := Lib.hid (VW.out.below hb)
    replace HU := Lib.hid (HU.out.below hb)
    replace VU := Lib.hid (VU.out.below hb)
    replace IM := Lib.hid (IM.out.below hb)
    replace VM := Lib.hid (VM.out.below hb)
    replace IO := Lib.hid (IO.out.below hb)
    replace VO := Lib.hid (VO.out.below hb)
    replace HRR := Lib.hid (HRR.out.below hb)
    replace VR := Lib.hid (VR.out.below hb)
    replace IP := Lib.hid (IP.out.below hb)
    replace VP := Lib.hid (VP.out.below hb)
    replace IQ := Lib.hid (IQ.out.below hb)
    replace VQ := Lib.hid (VQ.out.below hb)
    replace IB := Lib.hid (IB.out.below hb)
    replace L := Lib.hid (bst L.out hb L.out.size)
    clear hb
    have g4 := G4.out
    rw [G2.out] at IB ⊢
    clear G2 G4
    subst g4
    obtain ⟨bb, ob, rfl, hcb⟩ := IB.out.at' (by omega)
    obtain ⟨bl, ol, rfl, hcl⟩ := IM.out.l.at' (by omega)
    obtain ⟨bf, of', rfl, hcf⟩ := IM.out.f.at' (by omega)
    have q1 := hcb kN (by omega)
    have q2 := hcl kN (by omega)
    obtain ⟨u, q3, hu⟩ := hcf kN (by omega)
    obtain ⟨ua, uc, rfl⟩ := hu.shape
    rw [G5.out] at q1
    rw [G6.out] at q2
    have g7 := G7.out
    generalize (hN.f.getD kN []).length = ul at *
    have e8 : ((ul : Int) != mU) = false := by rw [g7]; simp
    have k0 : (0 : Int) ≤ (kN : Int) := by omega
    have k1 : (kN : Int) < ((nlN : Nat) : Int) := by omega
    have k2 : ¬ ((nlN : Nat) : Int) ≤ (kN : Int) := by omega
    clear hcb hcl hcf hu g7
    have c0VM := VM.out.c0
    have c1VM := VM.out.c1
    have c2VM := VM.out.c2
    go_wp2_with fail
    go_ret
    exact ⟨rfl, L.out⟩
  obtain ⟨tn, fn, ht, hf', htn, hfn, hfl, _, _, hget, _⟩ := FS.out rfl
  subst ht
  subst hf'
  rw [NSf.out] at hfl
  obtain rfl : nfH = nfS := hfl.symm
  have HGET := Lib.hid hget; have HFN := Lib.hid hfn
  have hn12 := HSN.out
  clear hget hfn hfl FS
  have c0 := VH.out.c0
  go_wp2_with fail
  clear c0
  go_loopw [74] (fun i wr => ∃ k : Nat, k ≤ nfH ∧ i = .int .i64 (k : Int) ∧ ∃ nd, wr = w4.drewN nd) (fun i _ => nfH - (intOf i).toNat)
  case atStart => exact ⟨0, Nat.zero_le _, rfl, drewN_refl _⟩
  case round =>
    obtain ⟨k, hk, rfl, nd, rfl⟩ := hrel
    by_cases hkl : k < nfH
    · obtain ⟨fb, fo, rfl, hcf⟩ := HA.out.f.at' (by omega)
      obtain ⟨u, quf, huf⟩ := hcf k hkl
      obtain ⟨ua, uc, rfl⟩ := huf.shape
      obtain ⟨sb, so, rfl, hcs⟩ := IG.out.f.at' (by omega)
      obtain ⟨u', qus, hus⟩ := hcs k hkl
      obtain ⟨ua', uc', rfl⟩ := hus.shape
      have hgk : s.f.getD k [] = if k = tn then (h.f.getD k []).set fn z else h.f.getD k [] := by
        rw [HGET.out k]
        by_cases q : k = tn
        · rw [if_pos q, if_pos q, q]
        · rw [if_neg q, if_neg q]
      have hlen : (s.f.getD k []).length = (h.f.getD k []).length := by rw [hgk]; split <;> simp_all
      rw [hlen] at qus hus
      have hr3 := HSR.out k
      have HUF := Lib.hid huf; have HUS := Lib.hid hus; have HGK := Lib.hid hgk
      have c0 : (w4.drewN nd).cell? ⟨w1.heap.size, 0, none⟩ = some (.slice (some ⟨fb, fo, none⟩) nfH qaH) := VH.out.c0
      have cf : (w4.drewN nd).cell? ⟨fb, fo + k, none⟩ = some (.slice ua (h.f.getD k []).length uc) := quf
      have CF := Lib.hid quf; have CS := Lib.hid qus
      have HFNK : Hid (k = tn → fn < (h.f.getD k []).length) := fun q => by rw [q]; exact HFN.out
      have k1 : (k : Int) < (nfH : Int) := by omega
      have k0 : (0 : Int) ≤ (k : Int) := by omega
      clear hcf hcs quf qus huf hus hgk hlen
      generalize h.f.getD k [] = row at *
      generalize s.f.getD k [] = srow at *
      generalize hul : row.length = ul at *
      have HUL := Lib.hid hul; clear hul
      go_wp2_with fail
      clear c0
      go_loopw [83] (fun i wr => ∃ i2 : Nat, i2 ≤ ul ∧ i = .int .i64 (i2 : Int) ∧ ∃ nd, wr = w4.drewN nd) (fun i _ => ul - (intOf i).toNat)
      case atStart => exact ⟨0, Nat.zero_le _, rfl, nd, rfl⟩
      case round =>
        clear cf
        obtain ⟨i, hi, rfl, nd, rfl⟩ := hrel
        by_cases hil : i < ul
        · obtain ⟨rb, ro, rfl, hcr⟩ := HUF.out.at' (by omega)
          have hsl : srow.length = ul := HUS.out.len
          have HSL := Lib.hid hsl; clear hsl
          obtain ⟨tb, to, rfl, hct⟩ := HUS.out.at' (by omega)
          have d0 : (w4.drewN nd).drew.cell? ⟨w1.heap.size, 0, none⟩ = some (.slice (some ⟨fb, fo, none⟩) nfH qaH) := VH.out.c0
          have d1 : (w4.drewN nd).drew.cell? ⟨w2.heap.size, 0, none⟩ = some (.slice (some ⟨sb, so, none⟩) nfH qaG) := VG.out.c0
          have d2 : (w4.drewN nd).drew.cell? ⟨fb, fo + k, none⟩ = some (.slice (some ⟨rb, ro, none⟩) ul uc) := CF.out
          have d3 : (w4.drewN nd).drew.cell? ⟨sb, so + k, none⟩ = some (.slice (some ⟨tb, to, none⟩) ul uc') := CS.out
          have d4 : (w4.drewN nd).drew.cell? ⟨rb, ro + i, none⟩ = some (.int .i64 (row.getD i 0)) := hcr i hil
          have d5 : (w4.drewN nd).drew.cell? ⟨tb, to + i, none⟩ = some (.int .i64 (srow.getD i 0)) := hct i hil
          have hy1 : k = tn → i = fn → srow.getD i 0 = z := fun q1 q2 => by rw [HGK.out, if_pos q1, getD_setI (by rw [HUL.out]; omega), if_pos q2]
          have hy2 : ¬ (k = tn ∧ i = fn) → srow.getD i 0 = row.getD i 0 := fun q => by
            rw [HGK.out]
            by_cases q1 : k = tn
            · rw [if_pos q1, getD_setI (by have := HFNK.out q1; rw [HUL.out]; exact this), if_neg (fun q2 => q ⟨q1, q2⟩)]
            · rw [if_neg q1]
          have HY1 := Lib.hid hy1; have HY2 := Lib.hid hy2
          have i1 : (i : Int) < (ul : Int) := by omega
          have i0 : (0 : Int) ≤ (i : Int) := by omega
          clear hcr hct hy1 hy2
          generalize row.getD i 0 = x at *
          generalize srow.getD i 0 = y at *
          by_cases hkt : k = tn
          · by_cases hif : i = fn
            · have hyz := HY1.out hkt hif
              subst hyz
              subst hkt
              subst hif
              have b1 : ((k : Int) == (k : Int)) = true := by simp
              have b2 : ((k : Int) != (k : Int)) = false := by simp
              have b3 : ((i : Int) == (i : Int)) = true := by simp
              have b4 : ((i : Int) != (i : Int)) = false := by simp
              have b5 : (y != y) = false := by simp
              go_wp2_with fail
              refine wp_region_held_drew (S := (fun w' => w'.cell? ⟨w1.heap.size, 0, none⟩ = some (.slice (some ⟨fb, fo, none⟩) nfH qaH) ∧ w'.cell? ⟨w2.heap.size, 0, none⟩ = some (.slice (some ⟨sb, so, none⟩) nfH qaG) ∧ w'.cell? ⟨fb, fo + k, none⟩ = some (.slice (some ⟨rb, ro, none⟩) ul uc) ∧ w'.cell? ⟨sb, so + k, none⟩ = some (.slice (some ⟨tb, to, none⟩) ul uc') ∧ w'.cell? ⟨rb, ro + i, none⟩ = some (.int .i64 x) ∧ w'.cell? ⟨tb, to + i, none⟩ = some (.int .i64 y))) (by kernel_rfl) (⟨d0, d1, d2, d3, d4, d5⟩) (fun hHeld => ?_)
              refine wpAnyH_take (i := 0) (v := ?va0x1) rfl (by kernel_rfl) (by kernel_rfl) (by kernel_rfl) (fun _ _ _ h => h) (Or.inl ⟨by rfl, ?hy0x1⟩) (by assumption) ?rest0x1
              case hy0x1 => (intro w hSw; (try dsimp only at hSw); go_simp; try with_reducible rfl)
              (try simp only [Act.put, List.getElem_toArray, List.getElem_cons_zero, List.setIfInBounds_toArray, List.set_cons_zero, List.set_cons_succ])
              refine wpAnyH_take (i := 1) (v := ?va1x2) rfl (by kernel_rfl) (by kernel_rfl) (by kernel_rfl) (fun _ _ _ h => h) (Or.inl ⟨by rfl, ?hy1x2⟩) (by assumption) ?rest1x2
              case hy1x2 => (intro w hSw; (try dsimp only at hSw); go_simp; try with_reducible rfl)
              (try simp only [Act.put, List.getElem_toArray, List.getElem_cons_zero, List.getElem_cons_succ, List.setIfInBounds_toArray, List.set_cons_zero, List.set_cons_succ])
              refine wpAnyH_take (i := 2) (v := ?va2x3) rfl (by kernel_rfl) (by kernel_rfl) (by kernel_rfl) (fun _ _ _ h => h) (Or.inl ⟨by rfl, ?hy2x3⟩) (by assumption) ?rest2x3
              case hy2x3 => (intro w hSw; (try dsimp only at hSw); go_simp; try with_reducible rfl)
              (try simp only [Act.put, List.getElem_toArray, List.getElem_cons_zero, List.getElem_cons_succ, List.setIfInBounds_toArray, List.set_cons_zero, List.set_cons_succ])
              refine wpAnyH_take (i := 3) (v := ?va3x4) rfl (by kernel_rfl) (by kernel_rfl) (by kernel_rfl) (fun _ _ _ h => h) (Or.inl ⟨by rfl, ?hy3x4⟩) (by assumption) ?rest3x4
              case hy3x4 => (intro w hSw; (try dsimp only at hSw); go_simp; try with_reducible rfl)
              (try simp only [Act.put, List.getElem_toArray, List.getElem_cons_zero, List.getElem_cons_succ, List.setIfInBounds_toArray, List.set_cons_zero, List.set_cons_succ])
              refine wpAnyH_take (i := 4) (v := ?va4x5) rfl (by kernel_rfl) (by kernel_rfl) (by kernel_rfl) (fun _ _ _ h => h) (Or.inl ⟨by rfl, ?hy4x5⟩) (by assumption) ?rest4x5
              case hy4x5 => (intro w hSw; (try dsimp only at hSw); go_simp; try with_reducible rfl)
              (try simp only [Act.put, List.getElem_toArray, List.getElem_cons_zero, List.getElem_cons_succ, List.setIfInBounds_toArray, List.set_cons_zero, List.set_cons_succ])
              refine wpAnyH_take (i := 5) (v := ?va5x6) rfl (by kernel_rfl) (by kernel_rfl) (by kernel_rfl) (fun _ _ _ h => h) (Or.inl ⟨by rfl, ?hy5x6⟩) (by assumption) ?rest5x6
              case hy5x6 => (intro w hSw; (try dsimp only at hSw); go_simp; try with_reducible rfl)
              (try simp only [Act.put, List.getElem_toArray, List.getElem_cons_zero, List.getElem_cons_succ, List.setIfInBounds_toArray, List.set_cons_zero, List.set_cons_succ])
              refine wpAnyH_take (i := 6) (v := ?va6x7) rfl (by kernel_rfl) (by kernel_rfl) (by kernel_rfl) (fun _ _ _ h => h) (Or.inl ⟨by rfl, ?hy6x7⟩) (by assumption) ?rest6x7
              case hy6x7 => (intro w hSw; (try dsimp only at hSw); go_simp; try with_reducible rfl)
              (try simp only [Act.put, List.getElem_toArray, List.getElem_cons_zero, List.getElem_cons_succ, List.setIfInBounds_toArray, List.set_cons_zero, List.set_cons_succ])
              refine wpAnyH_take (i := 7) (v := ?va7x8) rfl (by kernel_rfl) (by kernel_rfl) (by kernel_rfl) (fun _ _ _ h => h) (Or.inl ⟨by rfl, ?hy7x8⟩) (by assumption) ?rest7x8
              case hy7x8 => (intro w hSw; (try dsimp only at hSw); go_simp; try with_reducible rfl)
              (try simp only [Act.put, List.getElem_toArray, List.getElem_cons_zero, List.getElem_cons_succ, List.setIfInBounds_toArray, List.set_cons_zero, List.set_cons_succ])
              refine wpAnyH_take (i := 8) (v := ?va8x9) rfl (by kernel_rfl) (by kernel_rfl) (by kernel_rfl) (fun _ _ _ h => h) (Or.inl ⟨by rfl, ?hy8x9⟩) (by assumption) ?rest8x9
              case hy8x9 => (intro w hSw; (try dsimp only at hSw); go_simp; try with_reducible rfl)
              (try simp only [Act.put, List.getElem_toArray, List.getElem_cons_zero, List.getElem_cons_succ, List.setIfInBounds_toArray, List.set_cons_zero, List.set_cons_succ])
              refine wpAnyH_take (i := 9) (v := ?va9x10) rfl (by kernel_rfl) (by kernel_rfl) (by kernel_rfl) (fun _ _ _ h => h) (Or.inl ⟨by rfl, ?hy9x10⟩) (by assumption) ?rest9x10
              case hy9x10 => (intro w hSw; (try dsimp only at hSw); go_simp; try with_reducible rfl)
              (try simp only [Act.put, List.getElem_toArray, List.getElem_cons_zero, List.getElem_cons_succ, List.setIfInBounds_toArray, List.set_cons_zero, List.set_cons_succ])
              refine wpAnyH_take (i := 10) (v := ?va10x11) rfl (by kernel_rfl) (by kernel_rfl) (by kernel_rfl) (fun _ _ _ h => h) (Or.inl ⟨by rfl, ?hy10x11⟩) (by assumption) ?rest10x11
              case hy10x11 => (intro w hSw; (try dsimp only at hSw); go_simp; try with_reducible rfl)
              (try simp only [Act.put, List.getElem_toArray, List.getElem_cons_zero, List.getElem_cons_succ, List.setIfInBounds_toArray, List.set_cons_zero, List.set_cons_succ])
              refine wpAnyH_take (i := 11) (v := ?va11x12) rfl (by kernel_rfl) (by kernel_rfl) (by kernel_rfl) (fun _ _ _ h => h) (Or.inl ⟨by rfl, ?hy11x12⟩) (by assumption) ?rest11x12
              case hy11x12 => (intro w hSw; (try dsimp only at hSw); go_simp; try with_reducible rfl)
              (try simp only [Act.put, List.getElem_toArray, List.getElem_cons_zero, List.getElem_cons_succ, List.setIfInBounds_toArray, List.set_cons_zero, List.set_cons_succ])
              refine wpAnyH_take (i := 12) (v := ?va12x13) rfl (by kernel_rfl) (by kernel_rfl) (by kernel_rfl) (fun _ _ _ h => h) (Or.inl ⟨by rfl, ?hy12x13⟩) (by assumption) ?rest12x13
              case hy12x13 => (intro w hSw; (try dsimp only at hSw); go_simp; try with_reducible rfl)
              (try simp only [Act.put, List.getElem_toArray, List.getElem_cons_zero, List.getElem_cons_succ, List.setIfInBounds_toArray, List.set_cons_zero, List.set_cons_succ])
              refine wpAnyH_take (i := 13) (v := ?va13x14) rfl (by kernel_rfl) (by kernel_rfl) (by kernel_rfl) (fun _ _ _ h => h) (Or.inl ⟨by rfl, ?hy13x14⟩) (by assumption) ?rest13x14
              case hy13x14 => (intro w hSw; (try dsimp only at hSw); go_simp; try with_reducible rfl)
              (try simp only [Act.put, List.getElem_toArray, List.getElem_cons_zero, List.getElem_cons_succ, List.setIfInBounds_toArray, List.set_cons_zero, List.set_cons_succ])
              refine wpAnyH_take (i := 14) (v := ?va14x15) rfl (by kernel_rfl) (by kernel_rfl) (by kernel_rfl) (fun _ _ _ h => h) (Or.inl ⟨by rfl, ?hy14x15⟩) (by assumption) ?rest14x15
              case hy14x15 => (intro w hSw; (try dsimp only at hSw); go_simp; try with_reducible rfl)
              (try simp only [Act.put, List.getElem_toArray, List.getElem_cons_zero, List.getElem_cons_succ, List.setIfInBounds_toArray, List.set_cons_zero, List.set_cons_succ])
              refine wpAnyH_take (i := 15) (v := ?va15x16) rfl (by kernel_rfl) (by kernel_rfl) (by kernel_rfl) (fun _ _ _ h => h) (Or.inl ⟨by rfl, ?hy15x16⟩) (by assumption) ?rest15x16
              case hy15x16 => (intro w hSw; (try dsimp only at hSw); go_simp; try with_reducible rfl)
              (try simp only [Act.put, List.getElem_toArray, List.getElem_cons_zero, List.getElem_cons_succ, List.setIfInBounds_toArray, List.set_cons_zero, List.set_cons_succ])
              refine wpAnyH_take (i := 16) (v := ?va16x17) rfl (by kernel_rfl) (by kernel_rfl) (by kernel_rfl) (fun _ _ _ h => h) (Or.inl ⟨by rfl, ?hy16x17⟩) (by assumption) ?rest16x17
              case hy16x17 => (intro w hSw; (try dsimp only at hSw); go_simp; try with_reducible rfl)
              (try simp only [Act.put, List.getElem_toArray, List.getElem_cons_zero, List.getElem_cons_succ, List.setIfInBounds_toArray, List.set_cons_zero, List.set_cons_succ])
              refine wpAnyH_take (i := 17) (v := ?va17x18) rfl (by kernel_rfl) (by kernel_rfl) (by kernel_rfl) (fun _ _ _ h => h) (Or.inl ⟨by rfl, ?hy17x18⟩) (by assumption) ?rest17x18
              case hy17x18 => (intro w hSw; (try dsimp only at hSw); go_simp; try with_reducible rfl)
              (try simp only [Act.put, List.getElem_toArray, List.getElem_cons_zero, List.getElem_cons_succ, List.setIfInBounds_toArray, List.set_cons_zero, List.set_cons_succ])
              refine wpAnyH_take (i := 18) (v := ?va18x19) rfl (by kernel_rfl) (by kernel_rfl) (by kernel_rfl) (fun _ _ _ h => h) (Or.inl ⟨by rfl, ?hy18x19⟩) (by assumption) ?rest18x19
              case hy18x19 => (intro w hSw; (try dsimp only at hSw); go_simp; try with_reducible rfl)
              (try simp only [Act.put, List.getElem_toArray, List.getElem_cons_zero, List.getElem_cons_succ, List.setIfInBounds_toArray, List.set_cons_zero, List.set_cons_succ])
              refine wpAnyH_take (i := 19) (v := ?va19x20) rfl (by kernel_rfl) (by kernel_rfl) (by kernel_rfl) (fun _ _ _ h => h) (Or.inl ⟨by rfl, ?hy19x20⟩) (by assumption) ?rest19x20
              case hy19x20 => (intro w hSw; (try dsimp only at hSw); go_simp; try with_reducible rfl)
              (try simp only [Act.put, List.getElem_toArray, List.getElem_cons_zero, List.getElem_cons_succ, List.setIfInBounds_toArray, List.set_cons_zero, List.set_cons_succ])
              refine wpAnyH_take (i := 20) (v := ?va20x21) rfl (by kernel_rfl) (by kernel_rfl) (by kernel_rfl) (fun _ _ _ h => h) (Or.inl ⟨by rfl, ?hy20x21⟩) (by assumption) ?rest20x21
              case hy20x21 => (intro w hSw; (try dsimp only at hSw); go_simp; try with_reducible rfl)
              (try simp only [Act.put, List.getElem_toArray, List.getElem_cons_zero, List.getElem_cons_succ, List.setIfInBounds_toArray, List.set_cons_zero, List.set_cons_succ])
              refine wpAnyH_take (i := 21) (v := ?va21x22) rfl (by kernel_rfl) (by kernel_rfl) (by kernel_rfl) (fun _ _ _ h => h) (Or.inl ⟨by rfl, ?hy21x22⟩) (by assumption) ?rest21x22
              case hy21x22 => (intro w hSw; (try dsimp only at hSw); go_simp; try with_reducible rfl)
              (try simp only [Act.put, List.getElem_toArray, List.getElem_cons_zero, List.getElem_cons_succ, List.setIfInBounds_toArray, List.set_cons_zero, List.set_cons_succ])
              refine wpAnyH_take (i := 22) (v := ?va22x23) rfl (by kernel_rfl) (by kernel_rfl) (by kernel_rfl) (fun _ _ _ h => h) (Or.inl ⟨by rfl, ?hy22x23⟩) (by assumption) ?rest22x23
              case hy22x23 => (intro w hSw; (try dsimp only at hSw); go_simp; try with_reducible rfl)
              (try simp only [Act.put, List.getElem_toArray, List.getElem_cons_zero, List.getElem_cons_succ, List.setIfInBounds_toArray, List.set_cons_zero, List.set_cons_succ])
              refine wpAnyH_take (i := 23) (v := ?va23x24) rfl (by kernel_rfl) (by kernel_rfl) (by kernel_rfl) (fun _ _ _ h => h) (Or.inl ⟨by rfl, ?hy23x24⟩) (by assumption) ?rest23x24
              case hy23x24 => (intro w hSw; (try dsimp only at hSw); go_simp; try with_reducible rfl)
              (try simp only [Act.put, List.getElem_toArray, List.getElem_cons_zero, List.getElem_cons_succ, List.setIfInBounds_toArray, List.set_cons_zero, List.set_cons_succ])
              refine wpAnyH_take (i := 24) (v := ?va24x25) rfl (by kernel_rfl) (by kernel_rfl) (by kernel_rfl) (fun _ _ _ h => h) (Or.inl ⟨by rfl, ?hy24x25⟩) (by assumption) ?rest24x25
              case hy24x25 => (intro w hSw; (try dsimp only at hSw); go_simp; try with_reducible rfl)
              (try simp only [Act.put, List.getElem_toArray, List.getElem_cons_zero, List.getElem_cons_succ, List.setIfInBounds_toArray, List.set_cons_zero, List.set_cons_succ])
              refine wpAnyH_take (i := 25) (v := ?va25x26) rfl (by kernel_rfl) (by kernel_rfl) (by kernel_rfl) (fun _ _ _ h => h) (Or.inl ⟨by rfl, ?hy25x26⟩) (by assumption) ?rest25x26
              case hy25x26 => (intro w hSw; (try dsimp only at hSw); go_simp; try with_reducible rfl)
              (try simp only [Act.put, List.getElem_toArray, List.getElem_cons_zero, List.getElem_cons_succ, List.setIfInBounds_toArray, List.set_cons_zero, List.set_cons_succ])
              refine wpAnyH_take (i := 26) (v := ?va26x27) rfl (by kernel_rfl) (by kernel_rfl) (by kernel_rfl) (fun _ _ _ h => h) (Or.inl ⟨by rfl, ?hy26x27⟩) (by assumption) ?rest26x27
              case hy26x27 => (intro w hSw; (try dsimp only at hSw); go_simp; try with_reducible rfl)
              (try simp only [Act.put, List.getElem_toArray, List.getElem_cons_zero, List.getElem_cons_succ, List.setIfInBounds_toArray, List.set_cons_zero, List.set_cons_succ])
              refine wpAnyH_take (i := 27) (v := ?va27x28) rfl (by kernel_rfl) (by kernel_rfl) (by kernel_rfl) (fun _ _ _ h => h) (Or.inl ⟨by rfl, ?hy27x28⟩) (by assumption) ?rest27x28
              case hy27x28 => (intro w hSw; (try dsimp only at hSw); go_simp; try with_reducible rfl)
              (try simp only [Act.put, List.getElem_toArray, List.getElem_cons_zero, List.getElem_cons_succ, List.setIfInBounds_toArray, List.set_cons_zero, List.set_cons_succ])
              refine wpAnyH_take (i := 28) (v := ?va28x29) rfl (by kernel_rfl) (by kernel_rfl) (by kernel_rfl) (fun _ _ _ h => h) (Or.inl ⟨by rfl, ?hy28x29⟩) (by assumption) ?rest28x29
              case hy28x29 => (intro w hSw; (try dsimp only at hSw); go_simp; try with_reducible rfl)
              (try simp only [Act.put, List.getElem_toArray, List.getElem_cons_zero, List.getElem_cons_succ, List.setIfInBounds_toArray, List.set_cons_zero, List.set_cons_succ])
              refine wpAnyH_take (i := 29) (v := ?va29x30) rfl (by kernel_rfl) (by kernel_rfl) (by kernel_rfl) (fun _ _ _ h => h) (Or.inl ⟨by rfl, ?hy29x30⟩) (by assumption) ?rest29x30
              case hy29x30 => (intro w hSw; (try dsimp only at hSw); go_simp; try with_reducible rfl)
              (try simp only [Act.put, List.getElem_toArray, List.getElem_cons_zero, List.getElem_cons_succ, List.setIfInBounds_toArray, List.set_cons_zero, List.set_cons_succ])
              refine wpAnyH_take (i := 30) (v := undef) rfl (by kernel_rfl) (by kernel_rfl) (by kernel_rfl) (fun _ _ _ h => h) (Or.inr ⟨by rfl, rfl⟩) (by assumption) ?_
              (try simp only [Act.put, List.getElem_toArray, List.getElem_cons_zero, List.getElem_cons_succ, List.setIfInBounds_toArray, List.set_cons_zero, List.set_cons_succ])
              refine wpAnyH_take (i := 31) (v := undef) rfl (by kernel_rfl) (by kernel_rfl) (by kernel_rfl) (fun _ _ _ h => h) (Or.inr ⟨by rfl, rfl⟩) (by assumption) ?_
              (try simp only [Act.put, List.getElem_toArray, List.getElem_cons_zero, List.getElem_cons_succ, List.setIfInBounds_toArray, List.set_cons_zero, List.set_cons_succ])
              refine wpAnyH_take (i := 32) (v := undef) rfl (by kernel_rfl) (by kernel_rfl) (by kernel_rfl) (fun _ _ _ h => h) (Or.inr ⟨by rfl, rfl⟩) (by assumption) ?_
              (try simp only [Act.put, List.getElem_toArray, List.getElem_cons_zero, List.getElem_cons_succ, List.setIfInBounds_toArray, List.set_cons_zero, List.set_cons_succ])
              refine wpAnyH_take (i := 33) (v := undef) rfl (by kernel_rfl) (by kernel_rfl) (by kernel_rfl) (fun _ _ _ h => h) (Or.inr ⟨by rfl, rfl⟩) (by assumption) ?_
              (try simp only [Act.put, List.getElem_toArray, List.getElem_cons_zero, List.getElem_cons_succ, List.setIfInBounds_toArray, List.set_cons_zero, List.set_cons_succ])
              refine wpAnyH_take (i := 34) (v := undef) rfl (by kernel_rfl) (by kernel_rfl) (by kernel_rfl) (fun _ _ _ h => h) (Or.inr ⟨by rfl, rfl⟩) (by assumption) ?_
              (try simp only [Act.put, List.getElem_toArray, List.getElem_cons_zero, List.getElem_cons_succ, List.setIfInBounds_toArray, List.set_cons_zero, List.set_cons_succ])
              refine wpAnyH_take (i := 35) (v := undef) rfl (by kernel_rfl) (by kernel_rfl) (by kernel_rfl) (fun _ _ _ h => h) (Or.inr ⟨by rfl, rfl⟩) (by assumption) ?_
              (try simp only [Act.put, List.getElem_toArray, List.getElem_cons_zero, List.getElem_cons_succ, List.setIfInBounds_toArray, List.set_cons_zero, List.set_cons_succ])
              refine wpAnyH_take (i := 36) (v := undef) rfl (by kernel_rfl) (by kernel_rfl) (by kernel_rfl) (fun _ _ _ h => h) (Or.inr ⟨by rfl, rfl⟩) (by assumption) ?_
              (try simp only [Act.put, List.getElem_toArray, List.getElem_cons_zero, List.getElem_cons_succ, List.setIfInBounds_toArray, List.set_cons_zero, List.set_cons_succ])
              refine wpAnyH_take (i := 37) (v := undef) rfl (by kernel_rfl) (by kernel_rfl) (by kernel_rfl) (fun _ _ _ h => h) (Or.inr ⟨by rfl, rfl⟩) (by assumption) ?_
              (try simp only [Act.put, List.getElem_toArray, List.getElem_cons_zero, List.getElem_cons_succ, List.setIfInBounds_toArray, List.set_cons_zero, List.set_cons_succ])
              refine wpAnyH_take (i := 38) (v := undef) rfl (by kernel_rfl) (by kernel_rfl) (by kernel_rfl) (fun _ _ _ h => h) (Or.inr ⟨by rfl, rfl⟩) (by assumption) ?_
              (try simp only [Act.put, List.getElem_toArray, List.getElem_cons_zero, List.getElem_cons_succ, List.setIfInBounds_toArray, List.set_cons_zero, List.set_cons_succ])
              refine wpAnyH_take (i := 39) (v := undef) rfl (by kernel_rfl) (by kernel_rfl) (by kernel_rfl) (fun _ _ _ h => h) (Or.inr ⟨by rfl, rfl⟩) (by assumption) ?_
              (try simp only [Act.put, List.getElem_toArray, List.getElem_cons_zero, List.getElem_cons_succ, List.setIfInBounds_toArray, List.set_cons_zero, List.set_cons_succ])
              refine wpAnyH_take (i := 40) (v := undef) rfl (by kernel_rfl) (by kernel_rfl) (by kernel_rfl) (fun _ _ _ h => h) (Or.inr ⟨by rfl, rfl⟩) (by assumption) ?_
              (try simp only [Act.put, List.getElem_toArray, List.getElem_cons_zero, List.getElem_cons_succ, List.setIfInBounds_toArray, List.set_cons_zero, List.set_cons_succ])
              refine wpAnyH_take (i := 41) (v := undef) rfl (by kernel_rfl) (by kernel_rfl) (by kernel_rfl) (fun _ _ _ h => h) (Or.inr ⟨by rfl, rfl⟩) (by assumption) ?_
              (try simp only [Act.put, List.getElem_toArray, List.getElem_cons_zero, List.getElem_cons_succ, List.setIfInBounds_toArray, List.set_cons_zero, List.set_cons_succ])
              refine wpAnyH_take (i := 42) (v := undef) rfl (by kernel_rfl) (by kernel_rfl) (by kernel_rfl) (fun _ _ _ h => h) (Or.inr ⟨by rfl, rfl⟩) (by assumption) ?_
              (try simp only [Act.put, List.getElem_toArray, List.getElem_cons_zero, List.getElem_cons_succ, List.setIfInBounds_toArray, List.set_cons_zero, List.set_cons_succ])
              refine wpAnyH_take (i := 43) (v := undef) rfl (by kernel_rfl) (by kernel_rfl) (by kernel_rfl) (fun _ _ _ h => h) (Or.inr ⟨by rfl, rfl⟩) (by assumption) ?_
              (try simp only [Act.put, List.getElem_toArray, List.getElem_cons_zero, List.getElem_cons_succ, List.setIfInBounds_toArray, List.set_cons_zero, List.set_cons_succ])
              refine wpAnyH_take (i := 44) (v := undef) rfl (by kernel_rfl) (by kernel_rfl) (by kernel_rfl) (fun _ _ _ h => h) (Or.inr ⟨by rfl, rfl⟩) (by assumption) ?_
              (try simp only [Act.put, List.getElem_toArray, List.getElem_cons_zero, List.getElem_cons_succ, List.setIfInBounds_toArray, List.set_cons_zero, List.set_cons_succ])
              refine wpAnyH_take (i := 45) (v := undef) rfl (by kernel_rfl) (by kernel_rfl) (by kernel_rfl) (fun _ _ _ h => h) (Or.inr ⟨by rfl, rfl⟩) (by assumption) ?_
              (try simp only [Act.put, List.getElem_toArray, List.getElem_cons_zero, List.getElem_cons_succ, List.setIfInBounds_toArray, List.set_cons_zero, List.set_cons_succ])
              refine wpAnyH_take (i := 46) (v := undef) rfl (by kernel_rfl) (by kernel_rfl) (by kernel_rfl) (fun _ _ _ h => h) (Or.inr ⟨by rfl, rfl⟩) (by assumption) ?_
              (try simp only [Act.put, List.getElem_toArray, List.getElem_cons_zero, List.getElem_cons_succ, List.setIfInBounds_toArray, List.set_cons_zero, List.set_cons_succ])
              refine wpAnyH_take (i := 47) (v := ?va47x31) rfl (by kernel_rfl) (by kernel_rfl) (by kernel_rfl) (fun _ _ _ h => h) (Or.inl ⟨by rfl, ?hy47x31⟩) (by assumption) ?rest47x31
              case hy47x31 => (intro w hSw; (try dsimp only at hSw); go_simp; try with_reducible rfl)
              (try simp only [Act.put, List.getElem_toArray, List.getElem_cons_zero, List.getElem_cons_succ, List.setIfInBounds_toArray, List.set_cons_zero, List.set_cons_succ])
              refine wpAnyH_take (i := 48) (v := ?va48x32) rfl (by kernel_rfl) (by kernel_rfl) (by kernel_rfl) (fun _ _ _ h => h) (Or.inl ⟨by rfl, ?hy48x32⟩) (by assumption) ?rest48x32
              case hy48x32 => (intro w hSw; (try dsimp only at hSw); go_simp; try with_reducible rfl)
              (try simp only [Act.put, List.getElem_toArray, List.getElem_cons_zero, List.getElem_cons_succ, List.setIfInBounds_toArray, List.set_cons_zero, List.set_cons_succ])
              refine wpAnyH_done (by kernel_rfl) ?_ _
              clear hHeld d0 d1 d2 d3 d4 d5
              go_wp2_with fail
              go_roundw
              case rel => exact ⟨i + 1, by omega, by go_num, nd + 1, rfl⟩
              case measure => simp [intOf]; omega
            · have hyx := HY2.out (fun q => hif q.2)
              subst hyx
              subst hkt
              have b1 : ((k : Int) == (k : Int)) = true := by simp
              have b2 : ((k : Int) != (k : Int)) = false := by simp
              have b3 : ((i : Int) == (fn : Int)) = false := by simp; omega
              have b4 : ((i : Int) != (fn : Int)) = true := by simp; omega
              have b5 : (y != y) = false := by simp
              go_wp2_with fail
              refine wp_region_held_drew (S := (fun w' => w'.cell? ⟨w1.heap.size, 0, none⟩ = some (.slice (some ⟨fb, fo, none⟩) nfH qaH) ∧ w'.cell? ⟨w2.heap.size, 0, none⟩ = some (.slice (some ⟨sb, so, none⟩) nfH qaG) ∧ w'.cell? ⟨fb, fo + k, none⟩ = some (.slice (some ⟨rb, ro, none⟩) ul uc) ∧ w'.cell? ⟨sb, so + k, none⟩ = some (.slice (some ⟨tb, to, none⟩) ul uc') ∧ w'.cell? ⟨rb, ro + i, none⟩ = some (.int .i64 y) ∧ w'.cell? ⟨tb, to + i, none⟩ = some (.int .i64 y))) (by kernel_rfl) (⟨d0, d1, d2, d3, d4, d5⟩) (fun hHeld => ?_)
              refine wpAnyH_take (i := 0) (v := ?va0x33) rfl (by kernel_rfl) (by kernel_rfl) (by kernel_rfl) (fun _ _ _ h => h) (Or.inl ⟨by rfl, ?hy0x33⟩) (by assumption) ?rest0x33
              case hy0x33 => (intro w hSw; (try dsimp only at hSw); go_simp; try with_reducible rfl)
              (try simp only [Act.put, List.getElem_toArray, List.getElem_cons_zero, List.setIfInBounds_toArray, List.set_cons_zero, List.set_cons_succ])
              refine wpAnyH_take (i := 1) (v := ?va1x34) rfl (by kernel_rfl) (by kernel_rfl) (by kernel_rfl) (fun _ _ _ h => h) (Or.inl ⟨by rfl, ?hy1x34⟩) (by assumption) ?rest1x34
              case hy1x34 => (intro w hSw; (try dsimp only at hSw); go_simp; try with_reducible rfl)
              (try simp only [Act.put, List.getElem_toArray, List.getElem_cons_zero, List.getElem_cons_succ, List.setIfInBounds_toArray, List.set_cons_zero, List.set_cons_succ])
              refine wpAnyH_take (i := 2) (v := ?va2x35) rfl (by kernel_rfl) (by kernel_rfl) (by kernel_rfl) (fun _ _ _ h => h) (Or.inl ⟨by rfl, ?hy2x35⟩) (by assumption) ?rest2x35
              case hy2x35 => (intro w hSw; (try dsimp only at hSw); go_simp; try with_reducible rfl)
              (try simp only [Act.put, List.getElem_toArray, List.getElem_cons_zero, List.getElem_cons_succ, List.setIfInBounds_toArray, List.set_cons_zero, List.set_cons_succ])
              refine wpAnyH_take (i := 3) (v := ?va3x36) rfl (by kernel_rfl) (by kernel_rfl) (by kernel_rfl) (fun _ _ _ h => h) (Or.inl ⟨by rfl, ?hy3x36⟩) (by assumption) ?rest3x36
              case hy3x36 => (intro w hSw; (try dsimp only at hSw); go_simp; try with_reducible rfl)
              (try simp only [Act.put, List.getElem_toArray, List.getElem_cons_zero, List.getElem_cons_succ, List.setIfInBounds_toArray, List.set_cons_zero, List.set_cons_succ])
              refine wpAnyH_take (i := 4) (v := ?va4x37) rfl (by kernel_rfl) (by kernel_rfl) (by kernel_rfl) (fun _ _ _ h => h) (Or.inl ⟨by rfl, ?hy4x37⟩) (by assumption) ?rest4x37
              case hy4x37 => (intro w hSw; (try dsimp only at hSw); go_simp; try with_reducible rfl)
              (try simp only [Act.put, List.getElem_toArray, List.getElem_cons_zero, List.getElem_cons_succ, List.setIfInBounds_toArray, List.set_cons_zero, List.set_cons_succ])
              refine wpAnyH_take (i := 5) (v := ?va5x38) rfl (by kernel_rfl) (by kernel_rfl) (by kernel_rfl) (fun _ _ _ h => h) (Or.inl ⟨by rfl, ?hy5x38⟩) (by assumption) ?rest5x38
              case hy5x38 => (intro w hSw; (try dsimp only at hSw); go_simp; try with_reducible rfl)
              (try simp only [Act.put, List.getElem_toArray, List.getElem_cons_zero, List.getElem_cons_succ, List.setIfInBounds_toArray, List.set_cons_zero, List.set_cons_succ])
              refine wpAnyH_take (i := 6) (v := ?va6x39) rfl (by kernel_rfl) (by kernel_rfl) (by kernel_rfl) (fun _ _ _ h => h) (Or.inl ⟨by rfl, ?hy6x39⟩) (by assumption) ?rest6x39
              case hy6x39 => (intro w hSw; (try dsimp only at hSw); go_simp; try with_reducible rfl)
              (try simp only [Act.put, List.getElem_toArray, List.getElem_cons_zero, List.getElem_cons_succ, List.setIfInBounds_toArray, List.set_cons_zero, List.set_cons_succ])
              refine wpAnyH_take (i := 7) (v := ?va7x40) rfl (by kernel_rfl) (by kernel_rfl) (by kernel_rfl) (fun _ _ _ h => h) (Or.inl ⟨by rfl, ?hy7x40⟩) (by assumption) ?rest7x40
              case hy7x40 => (intro w hSw; (try dsimp only at hSw); go_simp; try with_reducible rfl)
              (try simp only [Act.put, List.getElem_toArray, List.getElem_cons_zero, List.getElem_cons_succ, List.setIfInBounds_toArray, List.set_cons_zero, List.set_cons_succ])
              refine wpAnyH_take (i := 8) (v := ?va8x41) rfl (by kernel_rfl) (by kernel_rfl) (by kernel_rfl) (fun _ _ _ h => h) (Or.inl ⟨by rfl, ?hy8x41⟩) (by assumption) ?rest8x41
              case hy8x41 => (intro w hSw; (try dsimp only at hSw); go_simp; try with_reducible rfl)
              (try simp only [Act.put, List.getElem_toArray, List.getElem_cons_zero, List.getElem_cons_succ, List.setIfInBounds_toArray, List.set_cons_zero, List.set_cons_succ])
              refine wpAnyH_take (i := 9) (v := undef) rfl (by kernel_rfl) (by kernel_rfl) (by kernel_rfl) (fun _ _ _ h => h) (Or.inr ⟨by rfl, rfl⟩) (by assumption) ?_
              (try simp only [Act.put, List.getElem_toArray, List.getElem_cons_zero, List.getElem_cons_succ, List.setIfInBounds_toArray, List.set_cons_zero, List.set_cons_succ])
              refine wpAnyH_take (i := 10) (v := undef) rfl (by kernel_rfl) (by kernel_rfl) (by kernel_rfl) (fun _ _ _ h => h) (Or.inr ⟨by rfl, rfl⟩) (by assumption) ?_
              (try simp only [Act.put, List.getElem_toArray, List.getElem_cons_zero, List.getElem_cons_succ, List.setIfInBounds_toArray, List.set_cons_zero, List.set_cons_succ])
              refine wpAnyH_take (i := 11) (v := undef) rfl (by kernel_rfl) (by kernel_rfl) (by kernel_rfl) (fun _ _ _ h => h) (Or.inr ⟨by rfl, rfl⟩) (by assumption) ?_
              (try simp only [Act.put, List.getElem_toArray, List.getElem_cons_zero, List.getElem_cons_succ, List.setIfInBounds_toArray, List.set_cons_zero, List.set_cons_succ])
              refine wpAnyH_take (i := 12) (v := undef) rfl (by kernel_rfl) (by kernel_rfl) (by kernel_rfl) (fun _ _ _ h => h) (Or.inr ⟨by rfl, rfl⟩) (by assumption) ?_
              (try simp only [Act.put, List.getElem_toArray, List.getElem_cons_zero, List.getElem_cons_succ, List.setIfInBounds_toArray, List.set_cons_zero, List.set_cons_succ])
              refine wpAnyH_take (i := 13) (v := undef) rfl (by kernel_rfl) (by kernel_rfl) (by kernel_rfl) (fun _ _ _ h => h) (Or.inr ⟨by rfl, rfl⟩) (by assumption) ?_
              (try simp only [Act.put, List.getElem_toArray, List.getElem_cons_zero, List.getElem_cons_succ, List.setIfInBounds_toArray, List.set_cons_zero, List.set_cons_succ])
              refine wpAnyH_take (i := 14) (v := undef) rfl (by kernel_rfl) (by kernel_rfl) (by kernel_rfl) (fun _ _ _ h => h) (Or.inr ⟨by rfl, rfl⟩) (by assumption) ?_
              (try simp only [Act.put, List.getElem_toArray, List.getElem_cons_zero, List.getElem_cons_succ, List.setIfInBounds_toArray, List.set_cons_zero, List.set_cons_succ])
              refine wpAnyH_take (i := 15) (v := undef) rfl (by kernel_rfl) (by kernel_rfl) (by kernel_rfl) (fun _ _ _ h => h) (Or.inr ⟨by rfl, rfl⟩) (by assumption) ?_
              (try simp only [Act.put, List.getElem_toArray, List.getElem_cons_zero, List.getElem_cons_succ, List.setIfInBounds_toArray, List.set_cons_zero, List.set_cons_succ])
              refine wpAnyH_take (i := 16) (v := undef) rfl (by kernel_rfl) (by kernel_rfl) (by kernel_rfl) (fun _ _ _ h => h) (Or.inr ⟨by rfl, rfl⟩) (by assumption) ?_
              (try simp only [Act.put, List.getElem_toArray, List.getElem_cons_zero, List.getElem_cons_succ, List.setIfInBounds_toArray, List.set_cons_zero, List.set_cons_succ])
              refine wpAnyH_take (i := 17) (v := undef) rfl (by kernel_rfl) (by kernel_rfl) (by kernel_rfl) (fun _ _ _ h => h) (Or.inr ⟨by rfl, rfl⟩) (by assumption) ?_
              (try simp only [Act.put, List.getElem_toArray, List.getElem_cons_zero, List.getElem_cons_succ, List.setIfInBounds_toArray, List.set_cons_zero, List.set_cons_succ])
              refine wpAnyH_take (i := 18) (v := undef) rfl (by kernel_rfl) (by kernel_rfl) (by kernel_rfl) (fun _ _ _ h => h) (Or.inr ⟨by rfl, rfl⟩) (by assumption) ?_
              (try simp only [Act.put, List.getElem_toArray, List.getElem_cons_zero, List.getElem_cons_succ, List.setIfInBounds_toArray, List.set_cons_zero, List.set_cons_succ])
              refine wpAnyH_take (i := 19) (v := ?va19x42) rfl (by kernel_rfl) (by kernel_rfl) (by kernel_rfl) (fun _ _ _ h => h) (Or.inl ⟨by rfl, ?hy19x42⟩) (by assumption) ?rest19x42
              case hy19x42 => (intro w hSw; (try dsimp only at hSw); go_simp; try with_reducible rfl)
              (try simp only [Act.put, List.getElem_toArray, List.getElem_cons_zero, List.getElem_cons_succ, List.setIfInBounds_toArray, List.set_cons_zero, List.set_cons_succ])
              refine wpAnyH_take (i := 20) (v := ?va20x43) rfl (by kernel_rfl) (by kernel_rfl) (by kernel_rfl) (fun _ _ _ h => h) (Or.inl ⟨by rfl, ?hy20x43⟩) (by assumption) ?rest20x43
              case hy20x43 => (intro w hSw; (try dsimp only at hSw); go_simp; try with_reducible rfl)
              (try simp only [Act.put, List.getElem_toArray, List.getElem_cons_zero, List.getElem_cons_succ, List.setIfInBounds_toArray, List.set_cons_zero, List.set_cons_succ])
              refine wpAnyH_take (i := 21) (v := ?va21x44) rfl (by kernel_rfl) (by kernel_rfl) (by kernel_rfl) (fun _ _ _ h => h) (Or.inl ⟨by rfl, ?hy21x44⟩) (by assumption) ?rest21x44
              case hy21x44 => (intro w hSw; (try dsimp only at hSw); go_simp; try with_reducible rfl)
              (try simp only [Act.put, List.getElem_toArray, List.getElem_cons_zero, List.getElem_cons_succ, List.setIfInBounds_toArray, List.set_cons_zero, List.set_cons_succ])
              refine wpAnyH_take (i := 22) (v := ?va22x45) rfl (by kernel_rfl) (by kernel_rfl) (by kernel_rfl) (fun _ _ _ h => h) (Or.inl ⟨by rfl, ?hy22x45⟩) (by assumption) ?rest22x45
              case hy22x45 => (intro w hSw; (try dsimp only at hSw); go_simp; try with_reducible rfl)
              (try simp only [Act.put, List.getElem_toArray, List.getElem_cons_zero, List.getElem_cons_succ, List.setIfInBounds_toArray, List.set_cons_zero, List.set_cons_succ])
              refine wpAnyH_take (i := 23) (v := ?va23x46) rfl (by kernel_rfl) (by kernel_rfl) (by kernel_rfl) (fun _ _ _ h => h) (Or.inl ⟨by rfl, ?hy23x46⟩) (by assumption) ?rest23x46
              case hy23x46 => (intro w hSw; (try dsimp only at hSw); go_simp; try with_reducible rfl)
              (try simp only [Act.put, List.getElem_toArray, List.getElem_cons_zero, List.getElem_cons_succ, List.setIfInBounds_toArray, List.set_cons_zero, List.set_cons_succ])
              refine wpAnyH_take (i := 24) (v := ?va24x47) rfl (by kernel_rfl) (by kernel_rfl) (by kernel_rfl) (fun _ _ _ h => h) (Or.inl ⟨by rfl, ?hy24x47⟩) (by assumption) ?rest24x47
              case hy24x47 => (intro w hSw; (try dsimp only at hSw); go_simp; try with_reducible rfl)
              (try simp only [Act.put, List.getElem_toArray, List.getElem_cons_zero, List.getElem_cons_succ, List.setIfInBounds_toArray, List.set_cons_zero, List.set_cons_succ])
              refine wpAnyH_take (i := 25) (v := ?va25x48) rfl (by kernel_rfl) (by kernel_rfl) (by kernel_rfl) (fun _ _ _ h => h) (Or.inl ⟨by rfl, ?hy25x48⟩) (by assumption) ?rest25x48
              case hy25x48 => (intro w hSw; (try dsimp only at hSw); go_simp; try with_reducible rfl)
              (try simp only [Act.put, List.getElem_toArray, List.getElem_cons_zero, List.getElem_cons_succ, List.setIfInBounds_toArray, List.set_cons_zero, List.set_cons_succ])
              refine wpAnyH_take (i := 26) (v := ?va26x49) rfl (by kernel_rfl) (by kernel_rfl) (by kernel_rfl) (fun _ _ _ h => h) (Or.inl ⟨by rfl, ?hy26x49⟩) (by assumption) ?rest26x49
              case hy26x49 => (intro w hSw; (try dsimp only at hSw); go_simp; try with_reducible rfl)
              (try simp only [Act.put, List.getElem_toArray, List.getElem_cons_zero, List.getElem_cons_succ, List.setIfInBounds_toArray, List.set_cons_zero, List.set_cons_succ])
              refine wpAnyH_take (i := 27) (v := ?va27x50) rfl (by kernel_rfl) (by kernel_rfl) (by kernel_rfl) (fun _ _ _ h => h) (Or.inl ⟨by rfl, ?hy27x50⟩) (by assumption) ?rest27x50
              case hy27x50 => (intro w hSw; (try dsimp only at hSw); go_simp; try with_reducible rfl)
              (try simp only [Act.put, List.getElem_toArray, List.getElem_cons_zero, List.getElem_cons_succ, List.setIfInBounds_toArray, List.set_cons_zero, List.set_cons_succ])
              refine wpAnyH_take (i := 28) (v := ?va28x51) rfl (by kernel_rfl) (by kernel_rfl) (by kernel_rfl) (fun _ _ _ h => h) (Or.inl ⟨by rfl, ?hy28x51⟩) (by assumption) ?rest28x51
              case hy28x51 => (intro w hSw; (try dsimp only at hSw); go_simp; try with_reducible rfl)
              (try simp only [Act.put, List.getElem_toArray, List.getElem_cons_zero, List.getElem_cons_succ, List.setIfInBounds_toArray, List.set_cons_zero, List.set_cons_succ])
              refine wpAnyH_take (i := 29) (v := ?va29x52) rfl (by kernel_rfl) (by kernel_rfl) (by kernel_rfl) (fun _ _ _ h => h) (Or.inl ⟨by rfl, ?hy29x52⟩) (by assumption) ?rest29x52
              case hy29x52 => (intro w hSw; (try dsimp only at hSw); go_simp; try with_reducible rfl)
              (try simp only [Act.put, List.getElem_toArray, List.getElem_cons_zero, List.getElem_cons_succ, List.setIfInBounds_toArray, List.set_cons_zero, List.set_cons_succ])
              refine wpAnyH_take (i := 30) (v := ?va30x53) rfl (by kernel_rfl) (by kernel_rfl) (by kernel_rfl) (fun _ _ _ h => h) (Or.inl ⟨by rfl, ?hy30x53⟩) (by assumption) ?rest30x53
              case hy30x53 => (intro w hSw; (try dsimp only at hSw); go_simp; try with_reducible rfl)
              (try simp only [Act.put, List.getElem_toArray, List.getElem_cons_zero, List.getElem_cons_succ, List.setIfInBounds_toArray, List.set_cons_zero, List.set_cons_succ])
              refine wpAnyH_take (i := 31) (v := ?va31x54) rfl (by kernel_rfl) (by kernel_rfl) (by kernel_rfl) (fun _ _ _ h => h) (Or.inl ⟨by rfl, ?hy31x54⟩) (by assumption) ?rest31x54
              case hy31x54 => (intro w hSw; (try dsimp only at hSw); go_simp; try with_reducible rfl)
              (try simp only [Act.put, List.getElem_toArray, List.getElem_cons_zero, List.getElem_cons_succ, List.setIfInBounds_toArray, List.set_cons_zero, List.set_cons_succ])
              refine wpAnyH_take (i := 32) (v := ?va32x55) rfl (by kernel_rfl) (by kernel_rfl) (by kernel_rfl) (fun _ _ _ h => h) (Or.inl ⟨by rfl, ?hy32x55⟩) (by assumption) ?rest32x55
              case hy32x55 => (intro w hSw; (try dsimp only at hSw); go_simp; try with_reducible rfl)
              (try simp only [Act.put, List.getElem_toArray, List.getElem_cons_zero, List.getElem_cons_succ, List.setIfInBounds_toArray, List.set_cons_zero, List.set_cons_succ])
              refine wpAnyH_take (i := 33) (v := ?va33x56) rfl (by kernel_rfl) (by kernel_rfl) (by kernel_rfl) (fun _ _ _ h => h) (Or.inl ⟨by rfl, ?hy33x56⟩) (by assumption) ?rest33x56
              case hy33x56 => (intro w hSw; (try dsimp only at hSw); go_simp; try with_reducible rfl)
              (try simp only [Act.put, List.getElem_toArray, List.getElem_cons_zero, List.getElem_cons_succ, List.setIfInBounds_toArray, List.set_cons_zero, List.set_cons_succ])
              refine wpAnyH_take (i := 34) (v := ?va34x57) rfl (by kernel_rfl) (by kernel_rfl) (by kernel_rfl) (fun _ _ _ h => h) (Or.inl ⟨by rfl, ?hy34x57⟩) (by assumption) ?rest34x57
              case hy34x57 => (intro w hSw; (try dsimp only at hSw); go_simp; try with_reducible rfl)
              (try simp only [Act.put, List.getElem_toArray, List.getElem_cons_zero, List.getElem_cons_succ, List.setIfInBounds_toArray, List.set_cons_zero, List.set_cons_succ])
              refine wpAnyH_take (i := 35) (v := ?va35x58) rfl (by kernel_rfl) (by kernel_rfl) (by kernel_rfl) (fun _ _ _ h => h) (Or.inl ⟨by rfl, ?hy35x58⟩) (by assumption) ?rest35x58
              case hy35x58 => (intro w hSw; (try dsimp only at hSw); go_simp; try with_reducible rfl)
              (try simp only [Act.put, List.getElem_toArray, List.getElem_cons_zero, List.getElem_cons_succ, List.setIfInBounds_toArray, List.set_cons_zero, List.set_cons_succ])
              refine wpAnyH_take (i := 36) (v := ?va36x59) rfl (by kernel_rfl) (by kernel_rfl) (by kernel_rfl) (fun _ _ _ h => h) (Or.inl ⟨by rfl, ?hy36x59⟩) (by assumption) ?rest36x59
              case hy36x59 => (intro w hSw; (try dsimp only at hSw); go_simp; try with_reducible rfl)
              (try simp only [Act.put, List.getElem_toArray, List.getElem_cons_zero, List.getElem_cons_succ, List.setIfInBounds_toArray, List.set_cons_zero, List.set_cons_succ])
              refine wpAnyH_take (i := 37) (v := ?va37x60) rfl (by kernel_rfl) (by kernel_rfl) (by kernel_rfl) (fun _ _ _ h => h) (Or.inl ⟨by rfl, ?hy37x60⟩) (by assumption) ?rest37x60
              case hy37x60 => (intro w hSw; (try dsimp only at hSw); go_simp; try with_reducible rfl)
              (try simp only [Act.put, List.getElem_toArray, List.getElem_cons_zero, List.getElem_cons_succ, List.setIfInBounds_toArray, List.set_cons_zero, List.set_cons_succ])
              refine wpAnyH_take (i := 38) (v := ?va38x61) rfl (by kernel_rfl) (by kernel_rfl) (by kernel_rfl) (fun _ _ _ h => h) (Or.inl ⟨by rfl, ?hy38x61⟩) (by assumption) ?rest38x61
              case hy38x61 => (intro w hSw; (try dsimp only at hSw); go_simp; try with_reducible rfl)
              (try simp only [Act.put, List.getElem_toArray, List.getElem_cons_zero, List.getElem_cons_succ, List.setIfInBounds_toArray, List.set_cons_zero, List.set_cons_succ])
              refine wpAnyH_take (i := 39) (v := ?va39x62) rfl (by kernel_rfl) (by kernel_rfl) (by kernel_rfl) (fun _ _ _ h => h) (Or.inl ⟨by rfl, ?hy39x62⟩) (by assumption) ?rest39x62
              case hy39x62 => (intro w hSw; (try dsimp only at hSw); go_simp; try with_reducible rfl)
              (try simp only [Act.put, List.getElem_toArray, List.getElem_cons_zero, List.getElem_cons_succ, List.setIfInBounds_toArray, List.set_cons_zero, List.set_cons_succ])
              refine wpAnyH_take (i := 40) (v := ?va40x63) rfl (by kernel_rfl) (by kernel_rfl) (by kernel_rfl) (fun _ _ _ h => h) (Or.inl ⟨by rfl, ?hy40x63⟩) (by assumption) ?rest40x63
              case hy40x63 => (intro w hSw; (try dsimp only at hSw); go_simp; try with_reducible rfl)
              (try simp only [Act.put, List.getElem_toArray, List.getElem_cons_zero, List.getElem_cons_succ, List.setIfInBounds_toArray, List.set_cons_zero, List.set_cons_succ])
              refine wpAnyH_take (i := 41) (v := ?va41x64) rfl (by kernel_rfl) (by kernel_rfl) (by kernel_rfl) (fun _ _ _ h => h) (Or.inl ⟨by rfl, ?hy41x64⟩) (by assumption) ?rest41x64
              case hy41x64 => (intro w hSw; (try dsimp only at hSw); go_simp; try with_reducible rfl)
              (try simp only [Act.put, List.getElem_toArray, List.getElem_cons_zero, List.getElem_cons_succ, List.setIfInBounds_toArray, List.set_cons_zero, List.set_cons_succ])
              refine wpAnyH_take (i := 42) (v := ?va42x65) rfl (by kernel_rfl) (by kernel_rfl) (by kernel_rfl) (fun _ _ _ h => h) (Or.inl ⟨by rfl, ?hy42x65⟩) (by assumption) ?rest42x65
              case hy42x65 => (intro w hSw; (try dsimp only at hSw); go_simp; try with_reducible rfl)
              (try simp only [Act.put, List.getElem_toArray, List.getElem_cons_zero, List.getElem_cons_succ, List.setIfInBounds_toArray, List.set_cons_zero, List.set_cons_succ])
              refine wpAnyH_take (i := 43) (v := ?va43x66) rfl (by kernel_rfl) (by kernel_rfl) (by kernel_rfl) (fun _ _ _ h => h) (Or.inl ⟨by rfl, ?hy43x66⟩) (by assumption) ?rest43x66
              case hy43x66 => (intro w hSw; (try dsimp only at hSw); go_simp; try with_reducible rfl)
              (try simp only [Act.put, List.getElem_toArray, List.getElem_cons_zero, List.getElem_cons_succ, List.setIfInBounds_toArray, List.set_cons_zero, List.set_cons_succ])
              refine wpAnyH_take (i := 44) (v := ?va44x67) rfl (by kernel_rfl) (by kernel_rfl) (by kernel_rfl) (fun _ _ _ h => h) (Or.inl ⟨by rfl, ?hy44x67⟩) (by assumption) ?rest44x67
              case hy44x67 => (intro w hSw; (try dsimp only at hSw); go_simp; try with_reducible rfl)
              (try simp only [Act.put, List.getElem_toArray, List.getElem_cons_zero, List.getElem_cons_succ, List.setIfInBounds_toArray, List.set_cons_zero, List.set_cons_succ])
              refine wpAnyH_take (i := 45) (v := ?va45x68) rfl (by kernel_rfl) (by kernel_rfl) (by kernel_rfl) (fun _ _ _ h => h) (Or.inl ⟨by rfl, ?hy45x68⟩) (by assumption) ?rest45x68
              case hy45x68 => (intro w hSw; (try dsimp only at hSw); go_simp; try with_reducible rfl)
              (try simp only [Act.put, List.getElem_toArray, List.getElem_cons_zero, List.getElem_cons_succ, List.setIfInBounds_toArray, List.set_cons_zero, List.set_cons_succ])
              refine wpAnyH_take (i := 46) (v := ?va46x69) rfl (by kernel_rfl) (by kernel_rfl) (by kernel_rfl) (fun _ _ _ h => h) (Or.inl ⟨by rfl, ?hy46x69⟩) (by assumption) ?rest46x69
              case hy46x69 => (intro w hSw; (try dsimp only at hSw); go_simp; try with_reducible rfl)
              (try simp only [Act.put, List.getElem_toArray, List.getElem_cons_zero, List.getElem_cons_succ, List.setIfInBounds_toArray, List.set_cons_zero, List.set_cons_succ])
              refine wpAnyH_take (i := 47) (v := ?va47x70) rfl (by kernel_rfl) (by kernel_rfl) (by kernel_rfl) (fun _ _ _ h => h) (Or.inl ⟨by rfl, ?hy47x70⟩) (by assumption) ?rest47x70
              case hy47x70 => (intro w hSw; (try dsimp only at hSw); go_simp; try with_reducible rfl)
              (try simp only [Act.put, List.getElem_toArray, List.getElem_cons_zero, List.getElem_cons_succ, List.setIfInBounds_toArray, List.set_cons_zero, List.set_cons_succ])
              refine wpAnyH_take (i := 48) (v := ?va48x71) rfl (by kernel_rfl) (by kernel_rfl) (by kernel_rfl) (fun _ _ _ h => h) (Or.inl ⟨by rfl, ?hy48x71⟩) (by assumption) ?rest48x71
              case hy48x71 => (intro w hSw; (try dsimp only at hSw); go_simp; try with_reducible rfl)
              (try simp only [Act.put, List.getElem_toArray, List.getElem_cons_zero, List.getElem_cons_succ, List.setIfInBounds_toArray, List.set_cons_zero, List.set_cons_succ])
              refine wpAnyH_done (by kernel_rfl) ?_ _
              clear hHeld d0 d1 d2 d3 d4 d5
              go_wp2_with fail
              go_roundw
              case rel => exact ⟨i + 1, by omega, by go_num, nd + 1, rfl⟩
              case measure => simp [intOf]; omega
          · have hyx := HY2.out (fun q => hkt q.1)
            subst hyx
            have b1 : ((k : Int) == (tn : Int)) = false := by simp; omega
            have b2 : ((k : Int) != (tn : Int)) = true := by simp; omega
            have b5 : (y != y) = false := by simp
            go_wp2_with fail
            refine wp_region_held_drew (S := (fun w' => w'.cell? ⟨w1.heap.size, 0, none⟩ = some (.slice (some ⟨fb, fo, none⟩) nfH qaH) ∧ w'.cell? ⟨w2.heap.size, 0, none⟩ = some (.slice (some ⟨sb, so, none⟩) nfH qaG) ∧ w'.cell? ⟨fb, fo + k, none⟩ = some (.slice (some ⟨rb, ro, none⟩) ul uc) ∧ w'.cell? ⟨sb, so + k, none⟩ = some (.slice (some ⟨tb, to, none⟩) ul uc') ∧ w'.cell? ⟨rb, ro + i, none⟩ = some (.int .i64 y) ∧ w'.cell? ⟨tb, to + i, none⟩ = some (.int .i64 y))) (by kernel_rfl) (⟨d0, d1, d2, d3, d4, d5⟩) (fun hHeld => ?_)
            refine wpAnyH_take (i := 0) (v := ?va0x72) rfl (by kernel_rfl) (by kernel_rfl) (by kernel_rfl) (fun _ _ _ h => h) (Or.inl ⟨by rfl, ?hy0x72⟩) (by assumption) ?rest0x72
            case hy0x72 => (intro w hSw; (try dsimp only at hSw); go_simp; try with_reducible rfl)
            (try simp only [Act.put, List.getElem_toArray, List.getElem_cons_zero, List.setIfInBounds_toArray, List.set_cons_zero, List.set_cons_succ])
            refine wpAnyH_take (i := 1) (v := ?va1x73) rfl (by kernel_rfl) (by kernel_rfl) (by kernel_rfl) (fun _ _ _ h => h) (Or.inl ⟨by rfl, ?hy1x73⟩) (by assumption) ?rest1x73
            case hy1x73 => (intro w hSw; (try dsimp only at hSw); go_simp; try with_reducible rfl)
            (try simp only [Act.put, List.getElem_toArray, List.getElem_cons_zero, List.getElem_cons_succ, List.setIfInBounds_toArray, List.set_cons_zero, List.set_cons_succ])
            refine wpAnyH_take (i := 2) (v := ?va2x74) rfl (by kernel_rfl) (by kernel_rfl) (by kernel_rfl) (fun _ _ _ h => h) (Or.inl ⟨by rfl, ?hy2x74⟩) (by assumption) ?rest2x74
            case hy2x74 => (intro w hSw; (try dsimp only at hSw); go_simp; try with_reducible rfl)
            (try simp only [Act.put, List.getElem_toArray, List.getElem_cons_zero, List.getElem_cons_succ, List.setIfInBounds_toArray, List.set_cons_zero, List.set_cons_succ])
            refine wpAnyH_take (i := 3) (v := ?va3x75) rfl (by kernel_rfl) (by kernel_rfl) (by kernel_rfl) (fun _ _ _ h => h) (Or.inl ⟨by rfl, ?hy3x75⟩) (by assumption) ?rest3x75
            case hy3x75 => (intro w hSw; (try dsimp only at hSw); go_simp; try with_reducible rfl)
            (try simp only [Act.put, List.getElem_toArray, List.getElem_cons_zero, List.getElem_cons_succ, List.setIfInBounds_toArray, List.set_cons_zero, List.set_cons_succ])
            refine wpAnyH_take (i := 4) (v := undef) rfl (by kernel_rfl) (by kernel_rfl) (by kernel_rfl) (fun _ _ _ h => h) (Or.inr ⟨by rfl, rfl⟩) (by assumption) ?_
            (try simp only [Act.put, List.getElem_toArray, List.getElem_cons_zero, List.getElem_cons_succ, List.setIfInBounds_toArray, List.set_cons_zero, List.set_cons_succ])
            refine wpAnyH_take (i := 5) (v := undef) rfl (by kernel_rfl) (by kernel_rfl) (by kernel_rfl) (fun _ _ _ h => h) (Or.inr ⟨by rfl, rfl⟩) (by assumption) ?_
            (try simp only [Act.put, List.getElem_toArray, List.getElem_cons_zero, List.getElem_cons_succ, List.setIfInBounds_toArray, List.set_cons_zero, List.set_cons_succ])
            refine wpAnyH_take (i := 6) (v := undef) rfl (by kernel_rfl) (by kernel_rfl) (by kernel_rfl) (fun _ _ _ h => h) (Or.inr ⟨by rfl, rfl⟩) (by assumption) ?_
            (try simp only [Act.put, List.getElem_toArray, List.getElem_cons_zero, List.getElem_cons_succ, List.setIfInBounds_toArray, List.set_cons_zero, List.set_cons_succ])
            refine wpAnyH_take (i := 7) (v := ?va7x76) rfl (by kernel_rfl) (by kernel_rfl) (by kernel_rfl) (fun _ _ _ h => h) (Or.inl ⟨by rfl, ?hy7x76⟩) (by assumption) ?rest7x76
            case hy7x76 => (intro w hSw; (try dsimp only at hSw); go_simp; try with_reducible rfl)
            (try simp only [Act.put, List.getElem_toArray, List.getElem_cons_zero, List.getElem_cons_succ, List.setIfInBounds_toArray, List.set_cons_zero, List.set_cons_succ])
            refine wpAnyH_take (i := 8) (v := ?va8x77) rfl (by kernel_rfl) (by kernel_rfl) (by kernel_rfl) (fun _ _ _ h => h) (Or.inl ⟨by rfl, ?hy8x77⟩) (by assumption) ?rest8x77
            case hy8x77 => (intro w hSw; (try dsimp only at hSw); go_simp; try with_reducible rfl)
            (try simp only [Act.put, List.getElem_toArray, List.getElem_cons_zero, List.getElem_cons_succ, List.setIfInBounds_toArray, List.set_cons_zero, List.set_cons_succ])
            refine wpAnyH_take (i := 9) (v := undef) rfl (by kernel_rfl) (by kernel_rfl) (by kernel_rfl) (fun _ _ _ h => h) (Or.inr ⟨by rfl, rfl⟩) (by assumption) ?_
            (try simp only [Act.put, List.getElem_toArray, List.getElem_cons_zero, List.getElem_cons_succ, List.setIfInBounds_toArray, List.set_cons_zero, List.set_cons_succ])
            refine wpAnyH_take (i := 10) (v := undef) rfl (by kernel_rfl) (by kernel_rfl) (by kernel_rfl) (fun _ _ _ h => h) (Or.inr ⟨by rfl, rfl⟩) (by assumption) ?_
            (try simp only [Act.put, List.getElem_toArray, List.getElem_cons_zero, List.getElem_cons_succ, List.setIfInBounds_toArray, List.set_cons_zero, List.set_cons_succ])
            refine wpAnyH_take (i := 11) (v := undef) rfl (by kernel_rfl) (by kernel_rfl) (by kernel_rfl) (fun _ _ _ h => h) (Or.inr ⟨by rfl, rfl⟩) (by assumption) ?_
            (try simp only [Act.put, List.getElem_toArray, List.getElem_cons_zero, List.getElem_cons_succ, List.setIfInBounds_toArray, List.set_cons_zero, List.set_cons_succ])
            refine wpAnyH_take (i := 12) (v := undef) rfl (by kernel_rfl) (by kernel_rfl) (by kernel_rfl) (fun _ _ _ h => h) (Or.inr ⟨by rfl, rfl⟩) (by assumption) ?_
            (try simp only [Act.put, List.getElem_toArray, List.getElem_cons_zero, List.getElem_cons_succ, List.setIfInBounds_toArray, List.set_cons_zero, List.set_cons_succ])
            refine wpAnyH_take (i := 13) (v := undef) rfl (by kernel_rfl) (by kernel_rfl) (by kernel_rfl) (fun _ _ _ h => h) (Or.inr ⟨by rfl, rfl⟩) (by assumption) ?_
            (try simp only [Act.put, List.getElem_toArray, List.getElem_cons_zero, List.getElem_cons_succ, List.setIfInBounds_toArray, List.set_cons_zero, List.set_cons_succ])
            refine wpAnyH_take (i := 14) (v := undef) rfl (by kernel_rfl) (by kernel_rfl) (by kernel_rfl) (fun _ _ _ h => h) (Or.inr ⟨by rfl, rfl⟩) (by assumption) ?_
            (try simp only [Act.put, List.getElem_toArray, List.getElem_cons_zero, List.getElem_cons_succ, List.setIfInBounds_toArray, List.set_cons_zero, List.set_cons_succ])
            refine wpAnyH_take (i := 15) (v := undef) rfl (by kernel_rfl) (by kernel_rfl) (by kernel_rfl) (fun _ _ _ h => h) (Or.inr ⟨by rfl, rfl⟩) (by assumption) ?_
            (try simp only [Act.put, List.getElem_toArray, List.getElem_cons_zero, List.getElem_cons_succ, List.setIfInBounds_toArray, List.set_cons_zero, List.set_cons_succ])
            refine wpAnyH_take (i := 16) (v := undef) rfl (by kernel_rfl) (by kernel_rfl) (by kernel_rfl) (fun _ _ _ h => h) (Or.inr ⟨by rfl, rfl⟩) (by assumption) ?_
            (try simp only [Act.put, List.getElem_toArray, List.getElem_cons_zero, List.getElem_cons_succ, List.setIfInBounds_toArray, List.set_cons_zero, List.set_cons_succ])
            refine wpAnyH_take (i := 17) (v := undef) rfl (by kernel_rfl) (by kernel_rfl) (by kernel_rfl) (fun _ _ _ h => h) (Or.inr ⟨by rfl, rfl⟩) (by assumption) ?_
            (try simp only [Act.put, List.getElem_toArray, List.getElem_cons_zero, List.getElem_cons_succ, List.setIfInBounds_toArray, List.set_cons_zero, List.set_cons_succ])
            refine wpAnyH_take (i := 18) (v := undef) rfl (by kernel_rfl) (by kernel_rfl) (by kernel_rfl) (fun _ _ _ h => h) (Or.inr ⟨by rfl, rfl⟩) (by assumption) ?_
            (try simp only [Act.put, List.getElem_toArray, List.getElem_cons_zero, List.getElem_cons_succ, List.setIfInBounds_toArray, List.set_cons_zero, List.set_cons_succ])
            refine wpAnyH_take (i := 19) (v := ?va19x78) rfl (by kernel_rfl) (by kernel_rfl) (by kernel_rfl) (fun _ _ _ h => h) (Or.inl ⟨by rfl, ?hy19x78⟩) (by assumption) ?rest19x78
            case hy19x78 => (intro w hSw; (try dsimp only at hSw); go_simp; try with_reducible rfl)
            (try simp only [Act.put, List.getElem_toArray, List.getElem_cons_zero, List.getElem_cons_succ, List.setIfInBounds_toArray, List.set_cons_zero, List.set_cons_succ])
            refine wpAnyH_take (i := 20) (v := ?va20x79) rfl (by kernel_rfl) (by kernel_rfl) (by kernel_rfl) (fun _ _ _ h => h) (Or.inl ⟨by rfl, ?hy20x79⟩) (by assumption) ?rest20x79
            case hy20x79 => (intro w hSw; (try dsimp only at hSw); go_simp; try with_reducible rfl)
            (try simp only [Act.put, List.getElem_toArray, List.getElem_cons_zero, List.getElem_cons_succ, List.setIfInBounds_toArray, List.set_cons_zero, List.set_cons_succ])
            refine wpAnyH_take (i := 21) (v := ?va21x80) rfl (by kernel_rfl) (by kernel_rfl) (by kernel_rfl) (fun _ _ _ h => h) (Or.inl ⟨by rfl, ?hy21x80⟩) (by assumption) ?rest21x80
            case hy21x80 => (intro w hSw; (try dsimp only at hSw); go_simp; try with_reducible rfl)
            (try simp only [Act.put, List.getElem_toArray, List.getElem_cons_zero, List.getElem_cons_succ, List.setIfInBounds_toArray, List.set_cons_zero, List.set_cons_succ])
            refine wpAnyH_take (i := 22) (v := ?va22x81) rfl (by kernel_rfl) (by kernel_rfl) (by kernel_rfl) (fun _ _ _ h => h) (Or.inl ⟨by rfl, ?hy22x81⟩) (by assumption) ?rest22x81
            case hy22x81 => (intro w hSw; (try dsimp only at hSw); go_simp; try with_reducible rfl)
            (try simp only [Act.put, List.getElem_toArray, List.getElem_cons_zero, List.getElem_cons_succ, List.setIfInBounds_toArray, List.set_cons_zero, List.set_cons_succ])
            refine wpAnyH_take (i := 23) (v := ?va23x82) rfl (by kernel_rfl) (by kernel_rfl) (by kernel_rfl) (fun _ _ _ h => h) (Or.inl ⟨by rfl, ?hy23x82⟩) (by assumption) ?rest23x82
            case hy23x82 => (intro w hSw; (try dsimp only at hSw); go_simp; try with_reducible rfl)
            (try simp only [Act.put, List.getElem_toArray, List.getElem_cons_zero, List.getElem_cons_succ, List.setIfInBounds_toArray, List.set_cons_zero, List.set_cons_succ])
            refine wpAnyH_take (i := 24) (v := ?va24x83) rfl (by kernel_rfl) (by kernel_rfl) (by kernel_rfl) (fun _ _ _ h => h) (Or.inl ⟨by rfl, ?hy24x83⟩) (by assumption) ?rest24x83
            case hy24x83 => (intro w hSw; (try dsimp only at hSw); go_simp; try with_reducible rfl)
            (try simp only [Act.put, List.getElem_toArray, List.getElem_cons_zero, List.getElem_cons_succ, List.setIfInBounds_toArray, List.set_cons_zero, List.set_cons_succ])
            refine wpAnyH_take (i := 25) (v := undef) rfl (by kernel_rfl) (by kernel_rfl) (by kernel_rfl) (fun _ _ _ h => h) (Or.inr ⟨by rfl, rfl⟩) (by assumption) ?_
            (try simp only [Act.put, List.getElem_toArray, List.getElem_cons_zero, List.getElem_cons_succ, List.setIfInBounds_toArray, List.set_cons_zero, List.set_cons_succ])
            refine wpAnyH_take (i := 26) (v := undef) rfl (by kernel_rfl) (by kernel_rfl) (by kernel_rfl) (fun _ _ _ h => h) (Or.inr ⟨by rfl, rfl⟩) (by assumption) ?_
            (try simp only [Act.put, List.getElem_toArray, List.getElem_cons_zero, List.getElem_cons_succ, List.setIfInBounds_toArray, List.set_cons_zero, List.set_cons_succ])
            refine wpAnyH_take (i := 27) (v := undef) rfl (by kernel_rfl) (by kernel_rfl) (by kernel_rfl) (fun _ _ _ h => h) (Or.inr ⟨by rfl, rfl⟩) (by assumption) ?_
            (try simp only [Act.put, List.getElem_toArray, List.getElem_cons_zero, List.getElem_cons_succ, List.setIfInBounds_toArray, List.set_cons_zero, List.set_cons_succ])
            refine wpAnyH_take (i := 28) (v := ?va28x84) rfl (by kernel_rfl) (by kernel_rfl) (by kernel_rfl) (fun _ _ _ h => h) (Or.inl ⟨by rfl, ?hy28x84⟩) (by assumption) ?rest28x84
            case hy28x84 => (intro w hSw; (try dsimp only at hSw); go_simp; try with_reducible rfl)
            (try simp only [Act.put, List.getElem_toArray, List.getElem_cons_zero, List.getElem_cons_succ, List.setIfInBounds_toArray, List.set_cons_zero, List.set_cons_succ])
            refine wpAnyH_take (i := 29) (v := ?va29x85) rfl (by kernel_rfl) (by kernel_rfl) (by kernel_rfl) (fun _ _ _ h => h) (Or.inl ⟨by rfl, ?hy29x85⟩) (by assumption) ?rest29x85
            case hy29x85 => (intro w hSw; (try dsimp only at hSw); go_simp; try with_reducible rfl)
            (try simp only [Act.put, List.getElem_toArray, List.getElem_cons_zero, List.getElem_cons_succ, List.setIfInBounds_toArray, List.set_cons_zero, List.set_cons_succ])
            refine wpAnyH_take (i := 30) (v := ?va30x86) rfl (by kernel_rfl) (by kernel_rfl) (by kernel_rfl) (fun _ _ _ h => h) (Or.inl ⟨by rfl, ?hy30x86⟩) (by assumption) ?rest30x86
            case hy30x86 => (intro w hSw; (try dsimp only at hSw); go_simp; try with_reducible rfl)
            (try simp only [Act.put, List.getElem_toArray, List.getElem_cons_zero, List.getElem_cons_succ, List.setIfInBounds_toArray, List.set_cons_zero, List.set_cons_succ])
            refine wpAnyH_take (i := 31) (v := ?va31x87) rfl (by kernel_rfl) (by kernel_rfl) (by kernel_rfl) (fun _ _ _ h => h) (Or.inl ⟨by rfl, ?hy31x87⟩) (by assumption) ?rest31x87
            case hy31x87 => (intro w hSw; (try dsimp only at hSw); go_simp; try with_reducible rfl)
            (try simp only [Act.put, List.getElem_toArray, List.getElem_cons_zero, List.getElem_cons_succ, List.setIfInBounds_toArray, List.set_cons_zero, List.set_cons_succ])
            refine wpAnyH_take (i := 32) (v := ?va32x88) rfl (by kernel_rfl) (by kernel_rfl) (by kernel_rfl) (fun _ _ _ h => h) (Or.inl ⟨by rfl, ?hy32x88⟩) (by assumption) ?rest32x88
            case hy32x88 => (intro w hSw; (try dsimp only at hSw); go_simp; try with_reducible rfl)
            (try simp only [Act.put, List.getElem_toArray, List.getElem_cons_zero, List.getElem_cons_succ, List.setIfInBounds_toArray, List.set_cons_zero, List.set_cons_succ])
            refine wpAnyH_take (i := 33) (v := ?va33x89) rfl (by kernel_rfl) (by kernel_rfl) (by kernel_rfl) (fun _ _ _ h => h) (Or.inl ⟨by rfl, ?hy33x89⟩) (by assumption) ?rest33x89
            case hy33x89 => (intro w hSw; (try dsimp only at hSw); go_simp; try with_reducible rfl)
            (try simp only [Act.put, List.getElem_toArray, List.getElem_cons_zero, List.getElem_cons_succ, List.setIfInBounds_toArray, List.set_cons_zero, List.set_cons_succ])
            refine wpAnyH_take (i := 34) (v := ?va34x90) rfl (by kernel_rfl) (by kernel_rfl) (by kernel_rfl) (fun _ _ _ h => h) (Or.inl ⟨by rfl, ?hy34x90⟩) (by assumption) ?rest34x90
            case hy34x90 => (intro w hSw; (try dsimp only at hSw); go_simp; try with_reducible rfl)
            (try simp only [Act.put, List.getElem_toArray, List.getElem_cons_zero, List.getElem_cons_succ, List.setIfInBounds_toArray, List.set_cons_zero, List.set_cons_succ])
            refine wpAnyH_take (i := 35) (v := ?va35x91) rfl (by kernel_rfl) (by kernel_rfl) (by kernel_rfl) (fun _ _ _ h => h) (Or.inl ⟨by rfl, ?hy35x91⟩) (by assumption) ?rest35x91
            case hy35x91 => (intro w hSw; (try dsimp only at hSw); go_simp; try with_reducible rfl)
            (try simp only [Act.put, List.getElem_toArray, List.getElem_cons_zero, List.getElem_cons_succ, List.setIfInBounds_toArray, List.set_cons_zero, List.set_cons_succ])
            refine wpAnyH_take (i := 36) (v := ?va36x92) rfl (by kernel_rfl) (by kernel_rfl) (by kernel_rfl) (fun _ _ _ h => h) (Or.inl ⟨by rfl, ?hy36x92⟩) (by assumption) ?rest36x92
            case hy36x92 => (intro w hSw; (try dsimp only at hSw); go_simp; try with_reducible rfl)
            (try simp only [Act.put, List.getElem_toArray, List.getElem_cons_zero, List.getElem_cons_succ, List.setIfInBounds_toArray, List.set_cons_zero, List.set_cons_succ])
            refine wpAnyH_take (i := 37) (v := ?va37x93) rfl (by kernel_rfl) (by kernel_rfl) (by kernel_rfl) (fun _ _ _ h => h) (Or.inl ⟨by rfl, ?hy37x93⟩) (by assumption) ?rest37x93
            case hy37x93 => (intro w hSw; (try dsimp only at hSw); go_simp; try with_reducible rfl)
            (try simp only [Act.put, List.getElem_toArray, List.getElem_cons_zero, List.getElem_cons_succ, List.setIfInBounds_toArray, List.set_cons_zero, List.set_cons_succ])
            refine wpAnyH_take (i := 38) (v := ?va38x94) rfl (by kernel_rfl) (by kernel_rfl) (by kernel_rfl) (fun _ _ _ h => h) (Or.inl ⟨by rfl, ?hy38x94⟩) (by assumption) ?rest38x94
            case hy38x94 => (intro w hSw; (try dsimp only at hSw); go_simp; try with_reducible rfl)
            (try simp only [Act.put, List.getElem_toArray, List.getElem_cons_zero, List.getElem_cons_succ, List.setIfInBounds_toArray, List.set_cons_zero, List.set_cons_succ])
            refine wpAnyH_take (i := 39) (v := ?va39x95) rfl (by kernel_rfl) (by kernel_rfl) (by kernel_rfl) (fun _ _ _ h => h) (Or.inl ⟨by rfl, ?hy39x95⟩) (by assumption) ?rest39x95
            case hy39x95 => (intro w hSw; (try dsimp only at hSw); go_simp; try with_reducible rfl)
            (try simp only [Act.put, List.getElem_toArray, List.getElem_cons_zero, List.getElem_cons_succ, List.setIfInBounds_toArray, List.set_cons_zero, List.set_cons_succ])
            refine wpAnyH_take (i := 40) (v := ?va40x96) rfl (by kernel_rfl) (by kernel_rfl) (by kernel_rfl) (fun _ _ _ h => h) (Or.inl ⟨by rfl, ?hy40x96⟩) (by assumption) ?rest40x96
            case hy40x96 => (intro w hSw; (try dsimp only at hSw); go_simp; try with_reducible rfl)
            (try simp only [Act.put, List.getElem_toArray, List.getElem_cons_zero, List.getElem_cons_succ, List.setIfInBounds_toArray, List.set_cons_zero, List.set_cons_succ])
            refine wpAnyH_take (i := 41) (v := ?va41x97) rfl (by kernel_rfl) (by kernel_rfl) (by kernel_rfl) (fun _ _ _ h => h) (Or.inl ⟨by rfl, ?hy41x97⟩) (by assumption) ?rest41x97
            case hy41x97 => (intro w hSw; (try dsimp only at hSw); go_simp; try with_reducible rfl)
            (try simp only [Act.put, List.getElem_toArray, List.getElem_cons_zero, List.getElem_cons_succ, List.setIfInBounds_toArray, List.set_cons_zero, List.set_cons_succ])
            refine wpAnyH_take (i := 42) (v := ?va42x98) rfl (by kernel_rfl) (by kernel_rfl) (by kernel_rfl) (fun _ _ _ h => h) (Or.inl ⟨by rfl, ?hy42x98⟩) (by assumption) ?rest42x98
            case hy42x98 => (intro w hSw; (try dsimp only at hSw); go_simp; try with_reducible rfl)
            (try simp only [Act.put, List.getElem_toArray, List.getElem_cons_zero, List.getElem_cons_succ, List.setIfInBounds_toArray, List.set_cons_zero, List.set_cons_succ])
            refine wpAnyH_take (i := 43) (v := ?va43x99) rfl (by kernel_rfl) (by kernel_rfl) (by kernel_rfl) (fun _ _ _ h => h) (Or.inl ⟨by rfl, ?hy43x99⟩) (by assumption) ?rest43x99
            case hy43x99 => (intro w hSw; (try dsimp only at hSw); go_simp; try with_reducible rfl)
            (try simp only [Act.put, List.getElem_toArray, List.getElem_cons_zero, List.getElem_cons_succ, List.setIfInBounds_toArray, List.set_cons_zero, List.set_cons_succ])
            refine wpAnyH_take (i := 44) (v := ?va44x100) rfl (by kernel_rfl) (by kernel_rfl) (by kernel_rfl) (fun _ _ _ h => h) (Or.inl ⟨by rfl, ?hy44x100⟩) (by assumption) ?rest44x100
            case hy44x100 => (intro w hSw; (try dsimp only at hSw); go_simp; try with_reducible rfl)
            (try simp only [Act.put, List.getElem_toArray, List.getElem_cons_zero, List.getElem_cons_succ, List.setIfInBounds_toArray, List.set_cons_zero, List.set_cons_succ])
            refine wpAnyH_take (i := 45) (v := ?va45x101) rfl (by kernel_rfl) (by kernel_rfl) (by kernel_rfl) (fun _ _ _ h => h) (Or.inl ⟨by rfl, ?hy45x101⟩) (by assumption) ?rest45x101
            case hy45x101 => (intro w hSw; (try dsimp only at hSw); go_simp; try with_reducible rfl)
            (try simp only [Act.put, List.getElem_toArray, List.getElem_cons_zero, List.getElem_cons_succ, List.setIfInBounds_toArray, List.set_cons_zero, List.set_cons_succ])
            refine wpAnyH_take (i := 46) (v := ?va46x102) rfl (by kernel_rfl) (by kernel_rfl) (by kernel_rfl) (fun _ _ _ h => h) (Or.inl ⟨by rfl, ?hy46x102⟩) (by assumption) ?rest46x102
            case hy46x102 => (intro w hSw; (try dsimp only at hSw); go_simp; try with_reducible rfl)
            (try simp only [Act.put, List.getElem_toArray, List.getElem_cons_zero, List.getElem_cons_succ, List.setIfInBounds_toArray, List.set_cons_zero, List.set_cons_succ])
            refine wpAnyH_take (i := 47) (v := ?va47x103) rfl (by kernel_rfl) (by kernel_rfl) (by kernel_rfl) (fun _ _ _ h => h) (Or.inl ⟨by rfl, ?hy47x103⟩) (by assumption) ?rest47x103
            case hy47x103 => (intro w hSw; (try dsimp only at hSw); go_simp; try with_reducible rfl)
            (try simp only [Act.put, List.getElem_toArray, List.getElem_cons_zero, List.getElem_cons_succ, List.setIfInBounds_toArray, List.set_cons_zero, List.set_cons_succ])
            refine wpAnyH_take (i := 48) (v := ?va48x104) rfl (by kernel_rfl) (by kernel_rfl) (by kernel_rfl) (fun _ _ _ h => h) (Or.inl ⟨by rfl, ?hy48x104⟩) (by assumption) ?rest48x104
            case hy48x104 => (intro w hSw; (try dsimp only at hSw); go_simp; try with_reducible rfl)
            (try simp only [Act.put, List.getElem_toArray, List.getElem_cons_zero, List.getElem_cons_succ, List.setIfInBounds_toArray, List.set_cons_zero, List.set_cons_succ])
            refine wpAnyH_done (by kernel_rfl) ?_ _
            clear hHeld d0 d1 d2 d3 d4 d5
            go_wp2_with fail
            go_roundw
            case rel => exact ⟨i + 1, by omega, by go_num, nd + 1, rfl⟩
            case measure => simp [intOf]; omega
        · have in' : ¬ (i : Int) < (ul : Int) := by omega
          go_wp2_with fail
          go_roundw
          case rel => exact ⟨k + 1, by omega, by go_num, nd, rfl⟩
          case measure => simp [intOf]; omega
    · obtain rfl : k = nfH := by omega
      have kn : ¬ (k : Int) < (k : Int) := by omega
      have hb : Below w4.heap.size w4 (w4.drewN nd) := below_drewN (Below.refl _ _) nd
      replace M1 := Lib.hid (M1.out.below hb)
      replace HA := Lib.hid (HA.out.below hb)
      replace VH := Lib.hid (VH.out.below hb)
      replace IG := Lib.hid (IG.out.below hb)
      replace VG := Lib.hid (VG.out.below hb)
      replace IW := Lib.hid (IW.out.below hb)
      replace VW := Lib.hid (VW.out.below hb)
      replace L := Lib.hid (bst L.out hb L.out.size)
      clear hb
      generalize w4.drewN nd = w5 at *
      go_wp2_with fail
      refine (d_NewThing _ z1 _ M1.out).mono ?_
      rintro e x1b ⟨aU, bU, cU, hU, mU, rfl, hshU, hmU, hAU, hb⟩
      obtain ⟨paU, qaU, rfl⟩ := hAU.f.shape
      obtain ⟨pbU, qbU, rfl⟩ := hAU.l.shape
      obtain ⟨pcU, qcU, rfl⟩ := hAU.r.shape
      replace M1 := Lib.hid (M1.out.below hb)
      replace HA := Lib.hid (HA.out.below hb)
      replace VH := Lib.hid (VH.out.below hb)
      replace IG := Lib.hid (IG.out.below hb)
      replace VG := Lib.hid (VG.out.below hb)
      replace IW := Lib.hid (IW.out.below hb)
      replace VW := Lib.hid (VW.out.below hb)
      replace L := Lib.hid (bst L.out hb L.out.size)
      have HU := Lib.hid hAU
      have FN := Lib.hid (new_facts (h := hU) (m := mU))
      have HBN : Hid (∀ X : H, X = (newP hU mU).1 → X.f.length ≤ 1000 ∧ X.l.length ≤ 1000 ∧ X.r.length ≤ 1000 ∧ ∀ i, (X.f.getD i []).length ≤ 1000) := fun X q => by rw [q]; exact wt_bounds (newP_wt hU mU)
      have HN1 := Lib.hid (fun w' q1 => c_NewThing (.slice paU hU.f.length qaU) (.slice pbU hU.l.length qbU) (.slice pcU hU.r.length qcU) hU mU w' q1)
      have HN2 := Lib.hid (fun w' q1 => s_NewThing (.slice paU hU.f.length qaU) (.slice pbU hU.l.length qbU) (.slice pcU hU.r.length qcU) hU mU w' q1)
      clear hb hAU hshU
      generalize (newP hU mU).1 = hN at *
      generalize (newP hU mU).2 = kN at *
      generalize newOk hU mU = okN at *
      generalize hU.f.length = nfU at *
      generalize hU.l.length = nlU at *
      generalize hU.r.length = nrU at *
      obtain ⟨nfN, hnf⟩ : ∃ q, hN.f.length = q := ⟨_, rfl⟩
      obtain ⟨nlN, hnl⟩ : ∃ q, hN.l.length = q := ⟨_, rfl⟩
      obtain ⟨nrN, hnr⟩ : ∃ q, hN.r.length = q := ⟨_, rfl⟩
      have NNf := Lib.hid hnf; have NNl := Lib.hid hnl; have NNr := Lib.hid hnr
      clear hnf hnl hnr
      have hbq := below1 x1b (.cells (c3 (.slice paU nfU qaU) (.slice pbU nlU qbU) (.slice pcU nrU qcU)) 27)
      replace M1 := Lib.hid (M1.out.below hbq)
      replace HA := Lib.hid (HA.out.below hbq)
      replace VH := Lib.hid (VH.out.below hbq)
      replace IG := Lib.hid (IG.out.below hbq)
      replace VG := Lib.hid (VG.out.below hbq)
      replace IW := Lib.hid (IW.out.below hbq)
      replace VW := Lib.hid (VW.out.below hbq)
      replace HU := Lib.hid (HU.out.below hbq)
      replace L := Lib.hid (bst L.out hbq L.out.size)
      clear hbq
      have VU := Lib.hid (show RowH _ _ _ _ _ from Row.new x1b 27 (c3 (.slice paU nfU qaU) (.slice pbU nlU qbU) (.slice pcU nrU qcU)))
      have c0VU := VU.out.c0
      have c1VU := VU.out.c1
      have c2VU := VU.out.c2
      go_wp2_with fail
      clear c0VU c1VU c2VU
      refine (HN1.out _ HU.out).mono ?_
      intro e x2b hend
      obtain ⟨aM, bM, cM, rfl, hiM, hb⟩ := hend.reads
      clear hend
      obtain ⟨paM, qaM, rfl⟩ := hiM.f.shape
      obtain ⟨pbM, qbM, rfl⟩ := hiM.l.shape
      obtain ⟨pcM, qcM, rfl⟩ := hiM.r.shape
      replace M1 := Lib.hid (M1.out.below hb)
      replace HA := Lib.hid (HA.out.below hb)
      replace VH := Lib.hid (VH.out.below hb)
      replace IG := Lib.hid (IG.out.below hb)
      replace VG := Lib.hid (VG.out.below hb)
      replace IW := Lib.hid (IW.out.below hb)
      replace VW := Lib.hid (VW.out.below hb)
      replace HU := Lib.hid (HU.out.below hb)
      replace VU := Lib.hid (VU.out.below hb)
      replace L := Lib.hid (bst L.out hb L.out.size)
      have IM := Lib.hid hiM
      clear hb hiM
      simp only [NNf.out, NNl.out, NNr.out] at IM ⊢
      have hbq := below1 x2b (.cells (c3 (.slice paM nfN qaM) (.slice pbM nlN qbM) (.slice pcM nrN qcM)) 27)
      replace M1 := Lib.hid (M1.out.below hbq)
      replace HA := Lib.hid (HA.out.below hbq)
      replace VH := Lib.hid (VH.out.below hbq)
      replace IG := Lib.hid (IG.out.below hbq)
      replace VG := Lib.hid (VG.out.below hbq)
      replace IW := Lib.hid (IW.out.below hbq)
      replace VW := Lib.hid (VW.out.below hbq)
      replace HU := Lib.hid (HU.out.below hbq)
      replace VU := Lib.hid (VU.out.below hbq)
      replace IM := Lib.hid (IM.out.below hbq)
      replace L := Lib.hid (bst L.out hbq L.out.size)
      clear hbq
      have VM := Lib.hid (show RowH _ _ _ _ _ from Row.new x2b 27 (c3 (.slice paM nfN qaM) (.slice pbM nlN qbM) (.slice pcM nrN qcM)))
      have c0VU := VU.out.c0
      have c1VU := VU.out.c1
      have c2VU := VU.out.c2
      go_wp2_with fail
      clear c0VU c1VU c2VU
      refine (HN2.out _ HU.out).mono ?_
      intro e x3b hend
      obtain ⟨aO, bO, cO, rfl, hiO, hb⟩ := hend.reads
      clear hend
      obtain ⟨paO, qaO, rfl⟩ := hiO.f.shape
      obtain ⟨pbO, qbO, rfl⟩ := hiO.l.shape
      obtain ⟨pcO, qcO, rfl⟩ := hiO.r.shape
      replace M1 := Lib.hid (M1.out.below hb)
      replace HA := Lib.hid (HA.out.below hb)
      replace VH := Lib.hid (VH.out.below hb)
      replace IG := Lib.hid (IG.out.below hb)
      replace VG := Lib.hid (VG.out.below hb)
      replace IW := Lib.hid (IW.out.below hb)
      replace VW := Lib.hid (VW.out.below hb)
      replace HU := Lib.hid (HU.out.below hb)
      replace VU := Lib.hid (VU.out.below hb)
      replace IM := Lib.hid (IM.out.below hb)
      replace VM := Lib.hid (VM.out.below hb)
      replace L := Lib.hid (bst L.out hb L.out.size)
      have IO := Lib.hid hiO
      clear hb hiO
      simp only [NNf.out, NNl.out, NNr.out] at IO ⊢
      have hbq := below1 x3b (.cells (c3 (.slice paO nfN qaO) (.slice pbO nlN qbO) (.slice pcO nrN qcO)) 27)
      replace M1 := Lib.hid (M1.out.below hbq)
      replace HA := Lib.hid (HA.out.below hbq)
      replace VH := Lib.hid (VH.out.below hbq)
      replace IG := Lib.hid (IG.out.below hbq)
      replace VG := Lib.hid (VG.out.below hbq)
      replace IW := Lib.hid (IW.out.below hbq)
      replace VW := Lib.hid (VW.out.below hbq)
      replace HU := Lib.hid (HU.out.below hbq)
      replace VU := Lib.hid (VU.out.below hbq)
      replace IM := Lib.hid (IM.out.below hbq)
      replace VM := Lib.hid (VM.out.below hbq)
      replace IO := Lib.hid (IO.out.below hbq)
      replace L := Lib.hid (bst L.out hbq L.out.size)
      clear hbq
      have VO := Lib.hid (show RowH _ _ _ _ _ from Row.new x3b 27 (c3 (.slice paO nfN qaO) (.slice pbO nlN qbO) (.slice pcO nrN qcO)))
      go_wp2_with fail
      refine (d_SetRoot _ z1 _ M1.out).mono ?_
      rintro e x4b ⟨aR, bR, cR, hR, kR, tR, rfl, hshR, hAR, hb⟩
      obtain ⟨paR, qaR, rfl⟩ := hAR.f.shape
      obtain ⟨pbR, qbR, rfl⟩ := hAR.l.shape
      obtain ⟨pcR, qcR, rfl⟩ := hAR.r.shape
      replace M1 := Lib.hid (M1.out.below hb)
      replace HA := Lib.hid (HA.out.below hb)
      replace VH := Lib.hid (VH.out.below hb)
      replace IG := Lib.hid (IG.out.below hb)
      replace VG := Lib.hid (VG.out.below hb)
      replace IW := Lib.hid (IW.out.below hb)
      replace VW := Lib.hid (VW.out.below hb)
      replace HU := Lib.hid (HU.out.below hb)
      replace VU := Lib.hid (VU.out.below hb)
      replace IM := Lib.hid (IM.out.below hb)
      replace VM := Lib.hid (VM.out.below hb)
      replace IO := Lib.hid (IO.out.below hb)
      replace VO := Lib.hid (VO.out.below hb)
      replace L := Lib.hid (bst L.out hb L.out.size)
      have HRR := Lib.hid hAR
      have HBR : Hid (∀ X : H, X = setR hR kR tR → X.f.length ≤ 1000 ∧ X.l.length ≤ 1000 ∧ X.r.length ≤ 1000 ∧ ∀ i, (X.f.getD i []).length ≤ 1000) := fun X q => by rw [q]; exact wt_bounds (setR_wt hR kR tR)
      have HR1 := Lib.hid (fun w' q1 => c_SetRoot (.slice paR hR.f.length qaR) (.slice pbR hR.l.length qbR) (.slice pcR hR.r.length qcR) hR kR tR w' q1)
      have HR2 := Lib.hid (fun w' q1 => s_SetRoot (.slice paR hR.f.length qaR) (.slice pbR hR.l.length qbR) (.slice pcR hR.r.length qcR) hR kR tR w' q1)
      clear hb hAR hshR
      generalize setR hR kR tR = hT at *
      generalize setROk hR kR tR = okR at *
      generalize hR.f.length = nfR at *
      generalize hR.l.length = nlR at *
      generalize hR.r.length = nrR at *
      obtain ⟨nfT, hnf⟩ : ∃ q, hT.f.length = q := ⟨_, rfl⟩
      obtain ⟨nlT, hnl⟩ : ∃ q, hT.l.length = q := ⟨_, rfl⟩
      obtain ⟨nrT, hnr⟩ : ∃ q, hT.r.length = q := ⟨_, rfl⟩
      have NTf := Lib.hid hnf; have NTl := Lib.hid hnl; have NTr := Lib.hid hnr
      clear hnf hnl hnr
      have hbq := below1 x4b (.cells (c3 (.slice paR nfR qaR) (.slice pbR nlR qbR) (.slice pcR nrR qcR)) 27)
      replace M1 := Lib.hid (M1.out.below hbq)
      replace HA := Lib.hid (HA.out.below hbq)
      replace VH := Lib.hid (VH.out.below hbq)
      replace IG := Lib.hid (IG.out.below hbq)
      replace VG := Lib.hid (VG.out.below hbq)
      replace IW := Lib.hid (IW.out.below hbq)
      replace VW := Lib.hid (VW.out.below hbq)
      replace HU := Lib.hid (HU.out.below hbq)
      replace VU := Lib.hid (VU.out.below hbq)
      replace IM := Lib.hid (IM.out.below hbq)
      replace VM := Lib.hid (VM.out.below hbq)
      replace IO := Lib.hid (IO.out.below hbq)
      replace VO := Lib.hid (VO.out.below hbq)
      replace HRR := Lib.hid (HRR.out.below hbq)
      replace L := Lib.hid (bst L.out hbq L.out.size)
      clear hbq
      have VR := Lib.hid (show RowH _ _ _ _ _ from Row.new x4b 27 (c3 (.slice paR nfR qaR) (.slice pbR nlR qbR) (.slice pcR nrR qcR)))
      have c0VR := VR.out.c0
      have c1VR := VR.out.c1
      have c2VR := VR.out.c2
      go_wp2_with fail
      clear c0VR c1VR c2VR
      refine (HR1.out _ HRR.out).mono ?_
      intro e x5b hend
      obtain ⟨aP, bP, cP, rfl, hiP, hb⟩ := hend.reads
      clear hend
      obtain ⟨paP, qaP, rfl⟩ := hiP.f.shape
      obtain ⟨pbP, qbP, rfl⟩ := hiP.l.shape
      obtain ⟨pcP, qcP, rfl⟩ := hiP.r.shape
      replace M1 := Lib.hid (M1.out.below hb)
      replace HA := Lib.hid (HA.out.below hb)
      replace VH := Lib.hid (VH.out.below hb)
      replace IG := Lib.hid (IG.out.below hb)
      replace VG := Lib.hid (VG.out.below hb)
      replace IW := Lib.hid (IW.out.below hb)
      replace VW := Lib.hid (VW.out.below hb)
      replace HU := Lib.hid (HU.out.below hb)
      replace VU := Lib.hid (VU.out.below hb)
      replace IM := Lib.hid (IM.out.below hb)
      replace VM := Lib.hid (VM.out.below hb)
      replace IO := Lib.hid (IO.out.below hb)
      replace VO := Lib.hid (VO.out.below hb)
      replace HRR := Lib.hid (HRR.out.below hb)
      replace VR := Lib.hid (VR.out.below hb)
      replace L := Lib.hid (bst L.out hb L.out.size)
      have IP := Lib.hid hiP
      clear hb hiP
      simp only [NTf.out, NTl.out, NTr.out] at IP ⊢
      have hbq := below1 x5b (.cells (c3 (.slice paP nfT qaP) (.slice pbP nlT qbP) (.slice pcP nrT qcP)) 27)
      replace M1 := Lib.hid (M1.out.below hbq)
      replace HA := Lib.hid (HA.out.below hbq)
      replace VH := Lib.hid (VH.out.below hbq)
      replace IG := Lib.hid (IG.out.below hbq)
      replace VG := Lib.hid (VG.out.below hbq)
      replace IW := Lib.hid (IW.out.below hbq)
      replace VW := Lib.hid (VW.out.below hbq)
      replace HU := Lib.hid (HU.out.below hbq)
      replace VU := Lib.hid (VU.out.below hbq)
      replace IM := Lib.hid (IM.out.below hbq)
      replace VM := Lib.hid (VM.out.below hbq)
      replace IO := Lib.hid (IO.out.below hbq)
      replace VO := Lib.hid (VO.out.below hbq)
      replace HRR := Lib.hid (HRR.out.below hbq)
      replace VR := Lib.hid (VR.out.below hbq)
      replace IP := Lib.hid (IP.out.below hbq)
      replace L := Lib.hid (bst L.out hbq L.out.size)
      clear hbq
      have VP := Lib.hid (show RowH _ _ _ _ _ from Row.new x5b 27 (c3 (.slice paP nfT qaP) (.slice pbP nlT qbP) (.slice pcP nrT qcP)))
      have c0VR := VR.out.c0
      have c1VR := VR.out.c1
      have c2VR := VR.out.c2
      go_wp2_with fail
      clear c0VR c1VR c2VR
      refine (HR2.out _ HRR.out).mono ?_
      intro e x6b hend
      obtain ⟨aQ, bQ, cQ, rfl, hiQ, hb⟩ := hend.reads
      clear hend
      obtain ⟨paQ, qaQ, rfl⟩ := hiQ.f.shape
      obtain ⟨pbQ, qbQ, rfl⟩ := hiQ.l.shape
      obtain ⟨pcQ, qcQ, rfl⟩ := hiQ.r.shape
      replace M1 := Lib.hid (M1.out.below hb)
      replace HA := Lib.hid (HA.out.below hb)
      replace VH := Lib.hid (VH.out.below hb)
      replace IG := Lib.hid (IG.out.below hb)
      replace VG := Lib.hid (VG.out.below hb)
      replace IW := Lib.hid (IW.out.below hb)
      replace VW := Lib.hid (VW.out.below hb)
      replace HU := Lib.hid (HU.out.below hb)
      replace VU := Lib.hid (VU.out.below hb)
      replace IM := Lib.hid (IM.out.below hb)
      replace VM := Lib.hid (VM.out.below hb)
      replace IO := Lib.hid (IO.out.below hb)
      replace VO := Lib.hid (VO.out.below hb)
      replace HRR := Lib.hid (HRR.out.below hb)
      replace VR := Lib.hid (VR.out.below hb)
      replace IP := Lib.hid (IP.out.below hb)
      replace VP := Lib.hid (VP.out.below hb)
      replace L := Lib.hid (bst L.out hb L.out.size)
      have IQ := Lib.hid hiQ
      clear hb hiQ
      simp only [NTf.out, NTl.out, NTr.out] at IQ ⊢
      have hbq := below1 x6b (.cells (c3 (.slice paQ nfT qaQ) (.slice pbQ nlT qbQ) (.slice pcQ nrT qcQ)) 27)
      replace M1 := Lib.hid (M1.out.below hbq)
      replace HA := Lib.hid (HA.out.below hbq)
      replace VH := Lib.hid (VH.out.below hbq)
      replace IG := Lib.hid (IG.out.below hbq)
      replace VG := Lib.hid (VG.out.below hbq)
      replace IW := Lib.hid (IW.out.below hbq)
      replace VW := Lib.hid (VW.out.below hbq)
      replace HU := Lib.hid (HU.out.below hbq)
      replace VU := Lib.hid (VU.out.below hbq)
      replace IM := Lib.hid (IM.out.below hbq)
      replace VM := Lib.hid (VM.out.below hbq)
      replace IO := Lib.hid (IO.out.below hbq)
      replace VO := Lib.hid (VO.out.below hbq)
      replace HRR := Lib.hid (HRR.out.below hbq)
      replace VR := Lib.hid (VR.out.below hbq)
      replace IP := Lib.hid (IP.out.below hbq)
      replace VP := Lib.hid (VP.out.below hbq)
      replace IQ := Lib.hid (IQ.out.below hbq)
      replace L := Lib.hid (bst L.out hbq L.out.size)
      clear hbq
      have VQ := Lib.hid (show RowH _ _ _ _ _ from Row.new x6b 27 (c3 (.slice paQ nfT qaQ) (.slice pbQ nlT qbQ) (.slice pcQ nrT qcQ)))
      have e5 : (okN != okN) = false := by simp
      have e6 : ((kN : Int) != (kN : Int)) = false := by simp
      have e7 : (okR != okR) = false := by simp
      have c0VM := VM.out.c0
      have c1VM := VM.out.c1
      have c2VM := VM.out.c2
      have c0VO := VO.out.c0
      have c1VO := VO.out.c1
      have c2VO := VO.out.c2
      go_wp2_with fail
      clear c0VM c1VM c2VM c0VO c1VO c2VO
      obtain ⟨u1, u2, u3, u4⟩ := HBN.out _ rfl
      refine (c_sameHeap _ _ _ _ _ _ hN _ IM.out IO.out u1 u2 u3 u4).mono ?_
      clear u1 u2 u3 u4
      rintro e y1b ⟨rfl, hb⟩
      replace M1 := Lib.hid (M1.out.below hb)
      replace HA := Lib.hid (HA.out.below hb)
      replace VH := Lib.hid (VH.out.below hb)
      replace IG := Lib.hid (IG.out.below hb)
      replace VG := Lib.hid (VG.out.below hb)
      replace IW := Lib.hid (IW.out.below hb)
      replace VW := Lib.hid (VW.out.below hb)
      replace HU := Lib.hid (HU.out.below hb)
      replace VU := Lib.hid (VU.out.below hb)
      replace IM := Lib.hid (IM.out.below hb)
      replace VM := Lib.hid (VM.out.below hb)
      replace IO := Lib.hid (IO.out.below hb)
      replace VO := Lib.hid (VO.out.below hb)
      replace HRR := Lib.hid (HRR.out.below hb)
      replace VR := Lib.hid (VR.out.below hb)
      replace IP := Lib.hid (IP.out.below hb)
      replace VP := Lib.hid (VP.out.below hb)
      replace IQ := Lib.hid (IQ.out.below hb)
      replace VQ := Lib.hid (VQ.out.below hb)
      replace L := Lib.hid (bst L.out hb L.out.size)
      clear hb
      have c0VP := VP.out.c0
      have c1VP := VP.out.c1
      have c2VP := VP.out.c2
      have c0VQ := VQ.out.c0
      have c1VQ := VQ.out.c1
      have c2VQ := VQ.out.c2
      go_wp2_with fail
      clear c0VP c1VP c2VP c0VQ c1VQ c2VQ
      obtain ⟨u1, u2, u3, u4⟩ := HBR.out _ rfl
      refine (c_sameHeap _ _ _ _ _ _ hT _ IP.out IQ.out u1 u2 u3 u4).mono ?_
      clear u1 u2 u3 u4
      rintro e y2b ⟨rfl, hb⟩
      replace M1 := Lib.hid (M1.out.below hb)
      replace HA := Lib.hid (HA.out.below hb)
      replace VH := Lib.hid (VH.out.below hb)
      replace IG := Lib.hid (IG.out.below hb)
      replace VG := Lib.hid (VG.out.below hb)
      replace IW := Lib.hid (IW.out.below hb)
      replace VW := Lib.hid (VW.out.below hb)
      replace HU := Lib.hid (HU.out.below hb)
      replace VU := Lib.hid (VU.out.below hb)
      replace IM := Lib.hid (IM.out.below hb)
      replace VM := Lib.hid (VM.out.below hb)
      replace IO := Lib.hid (IO.out.below hb)
      replace VO := Lib.hid (VO.out.below hb)
      replace HRR := Lib.hid (HRR.out.below hb)
      replace VR := Lib.hid (VR.out.below hb)
      replace IP := Lib.hid (IP.out.below hb)
      replace VP := Lib.hid (VP.out.below hb)
      replace IQ := Lib.hid (IQ.out.below hb)
      replace VQ := Lib.hid (VQ.out.below hb)
      replace L := Lib.hid (bst L.out hb L.out.size)
      clear hb
      cases okN
      · go_wp2_with fail
        go_ret
        exact ⟨rfl, L.out⟩
      obtain ⟨g1, g2, g3, g4, g5, g6, g7⟩ := FN.out rfl
      have HC3 := Lib.hid (fun w' q1 => c_ReachedIn (.slice paM nfN qaM) (.slice pbM nlN qbM) (.slice pcM nrN qcM) hN w' q1)
      have HC4 := Lib.hid (fun w' q1 => c_GoodHeap (.slice paM nfN qaM) (.slice pbM nlN qbM) (.slice pcM nrN qcM) hN w' q1)
      rw [g1] at HC3 HC4
      rw [NNf.out] at g2 g3 g4
      rw [NNl.out] at g4
      have G5 := Lib.hid g5; have G6 := Lib.hid g6; have G7 := Lib.hid g7; have G2 := Lib.hid g2; have G4 := Lib.hid g4
      clear g1 g2 g4 g5 g6 g7 FN
      generalize reachR hN = rb at *
      have c0VM := VM.out.c0
      have c1VM := VM.out.c1
      have c2VM := VM.out.c2
      go_wp2_with fail
      clear c0VM c1VM c2VM
      refine (HC3.out _ IM.out).mono ?_
      intro e y3b hend
      obtain ⟨vB, rfl, hiB, hb⟩ := hend.reads5
      clear hend
      obtain ⟨pB, qB, rfl⟩ := hiB.shape
      replace M1 := Lib.hid (M1.out.below hb)
      replace HA := Lib.hid (HA.out.below hb)
      replace VH := Lib.hid (VH.out.below hb)
      replace IG := Lib.hid (IG.out.below hb)
      replace VG := Lib.hid (VG.out.below hb)
      replace IW := Lib.hid (IW.out.below hb)
      replace VW := Lib.hid (VW.out.below hb)
      replace HU := Lib.hid (HU.out.below hb)
      replace VU := Lib.hid (VU.out.below hb)
      replace IM := Lib.hid (IM.out.below hb)
      replace VM := Lib.hid (VM.out.below hb)
      replace IO := Lib.hid (IO.out.below hb)
      replace VO := Lib.hid (VO.out.below hb)
      replace HRR := Lib.hid (HRR.out.below hb)
      replace VR := Lib.hid (VR.out.below hb)
      replace IP := Lib.hid (IP.out.below hb)
      replace VP := Lib.hid (VP.out.below hb)
      replace IQ := Lib.hid (IQ.out.below hb)
      replace VQ := Lib.hid (VQ.out.below hb)
      replace L := Lib.hid (bst L.out hb L.out.size)
      have IB := Lib.hid hiB
      clear hb hiB
      have c0VM := VM.out.c0
      have c1VM := VM.out.c1
      have c2VM := VM.out.c2
      go_wp2_with fail
      clear c0VM c1VM c2VM
      refine (HC4.out _ IM.out).mono ?_
      rintro e y4b ⟨rfl, hb⟩
      replace M1 := Lib.hid (M1.out.below hb)
      replace HA := Lib.hid (HA.out.below hb)
      replace VH := Lib.hid (VH.out.below hb)
      replace IG := Lib.hid (IG.out.below hb)
      replace VG := Lib.hid (VG.out.below hb)
      replace IW := Lib.hid (IW.out.below hb)
      replace VW := Lib.hid (VW.out.below hb)
      replace HU := Lib.hid (HU.out.below hb)
      replace VU := Lib.hid (VU.out.below hb)
      replace IM := Lib.hid (IM.out.below hb)
      replace VM := Lib.hid (VM.out.below hb)
      replace IO := Lib.hid (IO.out.below hb)
      replace VO := Lib.hid (VO.out.below hb)
      replace HRR := Lib.hid (HRR.out.below hb)
      replace VR := Lib.hid (VR.out.below hb)
      replace IP := Lib.hid (IP.out.below hb)
      replace VP := Lib.hid (VP.out.below hb)
      replace IQ := Lib.hid (IQ.out.below hb)
      replace VQ := Lib.hid (VQ.out.below hb)
      replace IB := Lib.hid (IB.out.below hb)
      replace L := Lib.hid (bst L.out hb L.out.size)
      clear hb
      have g4 := G4.out
      rw [G2.out] at IB ⊢
      clear G2 G4
      subst g4
      obtain ⟨bb, ob, rfl, hcb⟩ := IB.out.at' (by omega)
      obtain ⟨bl, ol, rfl, hcl⟩ := IM.out.l.at' (by omega)
      obtain ⟨bf, of', rfl, hcf⟩ := IM.out.f.at' (by omega)
      have q1 := hcb kN (by omega)
      have q2 := hcl kN (by omega)
      obtain ⟨u, q3, hu⟩ := hcf kN (by omega)
      obtain ⟨ua, uc, rfl⟩ := hu.shape
      rw [G5.out] at q1
      rw [G6.out] at q2
      have g7 := G7.out
      generalize (hN.f.getD kN []).length = ul at *
      have e8 : ((ul : Int) != mU) = false := by rw [g7]; simp
      have k0 : (0 : Int) ≤ (kN : Int) := by omega
      have k1 : (kN : Int) < ((nlN : Nat) : Int) := by omega
      have k2 : ¬ ((nlN : Nat) : Int) ≤ (kN : Int) := by omega
      clear hcb hcl hcf hu g7
      have c0VM := VM.out.c0
      have c1VM := VM.out.c1
      have c2VM := VM.out.c2
      go_wp2_with fail
      go_ret
      exact ⟨rfl, L.out⟩
end Go.Proofs.Ythanckifinfpiaa
namespace Go.Proofs.Ythanckifinfpiaa.xNamed
open Go.ChangeShapes Go.WideShapes Go.ChangeAt Go.RowKit

set_option maxRecDepth 100000 in
theorem contract (H : Type) (enc : TypeId × Value → H) (W : World) (base : Nat) (args : Array Value) (ds gs : List (DataW H)) (before : List MemPlace)
    (hval : ∀ (j : Nat) t v, Try.f4.params[j]? = some t → args[j]? = some v → Value.okWide Try.prog W .any base t v)
    (hW : DataW.Whole enc Try.prog Try.f4.params.toList Rows.fnNamedSpec.vars false W args.toList ds gs before) :
    Calls Try.prog 4 args W fun e W' => ∃ v, e = .returned v ∧ Rows.fnNamedSpec.post enc Try.prog Try.f4 false true false false W args v W' := by
  have hW' := hW
  obtain ⟨p, q, hA0, hV, rfl, hfz, hnd⟩ := hW
  have hA : DataW.TrodAll enc Try.prog W 0 (fun _ => true) true Try.f4.params.toList args.toList ds p := hA0
  have hpar : ∀ t ∈ Try.f4.params.toList, Try.prog.readableRec t = true ∧ t < Try.prog.types.size := by
    rw [Try.params4]; intro t ht; simp at ht; subst ht; exact r_bytes
  rw [Try.params4] at hA hval
  obtain ⟨v0, vs0, d0, ds0, p0, q0, hargs, rfl, rfl, h0, r0⟩ := trodAll_cons hA
  obtain ⟨v1, vs1, d1, ds1, p1, q1, rfl, rfl, rfl, h1, r1⟩ := trodAll_cons r0
  obtain ⟨rfl, rfl, rfl⟩ := trodAll_nil r1
  obtain rfl : args = #[v0, v1] := by cases args; simp_all
  obtain ⟨rfl, rfl⟩ := trodVars_none hV
  obtain ⟨z0, hz0⟩ := bytes_of_arg (hval 0 22 v0 rfl rfl) h0
  obtain ⟨z1, hz1⟩ := bytes_of_arg (hval 1 22 v1 rfl rfl) h1
  refine (walk_FnNamed v0 z0 v1 z1 W hz0 hz1).mono fun e W' ⟨he, hb⟩ => ?_
  subst he
  exact ⟨_, rfl, law_post laidOut hpar (fun n hn => by cases hn) hW' hb rfl (by kernel_rfl) Try.underlying4⟩

set_option maxRecDepth 100000 in
theorem lifted (os : Os) (started : os.Started) (H : Type) (enc : TypeId × Value → H) :
    ReturnsInHanded {} Try.checked os 4 .any (Rows.fnNamedSpec.pre6 enc Try.prog Try.f4 Rows.fnNamedRow.domain false) (Rows.fnNamedSpec.post enc Try.prog Try.f4 false true false false) := by
  refine returnsInHanded_of_change (C := Try.checked) own started (by kernel_rfl) Try.func4
    (ChangeSpec.witness6 (enc := enc) (C := Try.checked) false ⟨#[], #[.slice none 0 0, .slice none 0 0], []⟩ 8 (by kernel_rfl) (by kernel_rfl) (by kernel_rfl) (by kernel_rfl)) ?_
  intro W base args ds gs before hval hW _ _
  exact contract H enc W base args ds gs before hval hW
end Go.Proofs.Ythanckifinfpiaa.xNamed
namespace Go.Proofs.Ythanckifinfpiaa
theorem xNamed_said : Rows.FnNamedSaid :=
  OpenClaim.holds_of_wide 4 Try.f4 rfl rfl rfl rfl rfl rfl rfl ⟨rfl, rfl, rfl, rfl, rfl⟩ rfl rfl rfl rfl rfl (by kernel_rfl) Try.func4 (by kernel_rfl)
    (of_decide_eq_true (by kernel_rfl)) (by unfold Func.isWrapper; first | (rw [if_pos (by decide +kernel)]; kernel_rfl) | (rw [if_neg (by decide +kernel)]; exact ⟨rfl, rfl⟩))
    (fun os started H enc _ => xNamed.lifted os started H enc)
end Go.Proofs.Ythanckifinfpiaa
