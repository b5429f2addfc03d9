/- The reference's spans: words of slots, slots of words, a sweep. -/
import Derived.Test.YtcelebblcjhpaaaDoorSs2
import Derived.Test.YtcelebblcjhpaaaDoorBs6
namespace Go.Proofs.YtcelebblcjhpaaaDoor
open Go.RowKit Pb

set_option maxHeartbeats 3200000 in
set_option maxRecDepth 100000 in
theorem c_l4Word (f c l : Int) (v : Value) (s z : Int) (w : World) (hc : Pl.isCl c = true) (hf : 0 ≤ f ∧ f ≤ 31) (hz : Pl.szOf c = z) (hs : 0 ≤ s ∧ s ≤ 96) : Calls Tryd.prog 71 #[sp f c l v, .int .i64 s] w fun e w' => e = .returned (.int .i64 (f * 64 + s * z)) ∧ Below w.heap.size w w' := by
  obtain ⟨b3, b4⟩ := Pl.isCl_iff.1 hc
  have hzb := Pl.szOf_bd hc
  rw [hz] at hzb
  have HZ := Lib.hid hz; clear hz
  have hix : c.toNat < 41 := by omega
  obtain ⟨f0, f1⟩ := hf
  have hmul : 0 ≤ s * z ∧ s * z ≤ 96 * 256 := ⟨Int.mul_nonneg hs.1 (by omega), Int.mul_le_mul hs.2 hzb.2 (by omega) (by omega)⟩
  have i1 : IntKind.i64.wrap (s * z) = s * z := IntWalk.i64_in _ (by omega)
  have i2 : IntKind.i64.wrap (f * 64 + s * z) = f * 64 + s * z := IntWalk.i64_in _ (by omega)
  have i3 : IntKind.i64.wrap (f * 64) = f * 64 := IntWalk.i64_in _ (by omega)
  have HB : Hid (Below w.heap.size w (w.alloc (.cells (c4 f c l v) 27)).drew) := below_drew ((Below.refl w.heap.size w).alloc (Nat.le_refl _) _)
  clear hmul
  go_enter Tryd.func71, Tryd.ntmps71
  go_wp2_with fail
  refine wp_region_held_drew (S := (fun w' => w'.cell? ⟨w.heap.size, 0, none⟩ = some (.int .i64 f) ∧ w'.cell? ⟨w.heap.size, 1, none⟩ = some (.int .i64 c) ∧ Below w.heap.size w w')) (by kernel_rfl) (⟨by simp, by simp, HB.out⟩) (fun hHeld => ?_)
  refine wpAnyH_take (i := 0) (v := ?va0) rfl (by kernel_rfl) (by kernel_rfl) (by kernel_rfl) (fun _ _ _ h => h) (Or.inl ⟨by rfl, ?hy0⟩) (by assumption) ?rest0
  case hy0 => (intro w hSw; (try dsimp only at hSw); go_simp; try with_reducible rfl)
  (try simp only [Act.put, List.getElem_toArray, List.getElem_cons_zero, List.setIfInBounds_toArray, List.set_cons_zero, List.set_cons_succ])
  refine wpAnyH_take (i := 1) (v := ?va1) rfl (by kernel_rfl) (by kernel_rfl) (by kernel_rfl) (fun _ _ _ h => h) (Or.inl ⟨by rfl, ?hy1⟩) (by assumption) ?rest1
  case hy1 => (intro w hSw; (try dsimp only at hSw); go_simp; try with_reducible rfl)
  (try simp only [Act.put, List.getElem_toArray, List.getElem_cons_zero, List.getElem_cons_succ, List.setIfInBounds_toArray, List.set_cons_zero, List.set_cons_succ])
  refine wpAnyH_take (i := 2) (v := ?va2) rfl (by kernel_rfl) (by kernel_rfl) (by kernel_rfl) (fun _ _ _ h => h) (Or.inl ⟨by rfl, ?hy2⟩) (by assumption) ?rest2
  case hy2 => (intro w hSw; (try dsimp only at hSw); go_simp; try with_reducible rfl)
  (try simp only [Act.put, List.getElem_toArray, List.getElem_cons_zero, List.getElem_cons_succ, List.setIfInBounds_toArray, List.set_cons_zero, List.set_cons_succ])
  refine wpAnyH_take (i := 3) (v := ?va3) rfl (by kernel_rfl) (by kernel_rfl) (by kernel_rfl) (fun _ _ _ h => h) (Or.inl ⟨by rfl, ?hy3⟩) (by assumption) ?rest3
  case hy3 => (intro w hSw; (try dsimp only at hSw); go_simp; try with_reducible rfl)
  (try simp only [Act.put, List.getElem_toArray, List.getElem_cons_zero, List.getElem_cons_succ, List.setIfInBounds_toArray, List.set_cons_zero, List.set_cons_succ])
  refine wpAnyH_take (i := 5) (v := ?va5) rfl (by kernel_rfl) (by kernel_rfl) (by kernel_rfl) (fun _ _ _ h => h) (Or.inl ⟨by rfl, ?hy5⟩) (by assumption) ?rest5
  case hy5 => (intro w hSw; (try dsimp only at hSw); go_simp; try with_reducible rfl)
  (try simp only [Act.put, List.getElem_toArray, List.getElem_cons_zero, List.getElem_cons_succ, List.setIfInBounds_toArray, List.set_cons_zero, List.set_cons_succ])
  refine wpAnyH_take (i := 6) (v := ?va6) rfl (by kernel_rfl) (by kernel_rfl) (by kernel_rfl) (fun _ _ _ h => h) (Or.inl ⟨by rfl, ?hy6⟩) (by assumption) ?rest6
  case hy6 => (intro w hSw; (try dsimp only at hSw); go_simp; try with_reducible rfl)
  (try simp only [Act.put, List.getElem_toArray, List.getElem_cons_zero, List.getElem_cons_succ, List.setIfInBounds_toArray, List.set_cons_zero, List.set_cons_succ])
  refine wpAnyH_ready (rs := [4]) (by kernel_rfl) (by simp) ?_
  refine AllReadyH.cons rfl (fun K hK => ?_) AllReadyH.nil
  go_simp
  refine (c_specClassesOf _).mono ?_
  rintro e wc ⟨vv, rfl, hown, hbk⟩
  obtain ⟨gc, capc, rfl, hcc⟩ := row_shape hown
  have qz : wc.cell? ⟨gc, c.toNat, none⟩ = some (.int .i64 z) := by rw [hcc c.toNat hix, ← HZ.out]; rfl
  clear hown hcc
  obtain ⟨k0, k1, kb⟩ := hHeld
  refine hK.out _ _ (⟨cellBelow hbk k0, cellBelow hbk k1, bst kb hbk kb.size⟩) (fun hHeld => ?_)
  clear hK K
  (try simp only [Act.put, List.getElem_toArray, List.getElem_cons_zero, List.getElem_cons_succ, List.setIfInBounds_toArray, List.set_cons_zero, List.set_cons_succ])
  refine wpAnyH_take (i := 7) (v := ?va7) rfl (by kernel_rfl) (by kernel_rfl) (by kernel_rfl) (fun _ _ _ h => h) (Or.inl ⟨by rfl, ?hy7⟩) (by assumption) ?rest7
  case hy7 => (intro w hSw; (try dsimp only at hSw); go_simp; try with_reducible rfl)
  (try simp only [Act.put, List.getElem_toArray, List.getElem_cons_zero, List.getElem_cons_succ, List.setIfInBounds_toArray, List.set_cons_zero, List.set_cons_succ])
  refine wpAnyH_ready (rs := [8]) (by kernel_rfl) (by simp) ?_
  refine AllReadyH.cons rfl (fun K hK => ?_) AllReadyH.nil
  go_simp
  refine hK.out _ _ (hHeld) (fun hHeld => ?_)
  clear hK K
  (try simp only [Act.put, List.getElem_toArray, List.getElem_cons_zero, List.getElem_cons_succ, List.setIfInBounds_toArray, List.set_cons_zero, List.set_cons_succ])
  refine wpAnyH_take (i := 9) (v := ?va9) rfl (by kernel_rfl) (by kernel_rfl) (by kernel_rfl) (fun _ _ _ h => h) (Or.inl ⟨by rfl, ?hy9⟩) (by assumption) ?rest9
  case hy9 => (intro w hSw; (try dsimp only at hSw); go_simp; try with_reducible rfl)
  (try simp only [Act.put, List.getElem_toArray, List.getElem_cons_zero, List.getElem_cons_succ, List.setIfInBounds_toArray, List.set_cons_zero, List.set_cons_succ])
  refine wpAnyH_take (i := 10) (v := ?va10) rfl (by kernel_rfl) (by kernel_rfl) (by kernel_rfl) (fun _ _ _ h => h) (Or.inl ⟨by rfl, ?hy10⟩) (by assumption) ?rest10
  case hy10 => (intro w hSw; (try dsimp only at hSw); go_simp; try with_reducible rfl)
  (try simp only [Act.put, List.getElem_toArray, List.getElem_cons_zero, List.getElem_cons_succ, List.setIfInBounds_toArray, List.set_cons_zero, List.set_cons_succ])
  refine wpAnyH_take (i := 11) (v := ?va11) rfl (by kernel_rfl) (by kernel_rfl) (by kernel_rfl) (fun _ _ _ h => h) (Or.inl ⟨by rfl, ?hy11⟩) (by assumption) ?rest11
  case hy11 => (intro w hSw; (try dsimp only at hSw); go_simp; try with_reducible rfl)
  (try simp only [Act.put, List.getElem_toArray, List.getElem_cons_zero, List.getElem_cons_succ, List.setIfInBounds_toArray, List.set_cons_zero, List.set_cons_succ])
  refine wpAnyH_done (by kernel_rfl) ?_ _
  obtain ⟨_, _, kb⟩ := hHeld
  go_wp2
  go_ret
  exact ⟨rfl, kb⟩


set_option maxHeartbeats 1600000 in
theorem c_sWordOf_bad (f c l : Int) (v : Value) (zs : List Int) (s : Int) (w : World) (hv : IntsAt w v zs) (hS : ¬ Sok f c l zs) : Calls Tryd.prog 27 #[sp f c l v, .int .i64 s] w fun e w' => e = .returned (.tuple #[.int .i64 0, .bool false]) ∧ Below w.heap.size w w' := by
  have HS := Lib.hid hS; clear hS
  skip
  have HB := Lib.hid ((Below.refl w.heap.size w).alloc (Nat.le_refl _) (.cells (c4 f c l v) 27))
  have r0 : RowS (w.alloc (.cells (c4 f c l v) 27)) w.heap.size f c l v := Row.new w _ _
  have hv1 := Lib.hid (hv.below HB.out)
  clear hv
  go_enter Tryd.func27, Tryd.ntmps27
  go_wp2_with fail
  refine (c_l4Slot_bad f c l v zs s _ hv1.out HS.out).mono ?_
  rintro e w1 ⟨rfl, hb1⟩
  have B1 := Lib.hid (bst HB.out hb1 HB.out.size)
  clear hb1 r0 hv1
  go_wp2
  go_ret2
  exact ⟨rfl, B1.out⟩

set_option maxHeartbeats 1600000 in
theorem c_sWordOf_out (f c l : Int) (v : Value) (zs : List Int) (s : Int) (w : World) (hv : IntsAt w v zs) (hS : Sok f c l zs) (hs : ¬ (0 ≤ s ∧ s < l)) : Calls Tryd.prog 27 #[sp f c l v, .int .i64 s] w fun e w' => e = .returned (.tuple #[.int .i64 0, .bool false]) ∧ Below w.heap.size w w' := by
  have HS := Lib.hid hS; clear hS
  have HH := Lib.hid hs; clear hs
  have HB := Lib.hid ((Below.refl w.heap.size w).alloc (Nat.le_refl _) (.cells (c4 f c l v) 27))
  have r0 : RowS (w.alloc (.cells (c4 f c l v) 27)) w.heap.size f c l v := Row.new w _ _
  have hv1 := Lib.hid (hv.below HB.out)
  clear hv
  go_enter Tryd.func27, Tryd.ntmps27
  go_wp2_with fail
  refine (c_l4Slot_out f c l v zs s _ hv1.out HS.out HH.out).mono ?_
  rintro e w1 ⟨rfl, hb1⟩
  have B1 := Lib.hid (bst HB.out hb1 HB.out.size)
  clear hb1 r0 hv1
  go_wp2
  go_ret2
  exact ⟨rfl, B1.out⟩

set_option maxHeartbeats 1600000 in
theorem c_sWordOf_in (f c l : Int) (v : Value) (zs : List Int) (s : Int) (w : World) (hv : IntsAt w v zs) (hS : Sok f c l zs) (hs0 : 0 ≤ s) (hs1 : s < l) : Calls Tryd.prog 27 #[sp f c l v, .int .i64 s] w fun e w' => e = .returned (.tuple #[.int .i64 (f * 64 + s * Pl.szOf c), .bool true]) ∧ Below w.heap.size w w' := by
  have hfb := hS.from
  have hll := hS.long
  have HC := Lib.hid hS.1
  have HS := Lib.hid hS; clear hS
  generalize hz : Pl.szOf c = z
  have HZ := Lib.hid hz; clear hz
  have HB := Lib.hid ((Below.refl w.heap.size w).alloc (Nat.le_refl _) (.cells (c4 f c l v) 27))
  have r0 : RowS (w.alloc (.cells (c4 f c l v) 27)) w.heap.size f c l v := Row.new w _ _
  have hv1 := Lib.hid (hv.below HB.out)
  clear hv
  go_enter Tryd.func27, Tryd.ntmps27
  go_wp2_with fail
  refine (c_l4Slot_in f c l v zs s _ hv1.out HS.out ⟨hs0, hs1⟩).mono ?_
  rintro e w1 ⟨rfl, hb1⟩
  have B1 := Lib.hid (bst HB.out hb1 HB.out.size)
  have r1 := Row.below r0 hb1
  clear hb1 r0 hv1
  go_wp2_with (refine wl_loadS rfl _ rfl w.heap.size f c l v r1 rfl ?_)
  refine (c_l4Word f c l v s z _ HC.out hfb HZ.out ⟨hs0, by omega⟩).mono ?_
  rintro e w2 ⟨rfl, hb2⟩
  have B2 := Lib.hid (bst B1.out hb2 B1.out.size)
  clear hb2 r1
  go_wp2
  go_ret2
  exact ⟨rfl, B2.out⟩


set_option maxHeartbeats 3200000 in
set_option maxRecDepth 100000 in
theorem c_sThingAt_bad (f c l : Int) (v : Value) (zs : List Int) (x : Int) (w : World) (hv : IntsAt w v zs) (hS : ¬ Sok f c l zs) : Calls Tryd.prog 24 #[sp f c l v, .int .i64 x] w fun e w' => e = .returned (.tuple #[.int .i64 0, .bool false]) ∧ Below w.heap.size w w' := by
  have HB := Lib.hid ((Below.refl w.heap.size w).alloc (Nat.le_refl _) (.cells (c4 f c l v) 27))
  have r0 : RowS (w.alloc (.cells (c4 f c l v) 27)) w.heap.size f c l v := Row.new w _ _
  have hv1 := Lib.hid (hv.below HB.out)
  clear hv
  go_enter Tryd.func24, Tryd.ntmps24
  go_wp2_with fail
  refine (c_sGoodSpan_no f c l v zs _ hv1.out hS).mono ?_
  rintro e w1 ⟨rfl, hb1⟩
  have B1 := Lib.hid (bst HB.out hb1 HB.out.size)
  clear hb1 r0 hv1
  go_wp2
  go_ret2
  exact ⟨rfl, B1.out⟩

set_option maxHeartbeats 3200000 in
set_option maxRecDepth 100000 in
theorem c_sThingAt_before (f c l : Int) (v : Value) (zs : List Int) (x : Int) (w : World) (hv : IntsAt w v zs) (hS : Sok f c l zs) (hx : x < f * 64) : Calls Tryd.prog 24 #[sp f c l v, .int .i64 x] w fun e w' => e = .returned (.tuple #[.int .i64 0, .bool false]) ∧ Below w.heap.size w w' := by
  have hfb := hS.from
  have hll := hS.long
  have HS := Lib.hid hS
  have i3 : IntKind.i64.wrap (f * 64) = f * 64 := IntWalk.i64_in _ (by omega)
  clear hS
  have HB := Lib.hid ((Below.refl w.heap.size w).alloc (Nat.le_refl _) (.cells (c4 f c l v) 27))
  have r0 : RowS (w.alloc (.cells (c4 f c l v) 27)) w.heap.size f c l v := Row.new w _ _
  have hv1 := Lib.hid (hv.below HB.out)
  clear hv
  go_enter Tryd.func24, Tryd.ntmps24
  go_wp2_with fail
  refine (c_sGoodSpan_yes f c l v zs _ hv1.out HS.out).mono ?_
  rintro e w1 ⟨rfl, hb1⟩
  have B1 := Lib.hid (bst HB.out hb1 HB.out.size)
  have r1 := Row.below r0 hb1
  have v1 := Lib.hid (hv1.out.below hb1)
  have q0 := RowS.c0 r1
  clear hb1 r0 hv1
  go_wp2
  go_ret2
  exact ⟨rfl, B1.out⟩

set_option maxHeartbeats 3200000 in
set_option maxRecDepth 100000 in
theorem c_sThingAt_far (f c l : Int) (v : Value) (zs : List Int) (x : Int) (w : World) (hv : IntsAt w v zs) (hS : Sok f c l zs) (hx : ¬ x < f * 64) (hy : 2048 < x) : Calls Tryd.prog 24 #[sp f c l v, .int .i64 x] w fun e w' => e = .returned (.tuple #[.int .i64 0, .bool false]) ∧ Below w.heap.size w w' := by
  have hfb := hS.from
  have hll := hS.long
  have HS := Lib.hid hS
  have i3 : IntKind.i64.wrap (f * 64) = f * 64 := IntWalk.i64_in _ (by omega)
  clear hS
  have HB := Lib.hid ((Below.refl w.heap.size w).alloc (Nat.le_refl _) (.cells (c4 f c l v) 27))
  have r0 : RowS (w.alloc (.cells (c4 f c l v) 27)) w.heap.size f c l v := Row.new w _ _
  have hv1 := Lib.hid (hv.below HB.out)
  clear hv
  go_enter Tryd.func24, Tryd.ntmps24
  go_wp2_with fail
  refine (c_sGoodSpan_yes f c l v zs _ hv1.out HS.out).mono ?_
  rintro e w1 ⟨rfl, hb1⟩
  have B1 := Lib.hid (bst HB.out hb1 HB.out.size)
  have r1 := Row.below r0 hb1
  have v1 := Lib.hid (hv1.out.below hb1)
  have q0 := RowS.c0 r1
  clear hb1 r0 hv1
  go_wp2
  go_ret2
  exact ⟨rfl, B1.out⟩

set_option maxHeartbeats 3200000 in
set_option maxRecDepth 100000 in
theorem c_sThingAt_behind (f c l : Int) (v : Value) (zs : List Int) (x : Int) (w : World) (hv : IntsAt w v zs) (hS : Sok f c l zs) (hx : ¬ x < f * 64) (hy : x ≤ 2048) (q : Int) (hq : q = (x - f * 64) / Pl.szOf c) (hs : ¬ q < l) : Calls Tryd.prog 24 #[sp f c l v, .int .i64 x] w fun e w' => e = .returned (.tuple #[.int .i64 0, .bool false]) ∧ Below w.heap.size w w' := by
  have hfb := hS.from
  have hll := hS.long
  have HS := Lib.hid hS
  have i3 : IntKind.i64.wrap (f * 64) = f * 64 := IntWalk.i64_in _ (by omega)
  have hzb := Pl.szOf_bd hS.1
  have hcb := Pl.isCl_iff.1 hS.1
  have hix : c.toNat < 41 := by omega
  generalize hz : Pl.szOf c = z at *
  have HZ := Lib.hid hz
  have hz0 : ¬ z = 0 := by omega
  have hqb := slot_bd (a := x - f * 64) hzb.1 (by omega)
  have i1 : IntKind.i64.wrap (x - f * 64) = x - f * 64 := IntWalk.i64_in _ (by omega)
  have i2 : IntKind.i64.wrap (Int.tdiv (x - f * 64) z) = q := by rw [Int.tdiv_eq_ediv_of_nonneg (by omega), hq]; exact IntWalk.i64_in _ (by omega)
  have i4 : Int.tdiv (x - f * 64) z = q := by rw [Int.tdiv_eq_ediv_of_nonneg (by omega), hq]
  have i5 : (x - f * 64) / z = q := hq.symm
  have i6 : IntKind.i64.wrap q = q := by rw [hq]; exact IntWalk.i64_in _ (by omega)
  have hq0 : 0 ≤ q := by rw [hq]; exact hqb.1
  clear hS hq hqb hz
  obtain ⟨b3, b4⟩ := hcb
  have HB := Lib.hid ((Below.refl w.heap.size w).alloc (Nat.le_refl _) (.cells (c4 f c l v) 27))
  have r0 : RowS (w.alloc (.cells (c4 f c l v) 27)) w.heap.size f c l v := Row.new w _ _
  have hv1 := Lib.hid (hv.below HB.out)
  clear hv
  go_enter Tryd.func24, Tryd.ntmps24
  go_wp2_with fail
  refine (c_sGoodSpan_yes f c l v zs _ hv1.out HS.out).mono ?_
  rintro e w1 ⟨rfl, hb1⟩
  have B1 := Lib.hid (bst HB.out hb1 HB.out.size)
  have r1 := Row.below r0 hb1
  have v1 := Lib.hid (hv1.out.below hb1)
  have q0 := RowS.c0 r1
  clear hb1 r0 hv1
  go_wp2_with fail
  replace q0 : w1.drew.cell? ⟨w.heap.size, 0, none⟩ = some (.int .i64 f) := q0
  have q1 : w1.drew.cell? ⟨w.heap.size, 1, none⟩ = some (.int .i64 c) := RowS.c1 r1
  have R1 : Hid (RowS w1.drew w.heap.size f c l v) := r1
  have V1 : Hid (IntsAt w1.drew v zs) := v1.out
  clear r1 v1
  refine wp_region_held_drew (S := (fun w' => w'.cell? ⟨w.heap.size, 0, none⟩ = some (.int .i64 f) ∧ w'.cell? ⟨w.heap.size, 1, none⟩ = some (.int .i64 c) ∧ Below w.heap.size w w')) (by kernel_rfl) (⟨q0, q1, below_drew B1.out⟩) (fun hHeld => ?_)
  refine wpAnyH_take (i := 0) (v := ?va0) rfl (by kernel_rfl) (by kernel_rfl) (by kernel_rfl) (fun _ _ _ h => h) (Or.inl ⟨by rfl, ?hy0⟩) (by assumption) ?rest0
  case hy0 => (intro w hSw; (try dsimp only at hSw); go_simp; try with_reducible rfl)
  (try simp only [Act.put, List.getElem_toArray, List.getElem_cons_zero, List.setIfInBounds_toArray, List.set_cons_zero, List.set_cons_succ])
  refine wpAnyH_take (i := 1) (v := ?va1) rfl (by kernel_rfl) (by kernel_rfl) (by kernel_rfl) (fun _ _ _ h => h) (Or.inl ⟨by rfl, ?hy1⟩) (by assumption) ?rest1
  case hy1 => (intro w hSw; (try dsimp only at hSw); go_simp; try with_reducible rfl)
  (try simp only [Act.put, List.getElem_toArray, List.getElem_cons_zero, List.getElem_cons_succ, List.setIfInBounds_toArray, List.set_cons_zero, List.set_cons_succ])
  refine wpAnyH_take (i := 2) (v := ?va2) rfl (by kernel_rfl) (by kernel_rfl) (by kernel_rfl) (fun _ _ _ h => h) (Or.inl ⟨by rfl, ?hy2⟩) (by assumption) ?rest2
  case hy2 => (intro w hSw; (try dsimp only at hSw); go_simp; try with_reducible rfl)
  (try simp only [Act.put, List.getElem_toArray, List.getElem_cons_zero, List.getElem_cons_succ, List.setIfInBounds_toArray, List.set_cons_zero, List.set_cons_succ])
  refine wpAnyH_take (i := 3) (v := ?va3) rfl (by kernel_rfl) (by kernel_rfl) (by kernel_rfl) (fun _ _ _ h => h) (Or.inl ⟨by rfl, ?hy3⟩) (by assumption) ?rest3
  case hy3 => (intro w hSw; (try dsimp only at hSw); go_simp; try with_reducible rfl)
  (try simp only [Act.put, List.getElem_toArray, List.getElem_cons_zero, List.getElem_cons_succ, List.setIfInBounds_toArray, List.set_cons_zero, List.set_cons_succ])
  refine wpAnyH_take (i := 4) (v := ?va4) rfl (by kernel_rfl) (by kernel_rfl) (by kernel_rfl) (fun _ _ _ h => h) (Or.inl ⟨by rfl, ?hy4⟩) (by assumption) ?rest4
  case hy4 => (intro w hSw; (try dsimp only at hSw); go_simp; try with_reducible rfl)
  (try simp only [Act.put, List.getElem_toArray, List.getElem_cons_zero, List.getElem_cons_succ, List.setIfInBounds_toArray, List.set_cons_zero, List.set_cons_succ])
  refine wpAnyH_take (i := 6) (v := ?va6) rfl (by kernel_rfl) (by kernel_rfl) (by kernel_rfl) (fun _ _ _ h => h) (Or.inl ⟨by rfl, ?hy6⟩) (by assumption) ?rest6
  case hy6 => (intro w hSw; (try dsimp only at hSw); go_simp; try with_reducible rfl)
  (try simp only [Act.put, List.getElem_toArray, List.getElem_cons_zero, List.getElem_cons_succ, List.setIfInBounds_toArray, List.set_cons_zero, List.set_cons_succ])
  refine wpAnyH_take (i := 7) (v := ?va7) rfl (by kernel_rfl) (by kernel_rfl) (by kernel_rfl) (fun _ _ _ h => h) (Or.inl ⟨by rfl, ?hy7⟩) (by assumption) ?rest7
  case hy7 => (intro w hSw; (try dsimp only at hSw); go_simp; try with_reducible rfl)
  (try simp only [Act.put, List.getElem_toArray, List.getElem_cons_zero, List.getElem_cons_succ, List.setIfInBounds_toArray, List.set_cons_zero, List.set_cons_succ])
  refine wpAnyH_ready (rs := [5]) (by kernel_rfl) (by simp) ?_
  refine AllReadyH.cons rfl (fun K hK => ?_) AllReadyH.nil
  go_simp
  refine (c_specClassesOf _).mono ?_
  rintro e wc ⟨vv, rfl, hown, hbk⟩
  obtain ⟨gc, capc, rfl, hcc⟩ := row_shape hown
  have qz : wc.cell? ⟨gc, c.toNat, none⟩ = some (.int .i64 z) := by rw [hcc c.toNat hix, ← HZ.out]; rfl
  clear hown hcc
  obtain ⟨k0, k1, kb⟩ := hHeld
  have R2 := Row.below R1.out hbk
  have V2 := Lib.hid (V1.out.below hbk)
  refine hK.out _ _ (⟨cellBelow hbk k0, cellBelow hbk k1, bst kb hbk kb.size⟩) (fun hHeld => ?_)
  clear hK K
  (try simp only [Act.put, List.getElem_toArray, List.getElem_cons_zero, List.getElem_cons_succ, List.setIfInBounds_toArray, List.set_cons_zero, List.set_cons_succ])
  refine wpAnyH_take (i := 8) (v := ?va8) rfl (by kernel_rfl) (by kernel_rfl) (by kernel_rfl) (fun _ _ _ h => h) (Or.inl ⟨by rfl, ?hy8⟩) (by assumption) ?rest8
  case hy8 => (intro w hSw; (try dsimp only at hSw); go_simp; try with_reducible rfl)
  (try simp only [Act.put, List.getElem_toArray, List.getElem_cons_zero, List.getElem_cons_succ, List.setIfInBounds_toArray, List.set_cons_zero, List.set_cons_succ])
  refine wpAnyH_ready (rs := [9]) (by kernel_rfl) (by simp) ?_
  refine AllReadyH.cons rfl (fun K hK => ?_) AllReadyH.nil
  go_simp
  refine hK.out _ _ (hHeld) (fun hHeld => ?_)
  clear hK K
  (try simp only [Act.put, List.getElem_toArray, List.getElem_cons_zero, List.getElem_cons_succ, List.setIfInBounds_toArray, List.set_cons_zero, List.set_cons_succ])
  refine wpAnyH_take (i := 10) (v := ?va10) rfl (by kernel_rfl) (by kernel_rfl) (by kernel_rfl) (fun _ _ _ h => h) (Or.inl ⟨by rfl, ?hy10⟩) (by assumption) ?rest10
  case hy10 => (intro w hSw; (try dsimp only at hSw); go_simp; try with_reducible rfl)
  (try simp only [Act.put, List.getElem_toArray, List.getElem_cons_zero, List.getElem_cons_succ, List.setIfInBounds_toArray, List.set_cons_zero, List.set_cons_succ])
  refine wpAnyH_take (i := 11) (v := ?va11) rfl (by kernel_rfl) (by kernel_rfl) (by kernel_rfl) (fun _ _ _ h => h) (Or.inl ⟨by rfl, ?hy11⟩) (by assumption) ?rest11
  case hy11 => (intro w hSw; (try dsimp only at hSw); go_simp; try with_reducible rfl)
  (try simp only [Act.put, List.getElem_toArray, List.getElem_cons_zero, List.getElem_cons_succ, List.setIfInBounds_toArray, List.set_cons_zero, List.set_cons_succ])
  refine wpAnyH_done (by kernel_rfl) ?_ _
  obtain ⟨_, _, kb⟩ := hHeld
  have B2 := Lib.hid kb
  have k2 := RowS.c2 R2
  have k3 := RowS.c3 R2
  clear kb R1 V1 q0 q1 B1
  clear k3
  go_wp2
  go_ret2
  exact ⟨rfl, B2.out⟩

set_option maxHeartbeats 3200000 in
set_option maxRecDepth 100000 in
theorem c_sThingAt_unused (f c l : Int) (v : Value) (zs : List Int) (x : Int) (w : World) (hv : IntsAt w v zs) (hS : Sok f c l zs) (hx : ¬ x < f * 64) (hy : x ≤ 2048) (q : Int) (hq : q = (x - f * 64) / Pl.szOf c) (hs : q < l) (hu : bitL zs q.toNat = false) : Calls Tryd.prog 24 #[sp f c l v, .int .i64 x] w fun e w' => e = .returned (.tuple #[.int .i64 0, .bool false]) ∧ Below w.heap.size w w' := by
  have HU := Lib.hid hu
  have HN4 : Hid (zs.length ≤ 1048576) := by unfold Hid; have := hS.len; omega
  have HLN := Lib.hid hS.2.2.2.2.2.1
  have HW := Lib.hid (hS.2.2.2.w (q.toNat / 16))
  clear hu
  have hfb := hS.from
  have hll := hS.long
  have HS := Lib.hid hS
  have i3 : IntKind.i64.wrap (f * 64) = f * 64 := IntWalk.i64_in _ (by omega)
  have hzb := Pl.szOf_bd hS.1
  have hcb := Pl.isCl_iff.1 hS.1
  have hix : c.toNat < 41 := by omega
  generalize hz : Pl.szOf c = z at *
  have HZ := Lib.hid hz
  have hz0 : ¬ z = 0 := by omega
  have hqb := slot_bd (a := x - f * 64) hzb.1 (by omega)
  have i1 : IntKind.i64.wrap (x - f * 64) = x - f * 64 := IntWalk.i64_in _ (by omega)
  have i2 : IntKind.i64.wrap (Int.tdiv (x - f * 64) z) = q := by rw [Int.tdiv_eq_ediv_of_nonneg (by omega), hq]; exact IntWalk.i64_in _ (by omega)
  have i4 : Int.tdiv (x - f * 64) z = q := by rw [Int.tdiv_eq_ediv_of_nonneg (by omega), hq]
  have i5 : (x - f * 64) / z = q := hq.symm
  have i6 : IntKind.i64.wrap q = q := by rw [hq]; exact IntWalk.i64_in _ (by omega)
  have hq0 : 0 ≤ q := by rw [hq]; exact hqb.1
  clear hS hq hqb hz
  obtain ⟨b3, b4⟩ := hcb
  have HB := Lib.hid ((Below.refl w.heap.size w).alloc (Nat.le_refl _) (.cells (c4 f c l v) 27))
  have r0 : RowS (w.alloc (.cells (c4 f c l v) 27)) w.heap.size f c l v := Row.new w _ _
  have hv1 := Lib.hid (hv.below HB.out)
  clear hv
  go_enter Tryd.func24, Tryd.ntmps24
  go_wp2_with fail
  refine (c_sGoodSpan_yes f c l v zs _ hv1.out HS.out).mono ?_
  rintro e w1 ⟨rfl, hb1⟩
  have B1 := Lib.hid (bst HB.out hb1 HB.out.size)
  have r1 := Row.below r0 hb1
  have v1 := Lib.hid (hv1.out.below hb1)
  have q0 := RowS.c0 r1
  clear hb1 r0 hv1
  go_wp2_with fail
  replace q0 : w1.drew.cell? ⟨w.heap.size, 0, none⟩ = some (.int .i64 f) := q0
  have q1 : w1.drew.cell? ⟨w.heap.size, 1, none⟩ = some (.int .i64 c) := RowS.c1 r1
  have R1 : Hid (RowS w1.drew w.heap.size f c l v) := r1
  have V1 : Hid (IntsAt w1.drew v zs) := v1.out
  clear r1 v1
  refine wp_region_held_drew (S := (fun w' => w'.cell? ⟨w.heap.size, 0, none⟩ = some (.int .i64 f) ∧ w'.cell? ⟨w.heap.size, 1, none⟩ = some (.int .i64 c) ∧ Below w.heap.size w w')) (by kernel_rfl) (⟨q0, q1, below_drew B1.out⟩) (fun hHeld => ?_)
  refine wpAnyH_take (i := 0) (v := ?va0) rfl (by kernel_rfl) (by kernel_rfl) (by kernel_rfl) (fun _ _ _ h => h) (Or.inl ⟨by rfl, ?hy0⟩) (by assumption) ?rest0
  case hy0 => (intro w hSw; (try dsimp only at hSw); go_simp; try with_reducible rfl)
  (try simp only [Act.put, List.getElem_toArray, List.getElem_cons_zero, List.setIfInBounds_toArray, List.set_cons_zero, List.set_cons_succ])
  refine wpAnyH_take (i := 1) (v := ?va1) rfl (by kernel_rfl) (by kernel_rfl) (by kernel_rfl) (fun _ _ _ h => h) (Or.inl ⟨by rfl, ?hy1⟩) (by assumption) ?rest1
  case hy1 => (intro w hSw; (try dsimp only at hSw); go_simp; try with_reducible rfl)
  (try simp only [Act.put, List.getElem_toArray, List.getElem_cons_zero, List.getElem_cons_succ, List.setIfInBounds_toArray, List.set_cons_zero, List.set_cons_succ])
  refine wpAnyH_take (i := 2) (v := ?va2) rfl (by kernel_rfl) (by kernel_rfl) (by kernel_rfl) (fun _ _ _ h => h) (Or.inl ⟨by rfl, ?hy2⟩) (by assumption) ?rest2
  case hy2 => (intro w hSw; (try dsimp only at hSw); go_simp; try with_reducible rfl)
  (try simp only [Act.put, List.getElem_toArray, List.getElem_cons_zero, List.getElem_cons_succ, List.setIfInBounds_toArray, List.set_cons_zero, List.set_cons_succ])
  refine wpAnyH_take (i := 3) (v := ?va3) rfl (by kernel_rfl) (by kernel_rfl) (by kernel_rfl) (fun _ _ _ h => h) (Or.inl ⟨by rfl, ?hy3⟩) (by assumption) ?rest3
  case hy3 => (intro w hSw; (try dsimp only at hSw); go_simp; try with_reducible rfl)
  (try simp only [Act.put, List.getElem_toArray, List.getElem_cons_zero, List.getElem_cons_succ, List.setIfInBounds_toArray, List.set_cons_zero, List.set_cons_succ])
  refine wpAnyH_take (i := 4) (v := ?va4) rfl (by kernel_rfl) (by kernel_rfl) (by kernel_rfl) (fun _ _ _ h => h) (Or.inl ⟨by rfl, ?hy4⟩) (by assumption) ?rest4
  case hy4 => (intro w hSw; (try dsimp only at hSw); go_simp; try with_reducible rfl)
  (try simp only [Act.put, List.getElem_toArray, List.getElem_cons_zero, List.getElem_cons_succ, List.setIfInBounds_toArray, List.set_cons_zero, List.set_cons_succ])
  refine wpAnyH_take (i := 6) (v := ?va6) rfl (by kernel_rfl) (by kernel_rfl) (by kernel_rfl) (fun _ _ _ h => h) (Or.inl ⟨by rfl, ?hy6⟩) (by assumption) ?rest6
  case hy6 => (intro w hSw; (try dsimp only at hSw); go_simp; try with_reducible rfl)
  (try simp only [Act.put, List.getElem_toArray, List.getElem_cons_zero, List.getElem_cons_succ, List.setIfInBounds_toArray, List.set_cons_zero, List.set_cons_succ])
  refine wpAnyH_take (i := 7) (v := ?va7) rfl (by kernel_rfl) (by kernel_rfl) (by kernel_rfl) (fun _ _ _ h => h) (Or.inl ⟨by rfl, ?hy7⟩) (by assumption) ?rest7
  case hy7 => (intro w hSw; (try dsimp only at hSw); go_simp; try with_reducible rfl)
  (try simp only [Act.put, List.getElem_toArray, List.getElem_cons_zero, List.getElem_cons_succ, List.setIfInBounds_toArray, List.set_cons_zero, List.set_cons_succ])
  refine wpAnyH_ready (rs := [5]) (by kernel_rfl) (by simp) ?_
  refine AllReadyH.cons rfl (fun K hK => ?_) AllReadyH.nil
  go_simp
  refine (c_specClassesOf _).mono ?_
  rintro e wc ⟨vv, rfl, hown, hbk⟩
  obtain ⟨gc, capc, rfl, hcc⟩ := row_shape hown
  have qz : wc.cell? ⟨gc, c.toNat, none⟩ = some (.int .i64 z) := by rw [hcc c.toNat hix, ← HZ.out]; rfl
  clear hown hcc
  obtain ⟨k0, k1, kb⟩ := hHeld
  have R2 := Row.below R1.out hbk
  have V2 := Lib.hid (V1.out.below hbk)
  refine hK.out _ _ (⟨cellBelow hbk k0, cellBelow hbk k1, bst kb hbk kb.size⟩) (fun hHeld => ?_)
  clear hK K
  (try simp only [Act.put, List.getElem_toArray, List.getElem_cons_zero, List.getElem_cons_succ, List.setIfInBounds_toArray, List.set_cons_zero, List.set_cons_succ])
  refine wpAnyH_take (i := 8) (v := ?va8) rfl (by kernel_rfl) (by kernel_rfl) (by kernel_rfl) (fun _ _ _ h => h) (Or.inl ⟨by rfl, ?hy8⟩) (by assumption) ?rest8
  case hy8 => (intro w hSw; (try dsimp only at hSw); go_simp; try with_reducible rfl)
  (try simp only [Act.put, List.getElem_toArray, List.getElem_cons_zero, List.getElem_cons_succ, List.setIfInBounds_toArray, List.set_cons_zero, List.set_cons_succ])
  refine wpAnyH_ready (rs := [9]) (by kernel_rfl) (by simp) ?_
  refine AllReadyH.cons rfl (fun K hK => ?_) AllReadyH.nil
  go_simp
  refine hK.out _ _ (hHeld) (fun hHeld => ?_)
  clear hK K
  (try simp only [Act.put, List.getElem_toArray, List.getElem_cons_zero, List.getElem_cons_succ, List.setIfInBounds_toArray, List.set_cons_zero, List.set_cons_succ])
  refine wpAnyH_take (i := 10) (v := ?va10) rfl (by kernel_rfl) (by kernel_rfl) (by kernel_rfl) (fun _ _ _ h => h) (Or.inl ⟨by rfl, ?hy10⟩) (by assumption) ?rest10
  case hy10 => (intro w hSw; (try dsimp only at hSw); go_simp; try with_reducible rfl)
  (try simp only [Act.put, List.getElem_toArray, List.getElem_cons_zero, List.getElem_cons_succ, List.setIfInBounds_toArray, List.set_cons_zero, List.set_cons_succ])
  refine wpAnyH_take (i := 11) (v := ?va11) rfl (by kernel_rfl) (by kernel_rfl) (by kernel_rfl) (fun _ _ _ h => h) (Or.inl ⟨by rfl, ?hy11⟩) (by assumption) ?rest11
  case hy11 => (intro w hSw; (try dsimp only at hSw); go_simp; try with_reducible rfl)
  (try simp only [Act.put, List.getElem_toArray, List.getElem_cons_zero, List.getElem_cons_succ, List.setIfInBounds_toArray, List.set_cons_zero, List.set_cons_succ])
  refine wpAnyH_done (by kernel_rfl) ?_ _
  obtain ⟨_, _, kb⟩ := hHeld
  have B2 := Lib.hid kb
  have k2 := RowS.c2 R2
  have k3 := RowS.c3 R2
  clear kb R1 V1 q0 q1 B1
  go_wp2_with fail
  obtain ⟨qn, hqn⟩ : ∃ qn : Nat, q = qn := ⟨q.toNat, by omega⟩
  have HQN := Lib.hid hqn
  rw [hqn] at HU HW ⊢
  rw [Int.toNat_natCast] at HU HW
  refine (c_l2Is l v zs qn _ V2.out HN4.out (by have := HLN.out; omega) HW.out).mono ?_
  rintro e w3 ⟨rfl, hb3⟩
  rw [HU.out, ← HQN.out]
  have B3 := Lib.hid (bst B2.out hb3 B2.out.size)
  clear hb3 k2 k3 hqn
  go_wp2
  go_ret2
  exact ⟨rfl, B3.out⟩

set_option maxHeartbeats 3200000 in
set_option maxRecDepth 100000 in
theorem c_sThingAt_in (f c l : Int) (v : Value) (zs : List Int) (x : Int) (w : World) (hv : IntsAt w v zs) (hS : Sok f c l zs) (hx : ¬ x < f * 64) (hy : x ≤ 2048) (q : Int) (hq : q = (x - f * 64) / Pl.szOf c) (hs : q < l) (hu : bitL zs q.toNat = true) : Calls Tryd.prog 24 #[sp f c l v, .int .i64 x] w fun e w' => e = .returned (.tuple #[.int .i64 q, .bool true]) ∧ Below w.heap.size w w' := by
  have HU := Lib.hid hu
  have HN4 : Hid (zs.length ≤ 1048576) := by unfold Hid; have := hS.len; omega
  have HLN := Lib.hid hS.2.2.2.2.2.1
  have HW := Lib.hid (hS.2.2.2.w (q.toNat / 16))
  clear hu
  have hfb := hS.from
  have hll := hS.long
  have HS := Lib.hid hS
  have i3 : IntKind.i64.wrap (f * 64) = f * 64 := IntWalk.i64_in _ (by omega)
  have hzb := Pl.szOf_bd hS.1
  have hcb := Pl.isCl_iff.1 hS.1
  have hix : c.toNat < 41 := by omega
  generalize hz : Pl.szOf c = z at *
  have HZ := Lib.hid hz
  have hz0 : ¬ z = 0 := by omega
  have hqb := slot_bd (a := x - f * 64) hzb.1 (by omega)
  have i1 : IntKind.i64.wrap (x - f * 64) = x - f * 64 := IntWalk.i64_in _ (by omega)
  have i2 : IntKind.i64.wrap (Int.tdiv (x - f * 64) z) = q := by rw [Int.tdiv_eq_ediv_of_nonneg (by omega), hq]; exact IntWalk.i64_in _ (by omega)
  have i4 : Int.tdiv (x - f * 64) z = q := by rw [Int.tdiv_eq_ediv_of_nonneg (by omega), hq]
  have i5 : (x - f * 64) / z = q := hq.symm
  have i6 : IntKind.i64.wrap q = q := by rw [hq]; exact IntWalk.i64_in _ (by omega)
  have hq0 : 0 ≤ q := by rw [hq]; exact hqb.1
  clear hS hq hqb hz
  obtain ⟨b3, b4⟩ := hcb
  have HB := Lib.hid ((Below.refl w.heap.size w).alloc (Nat.le_refl _) (.cells (c4 f c l v) 27))
  have r0 : RowS (w.alloc (.cells (c4 f c l v) 27)) w.heap.size f c l v := Row.new w _ _
  have hv1 := Lib.hid (hv.below HB.out)
  clear hv
  go_enter Tryd.func24, Tryd.ntmps24
  go_wp2_with fail
  refine (c_sGoodSpan_yes f c l v zs _ hv1.out HS.out).mono ?_
  rintro e w1 ⟨rfl, hb1⟩
  have B1 := Lib.hid (bst HB.out hb1 HB.out.size)
  have r1 := Row.below r0 hb1
  have v1 := Lib.hid (hv1.out.below hb1)
  have q0 := RowS.c0 r1
  clear hb1 r0 hv1
  go_wp2_with fail
  replace q0 : w1.drew.cell? ⟨w.heap.size, 0, none⟩ = some (.int .i64 f) := q0
  have q1 : w1.drew.cell? ⟨w.heap.size, 1, none⟩ = some (.int .i64 c) := RowS.c1 r1
  have R1 : Hid (RowS w1.drew w.heap.size f c l v) := r1
  have V1 : Hid (IntsAt w1.drew v zs) := v1.out
  clear r1 v1
  refine wp_region_held_drew (S := (fun w' => w'.cell? ⟨w.heap.size, 0, none⟩ = some (.int .i64 f) ∧ w'.cell? ⟨w.heap.size, 1, none⟩ = some (.int .i64 c) ∧ Below w.heap.size w w')) (by kernel_rfl) (⟨q0, q1, below_drew B1.out⟩) (fun hHeld => ?_)
  refine wpAnyH_take (i := 0) (v := ?va0) rfl (by kernel_rfl) (by kernel_rfl) (by kernel_rfl) (fun _ _ _ h => h) (Or.inl ⟨by rfl, ?hy0⟩) (by assumption) ?rest0
  case hy0 => (intro w hSw; (try dsimp only at hSw); go_simp; try with_reducible rfl)
  (try simp only [Act.put, List.getElem_toArray, List.getElem_cons_zero, List.setIfInBounds_toArray, List.set_cons_zero, List.set_cons_succ])
  refine wpAnyH_take (i := 1) (v := ?va1) rfl (by kernel_rfl) (by kernel_rfl) (by kernel_rfl) (fun _ _ _ h => h) (Or.inl ⟨by rfl, ?hy1⟩) (by assumption) ?rest1
  case hy1 => (intro w hSw; (try dsimp only at hSw); go_simp; try with_reducible rfl)
  (try simp only [Act.put, List.getElem_toArray, List.getElem_cons_zero, List.getElem_cons_succ, List.setIfInBounds_toArray, List.set_cons_zero, List.set_cons_succ])
  refine wpAnyH_take (i := 2) (v := ?va2) rfl (by kernel_rfl) (by kernel_rfl) (by kernel_rfl) (fun _ _ _ h => h) (Or.inl ⟨by rfl, ?hy2⟩) (by assumption) ?rest2
  case hy2 => (intro w hSw; (try dsimp only at hSw); go_simp; try with_reducible rfl)
  (try simp only [Act.put, List.getElem_toArray, List.getElem_cons_zero, List.getElem_cons_succ, List.setIfInBounds_toArray, List.set_cons_zero, List.set_cons_succ])
  refine wpAnyH_take (i := 3) (v := ?va3) rfl (by kernel_rfl) (by kernel_rfl) (by kernel_rfl) (fun _ _ _ h => h) (Or.inl ⟨by rfl, ?hy3⟩) (by assumption) ?rest3
  case hy3 => (intro w hSw; (try dsimp only at hSw); go_simp; try with_reducible rfl)
  (try simp only [Act.put, List.getElem_toArray, List.getElem_cons_zero, List.getElem_cons_succ, List.setIfInBounds_toArray, List.set_cons_zero, List.set_cons_succ])
  refine wpAnyH_take (i := 4) (v := ?va4) rfl (by kernel_rfl) (by kernel_rfl) (by kernel_rfl) (fun _ _ _ h => h) (Or.inl ⟨by rfl, ?hy4⟩) (by assumption) ?rest4
  case hy4 => (intro w hSw; (try dsimp only at hSw); go_simp; try with_reducible rfl)
  (try simp only [Act.put, List.getElem_toArray, List.getElem_cons_zero, List.getElem_cons_succ, List.setIfInBounds_toArray, List.set_cons_zero, List.set_cons_succ])
  refine wpAnyH_take (i := 6) (v := ?va6) rfl (by kernel_rfl) (by kernel_rfl) (by kernel_rfl) (fun _ _ _ h => h) (Or.inl ⟨by rfl, ?hy6⟩) (by assumption) ?rest6
  case hy6 => (intro w hSw; (try dsimp only at hSw); go_simp; try with_reducible rfl)
  (try simp only [Act.put, List.getElem_toArray, List.getElem_cons_zero, List.getElem_cons_succ, List.setIfInBounds_toArray, List.set_cons_zero, List.set_cons_succ])
  refine wpAnyH_take (i := 7) (v := ?va7) rfl (by kernel_rfl) (by kernel_rfl) (by kernel_rfl) (fun _ _ _ h => h) (Or.inl ⟨by rfl, ?hy7⟩) (by assumption) ?rest7
  case hy7 => (intro w hSw; (try dsimp only at hSw); go_simp; try with_reducible rfl)
  (try simp only [Act.put, List.getElem_toArray, List.getElem_cons_zero, List.getElem_cons_succ, List.setIfInBounds_toArray, List.set_cons_zero, List.set_cons_succ])
  refine wpAnyH_ready (rs := [5]) (by kernel_rfl) (by simp) ?_
  refine AllReadyH.cons rfl (fun K hK => ?_) AllReadyH.nil
  go_simp
  refine (c_specClassesOf _).mono ?_
  rintro e wc ⟨vv, rfl, hown, hbk⟩
  obtain ⟨gc, capc, rfl, hcc⟩ := row_shape hown
  have qz : wc.cell? ⟨gc, c.toNat, none⟩ = some (.int .i64 z) := by rw [hcc c.toNat hix, ← HZ.out]; rfl
  clear hown hcc
  obtain ⟨k0, k1, kb⟩ := hHeld
  have R2 := Row.below R1.out hbk
  have V2 := Lib.hid (V1.out.below hbk)
  refine hK.out _ _ (⟨cellBelow hbk k0, cellBelow hbk k1, bst kb hbk kb.size⟩) (fun hHeld => ?_)
  clear hK K
  (try simp only [Act.put, List.getElem_toArray, List.getElem_cons_zero, List.getElem_cons_succ, List.setIfInBounds_toArray, List.set_cons_zero, List.set_cons_succ])
  refine wpAnyH_take (i := 8) (v := ?va8) rfl (by kernel_rfl) (by kernel_rfl) (by kernel_rfl) (fun _ _ _ h => h) (Or.inl ⟨by rfl, ?hy8⟩) (by assumption) ?rest8
  case hy8 => (intro w hSw; (try dsimp only at hSw); go_simp; try with_reducible rfl)
  (try simp only [Act.put, List.getElem_toArray, List.getElem_cons_zero, List.getElem_cons_succ, List.setIfInBounds_toArray, List.set_cons_zero, List.set_cons_succ])
  refine wpAnyH_ready (rs := [9]) (by kernel_rfl) (by simp) ?_
  refine AllReadyH.cons rfl (fun K hK => ?_) AllReadyH.nil
  go_simp
  refine hK.out _ _ (hHeld) (fun hHeld => ?_)
  clear hK K
  (try simp only [Act.put, List.getElem_toArray, List.getElem_cons_zero, List.getElem_cons_succ, List.setIfInBounds_toArray, List.set_cons_zero, List.set_cons_succ])
  refine wpAnyH_take (i := 10) (v := ?va10) rfl (by kernel_rfl) (by kernel_rfl) (by kernel_rfl) (fun _ _ _ h => h) (Or.inl ⟨by rfl, ?hy10⟩) (by assumption) ?rest10
  case hy10 => (intro w hSw; (try dsimp only at hSw); go_simp; try with_reducible rfl)
  (try simp only [Act.put, List.getElem_toArray, List.getElem_cons_zero, List.getElem_cons_succ, List.setIfInBounds_toArray, List.set_cons_zero, List.set_cons_succ])
  refine wpAnyH_take (i := 11) (v := ?va11) rfl (by kernel_rfl) (by kernel_rfl) (by kernel_rfl) (fun _ _ _ h => h) (Or.inl ⟨by rfl, ?hy11⟩) (by assumption) ?rest11
  case hy11 => (intro w hSw; (try dsimp only at hSw); go_simp; try with_reducible rfl)
  (try simp only [Act.put, List.getElem_toArray, List.getElem_cons_zero, List.getElem_cons_succ, List.setIfInBounds_toArray, List.set_cons_zero, List.set_cons_succ])
  refine wpAnyH_done (by kernel_rfl) ?_ _
  obtain ⟨_, _, kb⟩ := hHeld
  have B2 := Lib.hid kb
  have k2 := RowS.c2 R2
  have k3 := RowS.c3 R2
  clear kb R1 V1 q0 q1 B1
  go_wp2_with fail
  obtain ⟨qn, hqn⟩ : ∃ qn : Nat, q = qn := ⟨q.toNat, by omega⟩
  have HQN := Lib.hid hqn
  rw [hqn] at HU HW ⊢
  rw [Int.toNat_natCast] at HU HW
  refine (c_l2Is l v zs qn _ V2.out HN4.out (by have := HLN.out; omega) HW.out).mono ?_
  rintro e w3 ⟨rfl, hb3⟩
  rw [HU.out, ← HQN.out]
  have B3 := Lib.hid (bst B2.out hb3 B2.out.size)
  clear hb3 k2 k3 hqn
  go_wp2
  go_ret2
  exact ⟨rfl, B3.out⟩


set_option maxHeartbeats 3200000 in
set_option maxRecDepth 100000 in
theorem c_sSweep_bad (f c l : Int) (v : Value) (zs : List Int) (m : Int) (u : Value) (ys : List Int) (w : World) (hv : IntsAt w v zs) (hu : IntsAt w u ys) (hS : ¬ Sok f c l zs) : Calls Tryd.prog 33 #[sp f c l v, bm m u] w fun e w' => e = .returned (.tuple #[sp 0 0 0 (.slice none 0 0), .int .i64 0, .bool false]) ∧ Below w.heap.size w w' := by
  have HB := Lib.hid ((((Below.refl w.heap.size w).alloc (Nat.le_refl _) (.cells (c4 f c l v) 27)).alloc (by simp) (.cells (cb m u) 25)).alloc (by simp; omega) (.cells (c4 0 0 0 (.slice none 0 0)) 27))
  have s0 : RowS (((w.alloc (.cells (c4 f c l v) 27)).alloc (.cells (cb m u) 25)).alloc (.cells (c4 0 0 0 (.slice none 0 0)) 27)) (w.heap.size + 1 + 1) 0 0 0 (.slice none 0 0) := Row.new2 w _ _ _ _
  have b0 : RowB (((w.alloc (.cells (c4 f c l v) 27)).alloc (.cells (cb m u) 25)).alloc (.cells (c4 0 0 0 (.slice none 0 0)) 27)) (w.heap.size + 1) m u := (Row.new1 w _ _ _).alloc _
  have r0 : RowS (((w.alloc (.cells (c4 f c l v) 27)).alloc (.cells (cb m u) 25)).alloc (.cells (c4 0 0 0 (.slice none 0 0)) 27)) w.heap.size f c l v := ((Row.new w 27 (c4 f c l v)).alloc _).alloc _
  have hv1 := Lib.hid (hv.below HB.out)
  have hu1 := Lib.hid (hu.below HB.out)
  clear hv hu
  go_enter Tryd.func33, Tryd.ntmps33
  go_wp2_with fail
  refine (c_sGoodSpan_no f c l v zs _ hv1.out hS).mono ?_
  rintro e w1 ⟨rfl, hb1⟩
  have B1 := Lib.hid (bst HB.out hb1 HB.out.size)
  have s1 := Row.below s0 hb1
  clear hb1 s0 r0 b0 hv1
  go_wp2_with (refine wl_storeS rfl _ _ rfl (w.heap.size + 1 + 1) 0 0 0 (.slice none 0 0) _ _ _ _ s1 rfl rfl rfl ?_)
  exact bodyPost_ret (res_row_slot2 Tryd.results33 (Row.put s1 (c4 0 0 0 (.slice none 0 0))) rfl rfl rfl Tryd.underlying27 rfl info_span) rfl ⟨rfl, below_setRow B1.out (by omega) _⟩

set_option maxHeartbeats 3200000 in
set_option maxRecDepth 100000 in
theorem c_sSweep_marks (f c l : Int) (v : Value) (zs : List Int) (m : Int) (u : Value) (ys : List Int) (w : World) (hv : IntsAt w v zs) (hu : IntsAt w u ys) (hS : Sok f c l zs) (hM : ¬ (Bok l zs ∧ Bok m ys ∧ l = m)) : Calls Tryd.prog 33 #[sp f c l v, bm m u] w fun e w' => e = .returned (.tuple #[sp 0 0 0 (.slice none 0 0), .int .i64 0, .bool false]) ∧ Below w.heap.size w w' := by
  have HS := Lib.hid hS; have HM := Lib.hid hM; clear hS hM
  have HB := Lib.hid ((((Below.refl w.heap.size w).alloc (Nat.le_refl _) (.cells (c4 f c l v) 27)).alloc (by simp) (.cells (cb m u) 25)).alloc (by simp; omega) (.cells (c4 0 0 0 (.slice none 0 0)) 27))
  have s0 : RowS (((w.alloc (.cells (c4 f c l v) 27)).alloc (.cells (cb m u) 25)).alloc (.cells (c4 0 0 0 (.slice none 0 0)) 27)) (w.heap.size + 1 + 1) 0 0 0 (.slice none 0 0) := Row.new2 w _ _ _ _
  have b0 : RowB (((w.alloc (.cells (c4 f c l v) 27)).alloc (.cells (cb m u) 25)).alloc (.cells (c4 0 0 0 (.slice none 0 0)) 27)) (w.heap.size + 1) m u := (Row.new1 w _ _ _).alloc _
  have r0 : RowS (((w.alloc (.cells (c4 f c l v) 27)).alloc (.cells (cb m u) 25)).alloc (.cells (c4 0 0 0 (.slice none 0 0)) 27)) w.heap.size f c l v := ((Row.new w 27 (c4 f c l v)).alloc _).alloc _
  have hv1 := Lib.hid (hv.below HB.out)
  have hu1 := Lib.hid (hu.below HB.out)
  clear hv hu
  go_enter Tryd.func33, Tryd.ntmps33
  go_wp2_with fail
  refine (c_sGoodSpan_yes f c l v zs _ hv1.out HS.out).mono ?_
  rintro e w1 ⟨rfl, hb1⟩
  have B1 := Lib.hid (bst HB.out hb1 HB.out.size)
  have s1 := Row.below s0 hb1
  have r1 := Row.below r0 hb1
  have b1 := Row.below b0 hb1
  have v1 := Lib.hid (hv1.out.below hb1)
  have u1 := Lib.hid (hu1.out.below hb1)
  clear hb1 s0 r0 b0 hv1 hu1
  go_wp2_with (first
    | (refine wl_loadU rfl _ rfl w.heap.size f c l v r1 rfl ?_)
    | (refine wl_loadB rfl _ rfl (w.heap.size + 1) m u b1 rfl ?_))
  refine (c_sBothBits_no l m v u zs ys _ v1.out u1.out HM.out).mono ?_
  rintro e w2 ⟨rfl, hb2⟩
  have B2 := bst B1.out hb2 B1.out.size
  have B3 := Lib.hid (B2.alloc B2.size (.cells (cb 0 (.slice none 0 0)) 25))
  have s3 := (Row.below s1 hb2).alloc (.cells (cb 0 (.slice none 0 0)) 25)
  clear hb2 s1 r1 b1 v1 u1 B2
  go_wp2_with (refine wl_storeS rfl _ _ rfl (w.heap.size + 1 + 1) 0 0 0 (.slice none 0 0) _ _ _ _ s3 rfl rfl rfl ?_)
  exact bodyPost_ret (res_row_slot2 Tryd.results33 (Row.put s3 (c4 0 0 0 (.slice none 0 0))) rfl rfl rfl Tryd.underlying27 rfl info_span) rfl ⟨rfl, below_setRow B3.out (by omega) _⟩

theorem c_count0 (l : Int) (v : Value) (zs : List Int) (w : World) (hv : IntsAt w v zs) (hB : Bok l zs) (n : Int) (hn : countTo (bitL zs) l.toNat = n) : Calls Tryd.prog 80 #[bm l v, .int .i64 0, .int .i64 l] w fun e w' => e = .returned (.tuple #[.int .i64 n, .bool true]) ∧ Below w.heap.size w w' := by
  subst hn
  obtain ⟨L, rfl⟩ : ∃ L : Nat, l = L := ⟨l.toNat, by have := hB.1; omega⟩
  have := c_sCountSet_yes L v zs 0 L w hv hB ⟨by omega, by omega, by omega⟩
  simpa using this

set_option maxHeartbeats 3200000 in
set_option maxRecDepth 100000 in
theorem c_sSweep_yes (f c l : Int) (v : Value) (zs : List Int) (m : Int) (u : Value) (ys : List Int) (w : World) (hv : IntsAt w v zs) (hu : IntsAt w u ys) (hS : Sok f c l zs) (hM : Bok m ys) (hml : l = m) (a b : Int) (ha : countTo (bitL zs) l.toNat = a) (hb : countTo (bitL (zipW .and zs ys)) l.toNat = b) : Calls Tryd.prog 33 #[sp f c l v, bm m u] w fun e w' => ∃ v', e = .returned (.tuple #[sp f c l v', .int .i64 (a - b), .bool true]) ∧ Own w' w.heap.size v' (zipW .and zs ys) ∧ Below w.heap.size w w' := by
  have hll := hS.long
  have ba := countTo_bd (bitL zs) l.toNat
  have bb := countTo_bd (bitL (zipW .and zs ys)) l.toNat
  rw [ha] at ba
  rw [hb] at bb
  have i1 : IntKind.i64.wrap (a - b) = a - b := IntWalk.i64_in _ (by omega)
  have HZK := Lib.hid (zip_ok hS.2.2.2 hM)
  have HS := Lib.hid hS; have HM := Lib.hid hM; have HML := Lib.hid hml; have HA := Lib.hid ha; have HBB := Lib.hid hb
  clear hS hM hml ha hb ba bb
  generalize hrs : zipW .and zs ys = rs at *
  have HRS := Lib.hid hrs; clear hrs
  have HB := Lib.hid ((((Below.refl w.heap.size w).alloc (Nat.le_refl _) (.cells (c4 f c l v) 27)).alloc (by simp) (.cells (cb m u) 25)).alloc (by simp; omega) (.cells (c4 0 0 0 (.slice none 0 0)) 27))
  have s0 : RowS (((w.alloc (.cells (c4 f c l v) 27)).alloc (.cells (cb m u) 25)).alloc (.cells (c4 0 0 0 (.slice none 0 0)) 27)) (w.heap.size + 1 + 1) 0 0 0 (.slice none 0 0) := Row.new2 w _ _ _ _
  have b0 : RowB (((w.alloc (.cells (c4 f c l v) 27)).alloc (.cells (cb m u) 25)).alloc (.cells (c4 0 0 0 (.slice none 0 0)) 27)) (w.heap.size + 1) m u := (Row.new1 w _ _ _).alloc _
  have r0 : RowS (((w.alloc (.cells (c4 f c l v) 27)).alloc (.cells (cb m u) 25)).alloc (.cells (c4 0 0 0 (.slice none 0 0)) 27)) w.heap.size f c l v := ((Row.new w 27 (c4 f c l v)).alloc _).alloc _
  have hv1 := Lib.hid (hv.below HB.out)
  have hu1 := Lib.hid (hu.below HB.out)
  clear hv hu
  go_enter Tryd.func33, Tryd.ntmps33
  go_wp2_with fail
  refine (c_sGoodSpan_yes f c l v zs _ hv1.out HS.out).mono ?_
  rintro e w1 ⟨rfl, hb1⟩
  have B1 := Lib.hid (bst HB.out hb1 HB.out.size)
  have s1 := Row.below s0 hb1
  have r1 := Row.below r0 hb1
  have b1 := Row.below b0 hb1
  have v1 := Lib.hid (hv1.out.below hb1)
  have u1 := Lib.hid (hu1.out.below hb1)
  clear hb1 s0 r0 b0 hv1 hu1
  go_wp2_with (first
    | (refine wl_loadU rfl _ rfl w.heap.size f c l v r1 rfl ?_)
    | (refine wl_loadB rfl _ rfl (w.heap.size + 1) m u b1 rfl ?_))
  refine (c_sBothBits_yes l m v u zs ys _ v1.out u1.out HS.out.2.2.2 HM.out HML.out).mono ?_
  rintro e w2 ⟨v2, rfl, ho, hb2⟩
  rw [HRS.out] at ho
  obtain ⟨vg, vc, hvs, _⟩ := ho.shape
  subst hvs
  generalize hn : rs.length = n at *
  have HN := Lib.hid hn; clear hn
  have B2 := bst B1.out hb2 B1.out.size
  have B3 := Lib.hid (B2.alloc B2.size (.cells (cb l (.slice vg n vc)) 25))
  have s3 := (Row.below s1 hb2).alloc (.cells (cb l (.slice vg n vc)) 25)
  have r3 := (Row.below r1 hb2).alloc (.cells (cb l (.slice vg n vc)) 25)
  have x3 : RowB (w2.alloc (.cells (cb l (.slice vg n vc)) 25)) w2.heap.size l (.slice vg n vc) := Row.new w2 _ _
  have v3 := Lib.hid ((v1.out.below hb2).below ((Below.refl _ _).alloc (Nat.le_refl _) (.cells (cb l (.slice vg n vc)) 25)))
  have O3 := Lib.hid ((ho.mono B1.out.size).below ((Below.refl _ _).alloc (Nat.le_refl _) (.cells (cb l (.slice vg n vc)) 25)))
  have q2 := RowS.c2 (Row.below r1 hb2)
  have hlt : w.heap.size < w2.heap.size := Row.lt (Row.below r1 hb2)
  clear ho hb2 s1 r1 b1 v1 u1 B2 B1
  go_wp2_with (refine wl_loadU rfl _ rfl w.heap.size f c l v r3 rfl ?_)
  refine (c_count0 l v zs _ v3.out HS.out.2.2.2 a HA.out).mono ?_
  rintro e w4 ⟨rfl, hb4⟩
  have B4 := Lib.hid (bst B3.out hb4 B3.out.size)
  have s4 := Row.below s3 hb4
  have r4 := Row.below r3 hb4
  have x4 := Row.below x3 hb4
  have O4 := Lib.hid (O3.out.below hb4)
  clear hb4 s3 r3 x3 v3 O3 B3 q2
  generalize w2.heap.size = gx at *
  have p0 := RowB.c0 x4
  go_wp2_with (refine wl_loadB rfl _ rfl gx l (.slice vg n vc) x4 rfl ?_)
  refine (c_count0 l (.slice vg n vc) rs _ O4.out.ints HZK.out b HBB.out).mono ?_
  rintro e w5 ⟨rfl, hb5⟩
  have B5 := Lib.hid (bst B4.out hb5 B4.out.size)
  have s5 := Row.below s4 hb5
  have r5 := Row.below r4 hb5
  have x5 := Row.below x4 hb5
  have O5 := Lib.hid (O4.out.below hb5)
  clear hb5 s4 r4 x4 O4 B4 p0
  have q0 := RowS.c0 r5
  have q1 := RowS.c1 r5
  have HNE := Lib.hid (own_row_ne' O5.out s5)
  go_wp2_with (first
    | (refine wl_loadB rfl _ rfl gx l (.slice vg n vc) x5 rfl ?_)
    | (refine wl_storeS rfl _ _ rfl (w.heap.size + 1 + 1) f c l (.slice vg n vc) _ _ _ _ s5 rfl rfl rfl ?_))
  exact bodyPost_ret (res_row_slot2 Tryd.results33 (Row.put s5 (c4 f c l (.slice vg n vc))) rfl rfl rfl Tryd.underlying27 rfl info_span) rfl ⟨_, rfl, Own.put O5.out _ _ HNE.out, below_setRow B5.out (by omega) _⟩

end Go.Proofs.YtcelebblcjhpaaaDoor
