/- The project's spans: the slot of a word, valid spans, new spans, words of slots. -/
import Derived.Test.YtcelebblcjhpaaaDoorSw4
namespace Go.Proofs.YtcelebblcjhpaaaDoor
open Go.RowKit Pb

theorem Own.put {w : World} {B : Nat} {v : Value} {zs : List Int} (h : Own w B v zs) (g : Nat) (cs : Array Value) (hn : v.ownBlock ≠ some g) : Own (w.setRow g cs) B v zs := by
  obtain ⟨h1, h2⟩ := h
  refine ⟨h1, ?_⟩
  rcases h2 with h2 | ⟨g0, cap, cur, hv, hg, hh, r⟩
  · exact .inl h2
  · exact .inr ⟨g0, cap, cur, hv, hg, by rw [setRow_other w g g0 cs (fun e => hn (by rw [hv, e]; rfl))]; exact hh, r⟩
theorem own_row_ne' {w : World} {B g : Nat} {v : Value} {zs : List Int} {T : TypeId} {cs : Array Value} (h : Own w B v zs) (hr : Row w g T cs) (hT : T ≠ 3 := by decide) : v.ownBlock ≠ some g := fun e => by
  rcases h.2 with ⟨h1, _⟩ | ⟨g0, cap, cur, hv, hg, hh, _⟩
  · rw [h1] at e; cases e
  · rw [hv] at e
    have e' : g0 = g := by simpa [Value.ownBlock] using e
    subst e'
    have := hh.symm.trans hr
    simp at this
    exact hT this.2.symm

set_option maxHeartbeats 1600000 in
theorem c_slotAt_before (f c z n x : Int) (w : World) (h0 : 0 ≤ f) (h1 : f ≤ 31) (hx : x < f * 64) : Calls Tryd.prog 65 #[ly f c z n, .int .i64 x] w fun e w' => e = .returned (.tuple #[.int .i64 0, .bool false]) ∧ Below w.heap.size w w' := by
  have HB := Lib.hid ((Below.refl w.heap.size w).alloc (Nat.le_refl _) (.cells (cl f c z n) 66))
  have r0 : RowL (w.alloc (.cells (cl f c z n) 66)) w.heap.size f c z n := Row.new w _ _
  go_enter Tryd.func65, Tryd.ntmps65
  go_wp2_with fail
  refine (c_firstWord f c z n _ h0 h1).mono ?_
  rintro e w1 ⟨rfl, hb1⟩
  have B1 := Lib.hid (bst HB.out hb1 HB.out.size)
  clear hb1 r0
  go_wp2
  go_ret2
  exact ⟨rfl, B1.out⟩

set_option maxHeartbeats 1600000 in
theorem c_slotAt_in (f c z n x q : Int) (w : World) (h0 : 0 ≤ f) (h1 : f ≤ 31) (hx : ¬ x < f * 64) (hx' : x ≤ 9223372036854775807) (hz : 1 ≤ z) (hq : q = (x - f * 64) / z) (hs : 0 ≤ q ∧ q < n) : Calls Tryd.prog 65 #[ly f c z n, .int .i64 x] w fun e w' => e = .returned (.tuple #[.int .i64 q, .bool true]) ∧ Below w.heap.size w w' := by
  have HB := Lib.hid ((Below.refl w.heap.size w).alloc (Nat.le_refl _) (.cells (cl f c z n) 66))
  have r0 : RowL (w.alloc (.cells (cl f c z n) 66)) w.heap.size f c z n := Row.new w _ _
  have hz0 : ¬ z = 0 := by omega
  have i1 : IntKind.i64.wrap (x - f * 64) = x - f * 64 := IntWalk.i64_in _ (by omega)
  have hqb := slot_bd (a := x - f * 64) hz (by omega)
  have i2 : IntKind.i64.wrap (Int.tdiv (x - f * 64) z) = q := by rw [Int.tdiv_eq_ediv_of_nonneg (by omega), hq]; exact IntWalk.i64_in _ (by omega)
  have i3 : Int.tdiv (x - f * 64) z = q := by rw [Int.tdiv_eq_ediv_of_nonneg (by omega), hq]
  have i4 : (x - f * 64) / z = q := hq.symm
  have i5 : IntKind.i64.wrap q = q := by rw [hq]; exact IntWalk.i64_in _ (by omega)
  clear hq hqb
  have HH := Lib.hid hs; clear hs
  have HX := Lib.hid hx
  go_enter Tryd.func65, Tryd.ntmps65
  go_wp2_with fail
  refine (c_firstWord f c z n _ h0 h1).mono ?_
  rintro e w1 ⟨rfl, hb1⟩
  have B1 := Lib.hid (bst HB.out hb1 HB.out.size)
  have r1 := Row.below r0 hb1
  have k0 : w1.drew.cell? ⟨w.heap.size, 0, none⟩ = some (.int .i64 f) := Row.cell r1 0
  have k1 : w1.drew.cell? ⟨w.heap.size, 1, none⟩ = some (.int .i64 c) := Row.cell r1 1
  have k2 : w1.drew.cell? ⟨w.heap.size, 2, none⟩ = some (.int .i64 z) := Row.cell r1 2
  have k3 : w1.drew.cell? ⟨w.heap.size, 3, none⟩ = some (.int .i64 n) := Row.cell r1 3
  have R1 : Hid (RowL w1.drew w.heap.size f c z n) := r1
  clear hb1 r0 r1
  go_wp2_with fail
  go_region_held3 (fun w' => w'.cell? ⟨w.heap.size, 0, none⟩ = some (.int .i64 f) ∧ w'.cell? ⟨w.heap.size, 1, none⟩ = some (.int .i64 c) ∧ w'.cell? ⟨w.heap.size, 2, none⟩ = some (.int .i64 z) ∧ w'.cell? ⟨w.heap.size, 3, none⟩ = some (.int .i64 n) ∧ Below w.heap.size w w')
    (first
      | (with_reducible exact ⟨k0, k1, k2, k3, below_drew B1.out⟩)
      | (go_split_ands
         exact ⟨cellBelow hbk (by assumption), cellBelow hbk (by assumption), cellBelow hbk (by assumption), cellBelow hbk (by assumption), bst (by assumption) hbk (Below.size (by assumption))⟩)
      | (go_split_ands; refine ⟨?_, ?_, ?_, ?_, ?_⟩ <;> assumption))
    (first
      | (go_at_call 63; refine (c_firstWord f c z n _ h0 h1).mono ?_; rintro e w2 ⟨rfl, hbk⟩; have R2 := Row.below R1.out hbk))
  clear k0 k1 k2 k3
  go_split_ands
  rename_i hfin
  go_wp2_with (refine wl_loadL rfl _ rfl w.heap.size f c z n R2 rfl ?_)
  refine (c_hasSlot_in f c z n q _ HH.out.1 HH.out.2).mono ?_
  rintro e w3 ⟨rfl, hb3⟩
  have B3 := Lib.hid (bst hfin hb3 hfin.size)
  clear hb3 R2
  go_wp2
  go_ret2
  exact ⟨rfl, B3.out⟩

set_option maxHeartbeats 1600000 in
theorem c_slotAt_out (f c z n x q : Int) (w : World) (h0 : 0 ≤ f) (h1 : f ≤ 31) (hx : ¬ x < f * 64) (hx' : x ≤ 9223372036854775807) (hz : 1 ≤ z) (hq : q = (x - f * 64) / z) (hs : ¬ (0 ≤ q ∧ q < n)) : Calls Tryd.prog 65 #[ly f c z n, .int .i64 x] w fun e w' => e = .returned (.tuple #[.int .i64 q, .bool false]) ∧ Below w.heap.size w w' := by
  have HB := Lib.hid ((Below.refl w.heap.size w).alloc (Nat.le_refl _) (.cells (cl f c z n) 66))
  have r0 : RowL (w.alloc (.cells (cl f c z n) 66)) w.heap.size f c z n := Row.new w _ _
  have hz0 : ¬ z = 0 := by omega
  have i1 : IntKind.i64.wrap (x - f * 64) = x - f * 64 := IntWalk.i64_in _ (by omega)
  have hqb := slot_bd (a := x - f * 64) hz (by omega)
  have i2 : IntKind.i64.wrap (Int.tdiv (x - f * 64) z) = q := by rw [Int.tdiv_eq_ediv_of_nonneg (by omega), hq]; exact IntWalk.i64_in _ (by omega)
  have i3 : Int.tdiv (x - f * 64) z = q := by rw [Int.tdiv_eq_ediv_of_nonneg (by omega), hq]
  have i4 : (x - f * 64) / z = q := hq.symm
  have i5 : IntKind.i64.wrap q = q := by rw [hq]; exact IntWalk.i64_in _ (by omega)
  clear hq hqb
  have HH := Lib.hid hs; clear hs
  have HX := Lib.hid hx
  go_enter Tryd.func65, Tryd.ntmps65
  go_wp2_with fail
  refine (c_firstWord f c z n _ h0 h1).mono ?_
  rintro e w1 ⟨rfl, hb1⟩
  have B1 := Lib.hid (bst HB.out hb1 HB.out.size)
  have r1 := Row.below r0 hb1
  have k0 : w1.drew.cell? ⟨w.heap.size, 0, none⟩ = some (.int .i64 f) := Row.cell r1 0
  have k1 : w1.drew.cell? ⟨w.heap.size, 1, none⟩ = some (.int .i64 c) := Row.cell r1 1
  have k2 : w1.drew.cell? ⟨w.heap.size, 2, none⟩ = some (.int .i64 z) := Row.cell r1 2
  have k3 : w1.drew.cell? ⟨w.heap.size, 3, none⟩ = some (.int .i64 n) := Row.cell r1 3
  have R1 : Hid (RowL w1.drew w.heap.size f c z n) := r1
  clear hb1 r0 r1
  go_wp2_with fail
  go_region_held3 (fun w' => w'.cell? ⟨w.heap.size, 0, none⟩ = some (.int .i64 f) ∧ w'.cell? ⟨w.heap.size, 1, none⟩ = some (.int .i64 c) ∧ w'.cell? ⟨w.heap.size, 2, none⟩ = some (.int .i64 z) ∧ w'.cell? ⟨w.heap.size, 3, none⟩ = some (.int .i64 n) ∧ Below w.heap.size w w')
    (first
      | (with_reducible exact ⟨k0, k1, k2, k3, below_drew B1.out⟩)
      | (go_split_ands
         exact ⟨cellBelow hbk (by assumption), cellBelow hbk (by assumption), cellBelow hbk (by assumption), cellBelow hbk (by assumption), bst (by assumption) hbk (Below.size (by assumption))⟩)
      | (go_split_ands; refine ⟨?_, ?_, ?_, ?_, ?_⟩ <;> assumption))
    (first
      | (go_at_call 63; refine (c_firstWord f c z n _ h0 h1).mono ?_; rintro e w2 ⟨rfl, hbk⟩; have R2 := Row.below R1.out hbk))
  clear k0 k1 k2 k3
  go_split_ands
  rename_i hfin
  go_wp2_with (refine wl_loadL rfl _ rfl w.heap.size f c z n R2 rfl ?_)
  refine (c_hasSlot_out f c z n q _ HH.out).mono ?_
  rintro e w3 ⟨rfl, hb3⟩
  have B3 := Lib.hid (bst hfin hb3 hfin.size)
  clear hb3 R2
  go_wp2
  go_ret2
  exact ⟨rfl, B3.out⟩


set_option maxHeartbeats 1600000 in
theorem c_iGoodSpan_yes (f c l : Int) (v : Value) (zs : List Int) (w : World) (hT : TabW w) (hv : IntsAt w v zs) (hS : Sok f c l zs) : Calls Tryd.prog 16 #[sp f c l v] w fun e w' => e = .returned (.bool true) ∧ Below w.heap.size w w' := by
  have HB := Lib.hid ((Below.refl w.heap.size w).alloc (Nat.le_refl _) (.cells (c4 f c l v) 27))
  have hT1 := Lib.hid (hT.below HB.out hT.pos)
  have hv1 := Lib.hid (hv.below HB.out)
  clear hT hv
  obtain ⟨F, hf⟩ : ∃ F : Nat → Int, F = fun k => zs.getD k 0 := ⟨_, rfl⟩; have HF := Lib.hid hf; clear hf
  go_enter Tryd.func16, Tryd.ntmps16
  go_wp2_with fail
  refine (c_stateOf_yes f c l v zs F HF.out _ hT1.out hv1.out hS).mono ?_
  rintro e w1 ⟨rfl, hb1⟩
  have B1 := Lib.hid (bst HB.out hb1 HB.out.size)
  clear hb1
  go_wp2
  go_ret
  exact ⟨rfl, B1.out.alloc B1.out.size _⟩


set_option maxHeartbeats 1600000 in
theorem c_iGoodSpan_no (f c l : Int) (v : Value) (zs : List Int) (w : World) (hT : TabW w) (hv : IntsAt w v zs) (hS : ¬ Sok f c l zs) : Calls Tryd.prog 16 #[sp f c l v] w fun e w' => e = .returned (.bool false) ∧ Below w.heap.size w w' := by
  have HB := Lib.hid ((Below.refl w.heap.size w).alloc (Nat.le_refl _) (.cells (c4 f c l v) 27))
  have hT1 := Lib.hid (hT.below HB.out hT.pos)
  have hv1 := Lib.hid (hv.below HB.out)
  clear hT hv
  skip
  go_enter Tryd.func16, Tryd.ntmps16
  go_wp2_with fail
  refine (c_stateOf_no f c l v zs _ hT1.out hv1.out hS).mono ?_
  rintro e w1 ⟨rfl, hb1⟩
  have B1 := Lib.hid (bst HB.out hb1 HB.out.size)
  clear hb1
  go_wp2
  go_ret
  exact ⟨rfl, B1.out.alloc B1.out.size _⟩


set_option maxHeartbeats 1600000 in
theorem c_iNewSpan_no (f c : Int) (w : World) (hT : TabW w) (hN : ¬ (Pl.isCl c = true ∧ 0 ≤ f ∧ f ≤ 32 - Pl.pgOf c)) : Calls Tryd.prog 29 #[.int .i64 f, .int .i64 c] w fun e w' => e = .returned (.tuple #[sp 0 0 0 (.slice none 0 0), .bool false]) ∧ Below w.heap.size w w' := by
  have HB := Lib.hid ((Below.refl w.heap.size w).alloc (Nat.le_refl _) (.cells (c4 0 0 0 (.slice none 0 0)) 27))
  have r0 : RowS (w.alloc (.cells (c4 0 0 0 (.slice none 0 0)) 27)) w.heap.size 0 0 0 (.slice none 0 0) := Row.new w _ _
  have hT1 := Lib.hid (hT.below HB.out hT.pos)
  clear hT
  have HN := Lib.hid hN; clear hN
  go_enter Tryd.func29, Tryd.ntmps29
  go_wp2_with fail
  refine (c_layoutOf_no f c _ hT1.out HN.out).mono ?_
  rintro e w1 ⟨rfl, hb1⟩
  have B0 := bst HB.out hb1 HB.out.size
  have B1 := Lib.hid (B0.alloc B0.size (.cells (cl 0 0 0 0) 66))
  have r1 := (Row.below r0 hb1).alloc (.cells (cl 0 0 0 0) 66)
  clear hb1 r0 B0 hT1
  go_wp2_with (refine wl_storeS rfl _ _ rfl w.heap.size 0 0 0 (.slice none 0 0) _ _ _ _ r1 rfl rfl rfl ?_)
  exact bodyPost_ret (res_row_slot Tryd.results29 (Row.put r1 (c4 0 0 0 (.slice none 0 0))) rfl rfl Tryd.underlying27 rfl info_span) rfl ⟨rfl, below_setRow B1.out (Nat.le_refl _) _⟩
set_option maxHeartbeats 1600000 in
theorem c_iNewSpan_yes (f c : Int) (w : World) (hT : TabW w) (hc : Pl.isCl c = true) (hf : 0 ≤ f ∧ f ≤ 32 - Pl.pgOf c) : Calls Tryd.prog 29 #[.int .i64 f, .int .i64 c] w fun e w' => ∃ v, e = .returned (.tuple #[sp f c (Pl.slOf c) v, .bool true]) ∧ Own w' w.heap.size v (wl ((Pl.slOf c + 15) / 16).toNat fun _ => 0) ∧ Below w.heap.size w w' := by
  have HB := Lib.hid ((Below.refl w.heap.size w).alloc (Nat.le_refl _) (.cells (c4 0 0 0 (.slice none 0 0)) 27))
  have r0 : RowS (w.alloc (.cells (c4 0 0 0 (.slice none 0 0)) 27)) w.heap.size 0 0 0 (.slice none 0 0) := Row.new w _ _
  have hT1 := Lib.hid (hT.below HB.out hT.pos)
  obtain ⟨n0, n1⟩ := sl_bd hc
  generalize hz : Pl.szOf c = z
  have HZ := Lib.hid hz
  generalize hn : Pl.slOf c = n at *
  have HN := Lib.hid hn
  generalize hm : ((n + 15) / 16).toNat = m
  have HM := Lib.hid hm
  clear hT hz hn hm
  go_enter Tryd.func29, Tryd.ntmps29
  go_wp2_with fail
  refine (c_layoutOf_yes f c _ hT1.out hc hf).mono ?_
  rintro e w1 ⟨rfl, hb1⟩
  rw [HZ.out, HN.out]
  have B0 := bst HB.out hb1 HB.out.size
  have B1 := Lib.hid (B0.alloc B0.size (.cells (cl f c z n) 66))
  have r1 := (Row.below r0 hb1).alloc (.cells (cl f c z n) 66)
  clear hb1 r0 B0 hT1
  go_wp2_with fail
  refine (c_span f c z n (fun _ => 0) _ (by omega) (by omega) (fun _ _ => by omega)).mono ?_
  rintro e w2 ⟨v, rfl, ho, hb2⟩
  rw [HM.out] at ho
  have B2 := Lib.hid (bst B1.out hb2 B1.out.size)
  have r2 := Row.below r1 hb2
  have HO := Lib.hid (ho.mono B1.out.size)
  obtain ⟨vg, vc, hvs, _⟩ := ho.shape
  rw [wl_length] at hvs
  clear ho r1 hb2
  subst hvs
  go_wp2_with (refine wl_storeS rfl _ _ rfl w.heap.size f c n (.slice vg m vc) _ _ _ _ r2 rfl rfl rfl ?_)
  exact bodyPost_ret (res_row_slot Tryd.results29 (Row.put r2 (c4 f c n (.slice vg m vc))) rfl rfl Tryd.underlying27 rfl info_span) rfl ⟨_, rfl, Own.put HO.out _ _ (own_row_ne' HO.out r2), below_setRow B2.out (Nat.le_refl _) _⟩


set_option maxHeartbeats 1600000 in
theorem c_iWordOf_bad (f c l : Int) (v : Value) (zs : List Int) (s : Int) (w : World) (hT : TabW w) (hv : IntsAt w v zs) (hS : ¬ Sok f c l zs) : Calls Tryd.prog 19 #[sp f c l v, .int .i64 s] w fun e w' => e = .returned (.tuple #[.int .i64 0, .bool false]) ∧ Below w.heap.size w w' := by
  have HB := Lib.hid ((Below.refl w.heap.size w).alloc (Nat.le_refl _) (.cells (c4 f c l v) 27))
  have hT1 := Lib.hid (hT.below HB.out hT.pos)
  have hv1 := Lib.hid (hv.below HB.out)
  clear hT hv
  go_enter Tryd.func19, Tryd.ntmps19
  go_wp2_with fail
  refine (c_stateOf_no f c l v zs _ hT1.out hv1.out hS).mono ?_
  rintro e w1 ⟨rfl, hb1⟩
  have B0 := bst HB.out hb1 HB.out.size
  have B1 := Lib.hid (B0.alloc B0.size (.cells (c10 0 0 0 0 fun _ => 0) 71))
  clear hb1 B0 hT1 hv1
  go_wp2
  go_ret2
  exact ⟨rfl, B1.out⟩

set_option maxHeartbeats 1600000 in
theorem c_iWordOf_out (f c l : Int) (v : Value) (zs : List Int) (s : Int) (w : World) (hT : TabW w) (hv : IntsAt w v zs) (hS : Sok f c l zs) (hs : ¬ (0 ≤ s ∧ s < l)) : Calls Tryd.prog 19 #[sp f c l v, .int .i64 s] w fun e w' => e = .returned (.tuple #[.int .i64 0, .bool false]) ∧ Below w.heap.size w w' := by
  have HB := Lib.hid ((Below.refl w.heap.size w).alloc (Nat.le_refl _) (.cells (c4 f c l v) 27))
  have hT1 := Lib.hid (hT.below HB.out hT.pos)
  have hv1 := Lib.hid (hv.below HB.out)
  clear hT hv
  obtain ⟨F, hF⟩ : ∃ F : Nat → Int, F = fun k => zs.getD k 0 := ⟨_, rfl⟩
  have HF := Lib.hid hF; clear hF
  have hfb := hS.from
  have hSB := Lib.hid hS.2.2.2
  have hzb := Pl.szOf_bd hS.1
  have hll := hS.long
  have HS := Lib.hid hS
  generalize hz : Pl.szOf c = z at *
  have HZ := Lib.hid hz
  clear hz hS
  have HH := Lib.hid hs; clear hs
  go_enter Tryd.func19, Tryd.ntmps19
  go_wp2_with fail
  refine (c_stateOf_yes f c l v zs F HF.out _ hT1.out hv1.out HS.out).mono ?_
  rintro e w1 ⟨rfl, hb1⟩
  rw [HZ.out]
  have B0 := bst HB.out hb1 HB.out.size
  have B1 := Lib.hid (B0.alloc B0.size (.cells (c10 f c z l F) 71))
  have t1 : RowT (w1.alloc (.cells (c10 f c z l F) 71)) w1.heap.size f c z l F := Row.new w1 _ _
  clear hb1 B0 hT1 hv1
  go_wp2_with fail
  refine (c_hasSlot_out f c z l s _ HH.out).mono ?_
  rintro e w2 ⟨rfl, hb2⟩
  have B2 := Lib.hid (bst B1.out hb2 B1.out.size)
  clear hb2 t1
  go_wp2
  go_ret2
  exact ⟨rfl, B2.out⟩

set_option maxHeartbeats 1600000 in
theorem c_iWordOf_in (f c l : Int) (v : Value) (zs : List Int) (s : Int) (w : World) (hT : TabW w) (hv : IntsAt w v zs) (hS : Sok f c l zs) (hs0 : 0 ≤ s) (hs1 : s < l) : Calls Tryd.prog 19 #[sp f c l v, .int .i64 s] w fun e w' => e = .returned (.tuple #[.int .i64 (f * 64 + s * Pl.szOf c), .bool true]) ∧ Below w.heap.size w w' := by
  have HB := Lib.hid ((Below.refl w.heap.size w).alloc (Nat.le_refl _) (.cells (c4 f c l v) 27))
  have hT1 := Lib.hid (hT.below HB.out hT.pos)
  have hv1 := Lib.hid (hv.below HB.out)
  clear hT hv
  obtain ⟨F, hF⟩ : ∃ F : Nat → Int, F = fun k => zs.getD k 0 := ⟨_, rfl⟩
  have HF := Lib.hid hF; clear hF
  have hfb := hS.from
  have hSB := Lib.hid hS.2.2.2
  have hzb := Pl.szOf_bd hS.1
  have hll := hS.long
  have HS := Lib.hid hS
  generalize hz : Pl.szOf c = z at *
  have HZ := Lib.hid hz
  clear hz hS
  have hmul := mul_bd hs0 hs1 hzb.1
  have hlz : l * z ≤ 64 * 256 := Int.mul_le_mul (by omega) (by omega) (by omega) (by omega)
  have i1 : IntKind.i64.wrap (s * z) = s * z := IntWalk.i64_in _ (by omega)
  have i2 : IntKind.i64.wrap (f * 64 + s * z) = f * 64 + s * z := IntWalk.i64_in _ (by omega)
  have i3 : Go.RowKit.wrap64 (s * z) = s * z := by unfold Go.RowKit.wrap64; omega
  have i4 : Go.RowKit.wrap64 (f * 64 + s * z) = f * 64 + s * z := by unfold Go.RowKit.wrap64; omega
  clear hmul hlz
  go_enter Tryd.func19, Tryd.ntmps19
  go_wp2_with fail
  refine (c_stateOf_yes f c l v zs F HF.out _ hT1.out hv1.out HS.out).mono ?_
  rintro e w1 ⟨rfl, hb1⟩
  rw [HZ.out]
  have B0 := bst HB.out hb1 HB.out.size
  have B1 := Lib.hid (B0.alloc B0.size (.cells (c10 f c z l F) 71))
  have t1 : RowT (w1.alloc (.cells (c10 f c z l F) 71)) w1.heap.size f c z l F := Row.new w1 _ _
  clear hb1 B0 hT1 hv1
  go_wp2_with fail
  refine (c_hasSlot_in f c z l s _ hs0 hs1).mono ?_
  rintro e w2 ⟨rfl, hb2⟩
  have B2 := Lib.hid (below_drew (bst B1.out hb2 B1.out.size))
  have t2 := Row.below t1 hb2
  generalize w1.heap.size = g at *
  have k0 : w2.drew.cell? ⟨g, 0, none⟩ = some (.int .i64 f) := Row.cell t2 0
  have k1 : w2.drew.cell? ⟨g, 1, none⟩ = some (.int .i64 c) := Row.cell t2 1
  have k2 : w2.drew.cell? ⟨g, 2, none⟩ = some (.int .i64 z) := Row.cell t2 2
  have k3 : w2.drew.cell? ⟨g, 3, none⟩ = some (.int .i64 l) := Row.cell t2 3
  clear hb2 t1 t2 B1
  go_wp2_with fail
  go_region_held3 (fun w' => w'.cell? ⟨g, 0, none⟩ = some (.int .i64 f) ∧ w'.cell? ⟨g, 1, none⟩ = some (.int .i64 c) ∧ w'.cell? ⟨g, 2, none⟩ = some (.int .i64 z) ∧ w'.cell? ⟨g, 3, none⟩ = some (.int .i64 l) ∧ Below w.heap.size w w')
    (first
      | (with_reducible exact ⟨k0, k1, k2, k3, B2.out⟩)
      | (go_split_ands
         exact ⟨cellBelow hbk (by assumption), cellBelow hbk (by assumption), cellBelow hbk (by assumption), cellBelow hbk (by assumption), bst (by assumption) hbk (Below.size (by assumption))⟩)
      | (go_split_ands; refine ⟨?_, ?_, ?_, ?_, ?_⟩ <;> assumption))
    (first
      | (go_at_call 63; refine (c_firstWord f c z l _ hfb.1 hfb.2).mono ?_; rintro e w3 ⟨rfl, hbk⟩))
  clear k0 k1 k2 k3
  go_split_ands
  rename_i hfin
  go_wp2
  go_ret2
  exact ⟨rfl, hfin⟩


set_option maxHeartbeats 1600000 in
theorem c_iThingAt_bad (f c l : Int) (v : Value) (zs : List Int) (x : Int) (w : World) (hT : TabW w) (hv : IntsAt w v zs) (hS : ¬ Sok f c l zs) : Calls Tryd.prog 22 #[sp f c l v, .int .i64 x] w fun e w' => e = .returned (.tuple #[.int .i64 0, .bool false]) ∧ Below w.heap.size w w' := by
  have HB := Lib.hid ((Below.refl w.heap.size w).alloc (Nat.le_refl _) (.cells (c4 f c l v) 27))
  have hT1 := Lib.hid (hT.below HB.out hT.pos)
  have hv1 := Lib.hid (hv.below HB.out)
  clear hT hv
  go_enter Tryd.func22, Tryd.ntmps22
  go_wp2_with fail
  refine (c_stateOf_no f c l v zs _ hT1.out hv1.out hS).mono ?_
  rintro e w1 ⟨rfl, hb1⟩
  have B0 := bst HB.out hb1 HB.out.size
  have B1 := Lib.hid (B0.alloc B0.size (.cells (c10 0 0 0 0 fun _ => 0) 71))
  clear hb1 B0 hT1 hv1
  go_wp2
  go_ret2
  exact ⟨rfl, B1.out⟩

set_option maxHeartbeats 1600000 in
theorem c_iThingAt_before (f c l : Int) (v : Value) (zs : List Int) (x : Int) (w : World) (hT : TabW w) (hv : IntsAt w v zs) (hS : Sok f c l zs) (hx : x < f * 64) : Calls Tryd.prog 22 #[sp f c l v, .int .i64 x] w fun e w' => e = .returned (.tuple #[.int .i64 0, .bool false]) ∧ Below w.heap.size w w' := by
  have HB := Lib.hid ((Below.refl w.heap.size w).alloc (Nat.le_refl _) (.cells (c4 f c l v) 27))
  have hT1 := Lib.hid (hT.below HB.out hT.pos)
  have hv1 := Lib.hid (hv.below HB.out)
  clear hT hv
  obtain ⟨F, hF⟩ : ∃ F : Nat → Int, F = fun k => zs.getD k 0 := ⟨_, rfl⟩
  have HF := Lib.hid hF; clear hF
  have hfb := hS.from
  have hSB := Lib.hid hS.2.2.2
  have hzb := Pl.szOf_bd hS.1
  have hll := hS.long
  have HS := Lib.hid hS
  generalize hz : Pl.szOf c = z at *
  have HZ := Lib.hid hz
  clear hz hS
  go_enter Tryd.func22, Tryd.ntmps22
  go_wp2_with fail
  refine (c_stateOf_yes f c l v zs F HF.out _ hT1.out hv1.out HS.out).mono ?_
  rintro e w1 ⟨rfl, hb1⟩
  rw [HZ.out]
  have B0 := bst HB.out hb1 HB.out.size
  have B1 := Lib.hid (B0.alloc B0.size (.cells (c10 f c z l F) 71))
  have t1 : RowT (w1.alloc (.cells (c10 f c z l F) 71)) w1.heap.size f c z l F := Row.new w1 _ _
  clear hb1 B0 hT1 hv1
  go_wp2_with fail
  refine (c_slotAt_before f c z l x _ hfb.1 hfb.2 hx).mono ?_
  rintro e w2 ⟨rfl, hb2⟩
  have B2 := Lib.hid (bst B1.out hb2 B1.out.size)
  clear hb2 t1
  go_wp2
  go_ret2
  exact ⟨rfl, B2.out⟩

set_option maxHeartbeats 1600000 in
theorem c_iThingAt_behind (f c l : Int) (v : Value) (zs : List Int) (x : Int) (w : World) (hT : TabW w) (hv : IntsAt w v zs) (hS : Sok f c l zs) (hx : ¬ x < f * 64) (hx' : x ≤ 9223372036854775807) (q : Int) (hq : q = (x - f * 64) / Pl.szOf c) (hs : ¬ q < l) : Calls Tryd.prog 22 #[sp f c l v, .int .i64 x] w fun e w' => e = .returned (.tuple #[.int .i64 0, .bool false]) ∧ Below w.heap.size w w' := by
  have HB := Lib.hid ((Below.refl w.heap.size w).alloc (Nat.le_refl _) (.cells (c4 f c l v) 27))
  have hT1 := Lib.hid (hT.below HB.out hT.pos)
  have hv1 := Lib.hid (hv.below HB.out)
  clear hT hv
  obtain ⟨F, hF⟩ : ∃ F : Nat → Int, F = fun k => zs.getD k 0 := ⟨_, rfl⟩
  have HF := Lib.hid hF; clear hF
  have hfb := hS.from
  have hSB := Lib.hid hS.2.2.2
  have hzb := Pl.szOf_bd hS.1
  have hll := hS.long
  have HS := Lib.hid hS
  generalize hz : Pl.szOf c = z at *
  have HZ := Lib.hid hz
  have HQ := Lib.hid hq
  have HX := Lib.hid hx
  have HS1 := Lib.hid hs
  clear hz hS hq
  go_enter Tryd.func22, Tryd.ntmps22
  go_wp2_with fail
  refine (c_stateOf_yes f c l v zs F HF.out _ hT1.out hv1.out HS.out).mono ?_
  rintro e w1 ⟨rfl, hb1⟩
  rw [HZ.out]
  have B0 := bst HB.out hb1 HB.out.size
  have B1 := Lib.hid (B0.alloc B0.size (.cells (c10 f c z l F) 71))
  have t1 : RowT (w1.alloc (.cells (c10 f c z l F) 71)) w1.heap.size f c z l F := Row.new w1 _ _
  clear hb1 B0 hT1 hv1
  go_wp2_with fail
  refine (c_slotAt_out f c z l x q _ hfb.1 hfb.2 (by have := HX.out; omega) hx' hzb.1 HQ.out (fun h => by have := HS1.out; omega)).mono ?_
  rintro e w2 ⟨rfl, hb2⟩
  have B2 := Lib.hid (bst B1.out hb2 B1.out.size)
  clear hb2 t1
  go_wp2
  go_ret2
  exact ⟨rfl, B2.out⟩

set_option maxHeartbeats 1600000 in
theorem c_iThingAt_in (f c l : Int) (v : Value) (zs : List Int) (x : Int) (w : World) (hT : TabW w) (hv : IntsAt w v zs) (hS : Sok f c l zs) (hx : ¬ x < f * 64) (hx' : x ≤ 9223372036854775807) (q : Int) (hq : q = (x - f * 64) / Pl.szOf c) (hs : q < l) (hu : bitL zs q.toNat = true) : Calls Tryd.prog 22 #[sp f c l v, .int .i64 x] w fun e w' => e = .returned (.tuple #[.int .i64 q, .bool true]) ∧ Below w.heap.size w w' := by
  have HB := Lib.hid ((Below.refl w.heap.size w).alloc (Nat.le_refl _) (.cells (c4 f c l v) 27))
  have hT1 := Lib.hid (hT.below HB.out hT.pos)
  have hv1 := Lib.hid (hv.below HB.out)
  clear hT hv
  obtain ⟨F, hF⟩ : ∃ F : Nat → Int, F = fun k => zs.getD k 0 := ⟨_, rfl⟩
  have HF := Lib.hid hF; clear hF
  have hfb := hS.from
  have hSB := Lib.hid hS.2.2.2
  have hzb := Pl.szOf_bd hS.1
  have hll := hS.long
  have HS := Lib.hid hS
  generalize hz : Pl.szOf c = z at *
  have HZ := Lib.hid hz
  have HQ := Lib.hid hq
  have HX := Lib.hid hx
  have HU := Lib.hid hu
  clear hz hS hq hu
  have hq0 : 0 ≤ q := by rw [HQ.out]; exact (slot_bd hzb.1 (by omega)).1
  go_enter Tryd.func22, Tryd.ntmps22
  go_wp2_with fail
  refine (c_stateOf_yes f c l v zs F HF.out _ hT1.out hv1.out HS.out).mono ?_
  rintro e w1 ⟨rfl, hb1⟩
  rw [HZ.out]
  have B0 := bst HB.out hb1 HB.out.size
  have B1 := Lib.hid (B0.alloc B0.size (.cells (c10 f c z l F) 71))
  have t1 : RowT (w1.alloc (.cells (c10 f c z l F) 71)) w1.heap.size f c z l F := Row.new w1 _ _
  clear hb1 B0 hT1 hv1
  go_wp2_with fail
  refine (c_slotAt_in f c z l x q _ hfb.1 hfb.2 (by have := HX.out; omega) hx' hzb.1 HQ.out ⟨hq0, hs⟩).mono ?_
  rintro e w2 ⟨rfl, hb2⟩
  have B2 := Lib.hid (bst B1.out hb2 B1.out.size)
  have t2 := Row.below t1 hb2
  generalize w1.heap.size = g at *
  have k0 := Row.cell t2 0
  have k1 := Row.cell t2 1
  have k2 := Row.cell t2 2
  have k3 := Row.cell t2 3
  have k4 := Row.cell t2 4
  have k5 := Row.cell t2 5
  have k6 := Row.cell t2 6
  have k7 := Row.cell t2 7
  have k8 := Row.cell t2 8
  have k9 := Row.cell t2 9
  clear hb2 t1 t2 B1
  go_wp2_with fail
  refine (c_isInUse_in f c z l zs F HF.out hSB.out q hq0 hs _).mono ?_
  rintro e w3 ⟨rfl, hb3⟩
  rw [HU.out]
  have B3 := Lib.hid (bst B2.out hb3 B2.out.size)
  clear hb3 k0 k1 k2 k3 k4 k5 k6 k7 k8 k9
  go_wp2
  go_ret2
  exact ⟨rfl, B3.out⟩

set_option maxHeartbeats 1600000 in
theorem c_iThingAt_unused (f c l : Int) (v : Value) (zs : List Int) (x : Int) (w : World) (hT : TabW w) (hv : IntsAt w v zs) (hS : Sok f c l zs) (hx : ¬ x < f * 64) (hx' : x ≤ 9223372036854775807) (q : Int) (hq : q = (x - f * 64) / Pl.szOf c) (hs : q < l) (hu : bitL zs q.toNat = false) : Calls Tryd.prog 22 #[sp f c l v, .int .i64 x] w fun e w' => e = .returned (.tuple #[.int .i64 0, .bool false]) ∧ Below w.heap.size w w' := by
  have HB := Lib.hid ((Below.refl w.heap.size w).alloc (Nat.le_refl _) (.cells (c4 f c l v) 27))
  have hT1 := Lib.hid (hT.below HB.out hT.pos)
  have hv1 := Lib.hid (hv.below HB.out)
  clear hT hv
  obtain ⟨F, hF⟩ : ∃ F : Nat → Int, F = fun k => zs.getD k 0 := ⟨_, rfl⟩
  have HF := Lib.hid hF; clear hF
  have hfb := hS.from
  have hSB := Lib.hid hS.2.2.2
  have hzb := Pl.szOf_bd hS.1
  have hll := hS.long
  have HS := Lib.hid hS
  generalize hz : Pl.szOf c = z at *
  have HZ := Lib.hid hz
  have HQ := Lib.hid hq
  have HX := Lib.hid hx
  have HU := Lib.hid hu
  clear hz hS hq hu
  have hq0 : 0 ≤ q := by rw [HQ.out]; exact (slot_bd hzb.1 (by omega)).1
  go_enter Tryd.func22, Tryd.ntmps22
  go_wp2_with fail
  refine (c_stateOf_yes f c l v zs F HF.out _ hT1.out hv1.out HS.out).mono ?_
  rintro e w1 ⟨rfl, hb1⟩
  rw [HZ.out]
  have B0 := bst HB.out hb1 HB.out.size
  have B1 := Lib.hid (B0.alloc B0.size (.cells (c10 f c z l F) 71))
  have t1 : RowT (w1.alloc (.cells (c10 f c z l F) 71)) w1.heap.size f c z l F := Row.new w1 _ _
  clear hb1 B0 hT1 hv1
  go_wp2_with fail
  refine (c_slotAt_in f c z l x q _ hfb.1 hfb.2 (by have := HX.out; omega) hx' hzb.1 HQ.out ⟨hq0, hs⟩).mono ?_
  rintro e w2 ⟨rfl, hb2⟩
  have B2 := Lib.hid (bst B1.out hb2 B1.out.size)
  have t2 := Row.below t1 hb2
  generalize w1.heap.size = g at *
  have k0 := Row.cell t2 0
  have k1 := Row.cell t2 1
  have k2 := Row.cell t2 2
  have k3 := Row.cell t2 3
  have k4 := Row.cell t2 4
  have k5 := Row.cell t2 5
  have k6 := Row.cell t2 6
  have k7 := Row.cell t2 7
  have k8 := Row.cell t2 8
  have k9 := Row.cell t2 9
  clear hb2 t1 t2 B1
  go_wp2_with fail
  refine (c_isInUse_in f c z l zs F HF.out hSB.out q hq0 hs _).mono ?_
  rintro e w3 ⟨rfl, hb3⟩
  rw [HU.out]
  have B3 := Lib.hid (bst B2.out hb3 B2.out.size)
  clear hb3 k0 k1 k2 k3 k4 k5 k6 k7 k8 k9
  go_wp2
  go_ret2
  exact ⟨rfl, B3.out⟩

end Go.Proofs.YtcelebblcjhpaaaDoor
