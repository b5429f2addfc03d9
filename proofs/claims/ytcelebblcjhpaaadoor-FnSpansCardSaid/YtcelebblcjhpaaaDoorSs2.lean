/- The reference's spans: new, of one's own, slots taken and freed. -/
import Derived.Test.YtcelebblcjhpaaaDoorSs1
import Derived.Test.YtcelebblcjhpaaaDoorSw6
import Derived.Test.YtcelebblcjhpaaaDoorBd2
namespace Go.Proofs.YtcelebblcjhpaaaDoor
open Go.RowKit Pb

set_option maxHeartbeats 1600000 in
set_option maxRecDepth 100000 in
theorem c_sNewSpan_class (f c : Int) (w : World) (hc : Pl.isCl c = false) : Calls Tryd.prog 30 #[.int .i64 f, .int .i64 c] w fun e w' => e = .returned (.tuple #[sp 0 0 0 (.slice none 0 0), .bool false]) ∧ Below w.heap.size w w' := by
  have HB := Lib.hid ((Below.refl w.heap.size w).alloc (Nat.le_refl _) (.cells (c4 0 0 0 (.slice none 0 0)) 27))
  have r0 : RowS (w.alloc (.cells (c4 0 0 0 (.slice none 0 0)) 27)) w.heap.size 0 0 0 (.slice none 0 0) := Row.new w _ _
  go_enter Tryd.func30, Tryd.ntmps30
  go_wp2_with fail
  refine (c_l1Class_is c false hc _).mono ?_
  rintro e w1 ⟨rfl, hb1⟩
  have B1 := Lib.hid (bst HB.out hb1 HB.out.size)
  have r1 := Row.below r0 hb1
  clear hb1 r0
  go_wp2_with (refine wl_storeS rfl _ _ rfl (w.heap.size) 0 0 0 (.slice none 0 0) _ _ _ _ r1 rfl rfl rfl ?_)
  exact bodyPost_ret (res_row_slot Tryd.results30 (Row.put r1 (c4 0 0 0 (.slice none 0 0))) rfl rfl Tryd.underlying27 rfl info_span) rfl ⟨rfl, below_setRow B1.out (by omega) _⟩

set_option maxHeartbeats 1600000 in
set_option maxRecDepth 100000 in
theorem c_sNewSpan_from (f c : Int) (w : World) (hc : Pl.isCl c = true) (hf : ¬ (0 ≤ f ∧ f ≤ 32 - Pl.pgOf c)) : Calls Tryd.prog 30 #[.int .i64 f, .int .i64 c] w fun e w' => e = .returned (.tuple #[sp 0 0 0 (.slice none 0 0), .bool false]) ∧ Below w.heap.size w w' := by
  have HNF := Lib.hid hf; clear hf
  obtain ⟨n0, n1⟩ := sl_bd hc
  have HZO := Lib.hid (zero_ok (n := Pl.slOf c) (by omega) (by omega))
  generalize hn : Pl.slOf c = n at *
  have HN := Lib.hid hn; clear hn
  generalize hrs : (wl ((n + 15) / 16).toNat fun _ => 0) = rs at *
  have HRS := Lib.hid hrs; clear hrs
  have HB := Lib.hid ((Below.refl w.heap.size w).alloc (Nat.le_refl _) (.cells (c4 0 0 0 (.slice none 0 0)) 27))
  have r0 : RowS (w.alloc (.cells (c4 0 0 0 (.slice none 0 0)) 27)) w.heap.size 0 0 0 (.slice none 0 0) := Row.new w _ _
  go_enter Tryd.func30, Tryd.ntmps30
  go_wp2_with fail
  refine (c_l1Class_is c true hc _).mono ?_
  rintro e w1 ⟨rfl, hb1⟩
  have B1 := Lib.hid (bst HB.out hb1 HB.out.size)
  have r1 := Row.below r0 hb1
  clear hb1 r0
  go_wp2_with fail
  refine (c_l4Slots_is c n HN.out _).mono ?_
  rintro e w2 ⟨rfl, hb2⟩
  have B2 := Lib.hid (bst B1.out hb2 B1.out.size)
  have r2 := Row.below r1 hb2
  clear hb2 r1 B1
  go_wp2_with fail
  refine (c_l4Slots_is c n HN.out _).mono ?_
  rintro e w3 ⟨rfl, hb3⟩
  have B3 := Lib.hid (bst B2.out hb3 B2.out.size)
  have r3 := Row.below r2 hb3
  clear hb3 r2 B2
  go_wp2_with fail
  refine (c_sNewBits_yes n _ (by omega) (by omega)).mono ?_
  rintro e w4 ⟨v, rfl, ho, hb4⟩
  rw [HRS.out] at ho
  obtain ⟨vg, vc, hvs, _⟩ := ho.shape
  subst hvs
  generalize hm : rs.length = m at *
  have HMM := Lib.hid hm; clear hm
  have B4 := bst B3.out hb4 B3.out.size
  have B5 := Lib.hid ((B4.alloc B4.size (.cells (cb n (.slice vg m vc)) 25)).alloc (by simp; have := B4.size; omega) (.cells (c4 f c n (.slice vg m vc)) 27))
  have r5 := ((Row.below r3 hb4).alloc (.cells (cb n (.slice vg m vc)) 25)).alloc (.cells (c4 f c n (.slice vg m vc)) 27)
  have x5 : RowS ((w4.alloc (.cells (cb n (.slice vg m vc)) 25)).alloc (.cells (c4 f c n (.slice vg m vc)) 27)) (w4.heap.size + 1) f c n (.slice vg m vc) := Row.new1 w4 _ _ _
  have O5 : Hid (Own ((w4.alloc (.cells (cb n (.slice vg m vc)) 25)).alloc (.cells (c4 f c n (.slice vg m vc)) 27)) w.heap.size (.slice vg m vc) rs) := (ho.mono B3.out.size).below (((Below.refl _ _).alloc (Nat.le_refl _) _).alloc (by simp) _)
  clear ho hb4 r3 B3 B4
  go_wp2_with fail
  refine (c_sGoodSpan_from f c n (.slice vg m vc) rs _ O5.out.ints hc HZO.out HN.out.symm HNF.out).mono ?_
  rintro e w6 ⟨rfl, hb6⟩
  have B6 := Lib.hid (bst B5.out hb6 B5.out.size)
  have r6 := Row.below r5 hb6
  clear hb6 r5 x5 B5 O5
  go_wp2_with (refine wl_storeS rfl _ _ rfl (w.heap.size) 0 0 0 (.slice none 0 0) _ _ _ _ r6 rfl rfl rfl ?_)
  exact bodyPost_ret (res_row_slot Tryd.results30 (Row.put r6 (c4 0 0 0 (.slice none 0 0))) rfl rfl Tryd.underlying27 rfl info_span) rfl ⟨rfl, below_setRow B6.out (by omega) _⟩

set_option maxHeartbeats 1600000 in
set_option maxRecDepth 100000 in
theorem c_sNewSpan_yes (f c : Int) (w : World) (hc : Pl.isCl c = true) (hf : 0 ≤ f ∧ f ≤ 32 - Pl.pgOf c) : Calls Tryd.prog 30 #[.int .i64 f, .int .i64 c] w fun e w' => ∃ v, e = .returned (.tuple #[sp f c (Pl.slOf c) v, .bool true]) ∧ Own w' w.heap.size v (wl ((Pl.slOf c + 15) / 16).toNat fun _ => 0) ∧ Below w.heap.size w w' := by
  have HNF := Lib.hid hf; clear hf
  obtain ⟨n0, n1⟩ := sl_bd hc
  have HZO := Lib.hid (zero_ok (n := Pl.slOf c) (by omega) (by omega))
  generalize hn : Pl.slOf c = n at *
  have HN := Lib.hid hn; clear hn
  generalize hrs : (wl ((n + 15) / 16).toNat fun _ => 0) = rs at *
  have HRS := Lib.hid hrs; clear hrs
  have HB := Lib.hid ((Below.refl w.heap.size w).alloc (Nat.le_refl _) (.cells (c4 0 0 0 (.slice none 0 0)) 27))
  have r0 : RowS (w.alloc (.cells (c4 0 0 0 (.slice none 0 0)) 27)) w.heap.size 0 0 0 (.slice none 0 0) := Row.new w _ _
  go_enter Tryd.func30, Tryd.ntmps30
  go_wp2_with fail
  refine (c_l1Class_is c true hc _).mono ?_
  rintro e w1 ⟨rfl, hb1⟩
  have B1 := Lib.hid (bst HB.out hb1 HB.out.size)
  have r1 := Row.below r0 hb1
  clear hb1 r0
  go_wp2_with fail
  refine (c_l4Slots_is c n HN.out _).mono ?_
  rintro e w2 ⟨rfl, hb2⟩
  have B2 := Lib.hid (bst B1.out hb2 B1.out.size)
  have r2 := Row.below r1 hb2
  clear hb2 r1 B1
  go_wp2_with fail
  refine (c_l4Slots_is c n HN.out _).mono ?_
  rintro e w3 ⟨rfl, hb3⟩
  have B3 := Lib.hid (bst B2.out hb3 B2.out.size)
  have r3 := Row.below r2 hb3
  clear hb3 r2 B2
  go_wp2_with fail
  refine (c_sNewBits_yes n _ (by omega) (by omega)).mono ?_
  rintro e w4 ⟨v, rfl, ho, hb4⟩
  rw [HRS.out] at ho
  obtain ⟨vg, vc, hvs, _⟩ := ho.shape
  subst hvs
  generalize hm : rs.length = m at *
  have HMM := Lib.hid hm; clear hm
  have B4 := bst B3.out hb4 B3.out.size
  have B5 := Lib.hid ((B4.alloc B4.size (.cells (cb n (.slice vg m vc)) 25)).alloc (by simp; have := B4.size; omega) (.cells (c4 f c n (.slice vg m vc)) 27))
  have r5 := ((Row.below r3 hb4).alloc (.cells (cb n (.slice vg m vc)) 25)).alloc (.cells (c4 f c n (.slice vg m vc)) 27)
  have x5 : RowS ((w4.alloc (.cells (cb n (.slice vg m vc)) 25)).alloc (.cells (c4 f c n (.slice vg m vc)) 27)) (w4.heap.size + 1) f c n (.slice vg m vc) := Row.new1 w4 _ _ _
  have O5 : Hid (Own ((w4.alloc (.cells (cb n (.slice vg m vc)) 25)).alloc (.cells (c4 f c n (.slice vg m vc)) 27)) w.heap.size (.slice vg m vc) rs) := (ho.mono B3.out.size).below (((Below.refl _ _).alloc (Nat.le_refl _) _).alloc (by simp) _)
  clear ho hb4 r3 B3 B4
  go_wp2_with fail
  refine (c_sGoodSpan_yes f c n (.slice vg m vc) rs _ O5.out.ints ⟨hc, HNF.out, HN.out.symm, HZO.out⟩).mono ?_
  rintro e w6 ⟨rfl, hb6⟩
  have B6 := Lib.hid (bst B5.out hb6 B5.out.size)
  have r6 := Row.below r5 hb6
  have x6 := Row.below x5 hb6
  have O6 := Lib.hid (O5.out.below hb6)
  clear hb6 r5 x5 B5 O5
  go_wp2_with (first
    | (refine wl_loadS rfl _ rfl (w4.heap.size + 1) f c n (.slice vg m vc) x6 rfl ?_)
    | (refine wl_storeS rfl _ _ rfl w.heap.size f c n (.slice vg m vc) _ _ _ _ r6 rfl rfl rfl ?_))
  exact bodyPost_ret (res_row_slot Tryd.results30 (Row.put r6 (c4 f c n (.slice vg m vc))) rfl rfl Tryd.underlying27 rfl info_span) rfl ⟨_, rfl, Own.put O6.out _ _ (own_row_ne' O6.out r6), below_setRow B6.out (Nat.le_refl _) _⟩

set_option maxHeartbeats 3200000 in
theorem c_l4Own (f c l : Int) (v : Value) (zs : List Int) (w : World) (hv : IntsAt w v zs) (hn : zs.length ≤ 1000) : Calls Tryd.prog 54 #[sp f c l v] w fun e w' => ∃ v', e = .returned (sp f c l v') ∧ Own w' w.heap.size v' zs ∧ Below w.heap.size w w' := by
  have HN := Lib.hid hn; clear hn
  have HB : Hid (Below w.heap.size w ((w.alloc (.cells (c4 f c l v) 27)).alloc (.cells (c4 0 0 0 (.slice none 0 0)) 27)).drew) := below_drew (((Below.refl w.heap.size w).alloc (Nat.le_refl _) _).alloc (by simp) _)
  have SD : Hid (RowS ((w.alloc (.cells (c4 f c l v) 27)).alloc (.cells (c4 0 0 0 (.slice none 0 0)) 27)).drew (w.heap.size + 1) 0 0 0 (.slice none 0 0)) := Row.new1 w _ 27 (c4 0 0 0 (.slice none 0 0))
  have HV : Hid (IntsAt ((w.alloc (.cells (c4 f c l v) 27)).alloc (.cells (c4 0 0 0 (.slice none 0 0)) 27)).drew v zs) := hv.below HB.out
  obtain ⟨va, vca, hve, _⟩ := hv
  subst hve
  go_enter Tryd.func54, Tryd.ntmps54
  go_wp2_with fail
  go_region_held3 (fun w' => w'.cell? ⟨w.heap.size, 0, none⟩ = some (.int .i64 f) ∧ w'.cell? ⟨w.heap.size, 1, none⟩ = some (.int .i64 c) ∧ w'.cell? ⟨w.heap.size, 2, none⟩ = some (.int .i64 l) ∧ w'.cell? ⟨w.heap.size, 3, none⟩ = some (.slice va zs.length vca))
    (first
      | go_keep
      | (go_split_ands
         exact ⟨cellBelow hbk (by assumption), cellBelow hbk (by assumption), cellBelow hbk (by assumption), cellBelow hbk (by assumption)⟩))
    (first
      | (go_at_call 92; refine (c_l2Own l _ zs _ HV.out HN.out).mono ?_; rintro e w2 ⟨v', rfl, ho, hbk⟩; obtain ⟨vg, vc, hvs, hvg⟩ := ho.shape; subst hvs; have OO := Lib.hid ho; clear ho; have VG := Lib.hid hvg; clear hvg; have BE := Lib.hid (bst HB.out hbk HB.out.size); have RR := Row.below SD.out hbk; have RH := Lib.hid RR; have d0 := RowS.c0 RR; have d1 := RowS.c1 RR; have d2 := RowS.c2 RR; have d3 := RowS.c3 RR; have z0 := Row.frozen RR 0; have z1 := Row.frozen RR 1; have z2 := Row.frozen RR 2; have z3 := Row.frozen RR 3; clear RR))
  generalize zs.length = m at *
  have SR := rowS_set4 RH.out f c l (.slice vg m vc)
  have OW := Own.set4 (g := w.heap.size + 1) (OO.out.mono (show w.heap.size ≤ _ by simp; omega)) (fun b hb => by have := VG.out b hb; simp at this; omega) (.int .i64 f) (.int .i64 c) (.int .i64 l) (.slice vg m vc)
  have BL := below_set4 (g := w.heap.size + 1) BE.out (by omega) (.int .i64 f) (.int .i64 c) (.int .i64 l) (.slice vg m vc)
  generalize (((w2.setCell ⟨w.heap.size + 1, 0, none⟩ (.int .i64 f)).setCell ⟨w.heap.size + 1, 1, none⟩ (.int .i64 c)).setCell ⟨w.heap.size + 1, 2, none⟩ (.int .i64 l)).setCell ⟨w.heap.size + 1, 3, none⟩ (.slice vg m vc) = w5 at *
  go_wp2
  exact bodyPost_ret (res_row Tryd.results54 SR rfl Tryd.underlying27 rfl info_span) rfl ⟨_, rfl, OW, BL⟩


theorem c_next_none (l : Int) (v : Value) (zs : List Int) (w : World) (hv : IntsAt w v zs) (hB : Bok l zs) (L : Nat) (hL : l = L) (h : findP (fun k => !bitL zs k) 0 L = none) : Calls Tryd.prog 53 #[bm l v, .int .i64 0] w fun e w' => e = .returned (.tuple #[.int .i64 0, .bool false]) ∧ Below w.heap.size w w' := by
  subst hL
  have := c_sNextFree_yes L v zs 0 w hv hB (by omega)
  rw [Nat.sub_zero, h] at this
  exact this
theorem c_next_some (l : Int) (v : Value) (zs : List Int) (w : World) (hv : IntsAt w v zs) (hB : Bok l zs) (L : Nat) (hL : l = L) (p : Nat) (h : findP (fun k => !bitL zs k) 0 L = some p) : Calls Tryd.prog 53 #[bm l v, .int .i64 0] w fun e w' => e = .returned (.tuple #[.int .i64 (p : Int), .bool true]) ∧ Below w.heap.size w w' := by
  subst hL
  have := c_sNextFree_yes L v zs 0 w hv hB (by omega)
  rw [Nat.sub_zero, h] at this
  exact this

set_option maxHeartbeats 1600000 in
theorem c_sTakeSlot_bad (f c l : Int) (v : Value) (zs : List Int) (w : World) (hv : IntsAt w v zs) (hS : ¬ Sok f c l zs) : Calls Tryd.prog 14 #[sp f c l v] w fun e w' => e = .returned (.tuple #[sp 0 0 0 (.slice none 0 0), .int .i64 0, .bool false]) ∧ Below w.heap.size w w' := by
  have HB := Lib.hid (((Below.refl w.heap.size w).alloc (Nat.le_refl _) (.cells (c4 f c l v) 27)).alloc (by simp) (.cells (c4 0 0 0 (.slice none 0 0)) 27))
  have s0 : RowS ((w.alloc (.cells (c4 f c l v) 27)).alloc (.cells (c4 0 0 0 (.slice none 0 0)) 27)) (w.heap.size + 1) 0 0 0 (.slice none 0 0) := Row.new1 w _ _ _
  have r0 : RowS ((w.alloc (.cells (c4 f c l v) 27)).alloc (.cells (c4 0 0 0 (.slice none 0 0)) 27)) w.heap.size f c l v := (Row.new w 27 (c4 f c l v)).alloc _
  have hv1 := Lib.hid (hv.below HB.out)
  clear hv
  go_enter Tryd.func14, Tryd.ntmps14
  go_wp2_with fail
  refine (c_sGoodSpan_no f c l v zs _ hv1.out hS).mono ?_
  rintro e w1 ⟨rfl, hb1⟩
  have B1 := Lib.hid (bst HB.out hb1 HB.out.size)
  have s1 := Row.below s0 hb1
  clear hb1 s0 r0 hv1
  go_wp2_with (refine wl_storeS rfl _ _ rfl (w.heap.size + 1) 0 0 0 (.slice none 0 0) _ _ _ _ s1 rfl rfl rfl ?_)
  exact bodyPost_ret (res_row_slot2 Tryd.results14 (Row.put s1 (c4 0 0 0 (.slice none 0 0))) rfl rfl rfl Tryd.underlying27 rfl info_span) rfl ⟨rfl, below_setRow B1.out (by omega) _⟩

set_option maxHeartbeats 1600000 in
theorem c_sTakeSlot_full (f c l : Int) (v : Value) (zs : List Int) (w : World) (hv : IntsAt w v zs) (hS : Sok f c l zs) (L : Nat) (hL : l = L) (hfp : findP (fun k => !bitL zs k) 0 L = none) : Calls Tryd.prog 14 #[sp f c l v] w fun e w' => e = .returned (.tuple #[sp 0 0 0 (.slice none 0 0), .int .i64 0, .bool false]) ∧ Below w.heap.size w w' := by
  have HS := Lib.hid hS; have HFP := Lib.hid hfp; have HLL := Lib.hid hL
  clear hS hfp hL
  have HB := Lib.hid (((Below.refl w.heap.size w).alloc (Nat.le_refl _) (.cells (c4 f c l v) 27)).alloc (by simp) (.cells (c4 0 0 0 (.slice none 0 0)) 27))
  have s0 : RowS ((w.alloc (.cells (c4 f c l v) 27)).alloc (.cells (c4 0 0 0 (.slice none 0 0)) 27)) (w.heap.size + 1) 0 0 0 (.slice none 0 0) := Row.new1 w _ _ _
  have r0 : RowS ((w.alloc (.cells (c4 f c l v) 27)).alloc (.cells (c4 0 0 0 (.slice none 0 0)) 27)) w.heap.size f c l v := (Row.new w 27 (c4 f c l v)).alloc _
  have hv1 := Lib.hid (hv.below HB.out)
  clear hv
  go_enter Tryd.func14, Tryd.ntmps14
  go_wp2_with fail
  refine (c_sGoodSpan_yes f c l v zs _ hv1.out HS.out).mono ?_
  rintro e w1 ⟨rfl, hb1⟩
  have B1 := Lib.hid (bst HB.out hb1 HB.out.size)
  have s1 := Row.below s0 hb1
  have r1 := Row.below r0 hb1
  have v1 := Lib.hid (hv1.out.below hb1)
  clear hb1 s0 r0 hv1
  go_wp2_with (refine wl_loadU rfl _ rfl w.heap.size f c l v r1 rfl ?_)
  refine (c_next_none l v zs _ v1.out HS.out.2.2.2 L HLL.out HFP.out).mono ?_
  rintro e w2 ⟨rfl, hb2⟩
  have B2 := Lib.hid (bst B1.out hb2 B1.out.size)
  have s2 := Row.below s1 hb2
  clear hb2 s1 r1 v1 B1
  go_wp2_with (refine wl_storeS rfl _ _ rfl (w.heap.size + 1) 0 0 0 (.slice none 0 0) _ _ _ _ s2 rfl rfl rfl ?_)
  exact bodyPost_ret (res_row_slot2 Tryd.results14 (Row.put s2 (c4 0 0 0 (.slice none 0 0))) rfl rfl rfl Tryd.underlying27 rfl info_span) rfl ⟨rfl, below_setRow B2.out (by omega) _⟩

set_option maxHeartbeats 3200000 in
theorem c_sTakeSlot_yes (f c l : Int) (v : Value) (zs : List Int) (w : World) (hv : IntsAt w v zs) (hS : Sok f c l zs) (L : Nat) (hL : l = L) (p : Nat) (hfp : findP (fun k => !bitL zs k) 0 L = some p) : Calls Tryd.prog 14 #[sp f c l v] w fun e w' => ∃ v', e = .returned (.tuple #[sp f c l v', .int .i64 p, .bool true]) ∧ Own w' w.heap.size v' (setBit zs p true) ∧ Below w.heap.size w w' := by
  have HS := Lib.hid hS; have HFP := Lib.hid hfp; have HLL := Lib.hid hL
  have hp : (p : Int) < l := by have := (findP_some hfp).2.1; omega
  have HN4 : Hid (zs.length ≤ 1000) := by unfold Hid; have := hS.len; omega
  have HN0 : Hid (0 < zs.length) := by unfold Hid; have := hS.long; have := hS.2.2.2.2.2.1; omega
  have hpl : p < 16 * zs.length := by have := hS.2.2.2.2.2.1; omega
  have hz4 := hS.len
  clear hS hfp hL
  have HB := Lib.hid (((Below.refl w.heap.size w).alloc (Nat.le_refl _) (.cells (c4 f c l v) 27)).alloc (by simp) (.cells (c4 0 0 0 (.slice none 0 0)) 27))
  have s0 : RowS ((w.alloc (.cells (c4 f c l v) 27)).alloc (.cells (c4 0 0 0 (.slice none 0 0)) 27)) (w.heap.size + 1) 0 0 0 (.slice none 0 0) := Row.new1 w _ _ _
  have r0 : RowS ((w.alloc (.cells (c4 f c l v) 27)).alloc (.cells (c4 0 0 0 (.slice none 0 0)) 27)) w.heap.size f c l v := (Row.new w 27 (c4 f c l v)).alloc _
  have hv1 := Lib.hid (hv.below HB.out)
  clear hv
  go_enter Tryd.func14, Tryd.ntmps14
  go_wp2_with fail
  refine (c_sGoodSpan_yes f c l v zs _ hv1.out HS.out).mono ?_
  rintro e w1 ⟨rfl, hb1⟩
  have B1 := Lib.hid (bst HB.out hb1 HB.out.size)
  have s1 := Row.below s0 hb1
  have r1 := Row.below r0 hb1
  have v1 := Lib.hid (hv1.out.below hb1)
  clear hb1 s0 r0 hv1
  go_wp2_with (refine wl_loadU rfl _ rfl w.heap.size f c l v r1 rfl ?_)
  refine (c_next_some l v zs _ v1.out HS.out.2.2.2 L HLL.out p HFP.out).mono ?_
  rintro e w2 ⟨rfl, hb2⟩
  have B2 := Lib.hid (bst B1.out hb2 B1.out.size)
  have s2 := Row.below s1 hb2
  have r2 := Row.below r1 hb2
  have v2 := Lib.hid (v1.out.below hb2)
  clear hb2 s1 r1 v1 B1
  go_wp2_with (refine wl_loadS rfl _ rfl w.heap.size f c l v r2 rfl ?_)
  refine (c_l4Own f c l v zs _ v2.out HN4.out).mono ?_
  rintro e w3 ⟨v3, rfl, ho, hb3⟩
  obtain ⟨g, vc, hvs, hBg⟩ := ho.some HN0.out
  subst hvs
  generalize hm : zs.length = m at *
  have HM := Lib.hid hm; clear hm
  have hg3 : g < w3.heap.size := Own.lt_of ho
  have B3 := bst B2.out hb3 B2.out.size
  have B4 := Lib.hid (B3.alloc B3.size (.cells (c4 f c l (.slice (some ⟨g, 0, none⟩) m vc)) 27))
  have s3 := (Row.below s2 hb3).alloc (.cells (c4 f c l (.slice (some ⟨g, 0, none⟩) m vc)) 27)
  have x3 : RowS (w3.alloc (.cells (c4 f c l (.slice (some ⟨g, 0, none⟩) m vc)) 27)) w3.heap.size f c l (.slice (some ⟨g, 0, none⟩) m vc) := Row.new w3 _ _
  have O3 := Lib.hid ((ho.mono B2.out.size).below ((Below.refl _ _).alloc (Nat.le_refl _) (.cells (c4 f c l (.slice (some ⟨g, 0, none⟩) m vc)) 27)))
  have hs2 : w.heap.size + 1 < w2.heap.size := Row.lt s2
  clear ho hb3 B3 s2 r2 v2 B2
  go_wp2_with (refine wl_loadU rfl _ rfl w3.heap.size f c l (.slice (some ⟨g, 0, none⟩) m vc) x3 rfl ?_)
  refine (c_l2Set l g m vc zs p true _ _ O3.out (by rw [HM.out]; omega) (by rw [HM.out]; omega)).mono ?_
  rintro e w4 ⟨rfl, ho4, hg4⟩
  have s4 := Row.grownBy s3 hg4 (by simp; omega)
  have x4 := Row.grownBy x3 hg4 (by simp; omega)
  have B5 := Lib.hid (B4.out.grown hg4 B4.out.size (fun k hk => by simp at hk; omega))
  have O4 := Lib.hid ho4
  clear ho4 hg4 s3 x3 B4 O3
  generalize w3.heap.size = gx at *
  have HNE := Lib.hid (own_row_ne' O4.out s4)
  go_wp2_with (first
    | (refine wl_loadS rfl _ rfl gx f c l (.slice (some ⟨g, 0, none⟩) m vc) x4 rfl ?_)
    | (refine wl_storeS rfl _ _ rfl (w.heap.size + 1) f c l (.slice (some ⟨g, 0, none⟩) m vc) _ _ _ _ s4 rfl rfl rfl ?_))
  exact bodyPost_ret (res_row_slot2 Tryd.results14 (Row.put s4 (c4 f c l (.slice (some ⟨g, 0, none⟩) m vc))) rfl rfl rfl Tryd.underlying27 rfl info_span) rfl ⟨_, rfl, Own.put O4.out _ _ HNE.out, below_setRow B5.out (by omega) _⟩

set_option maxHeartbeats 1600000 in
theorem c_l4Slot_bad (f c l : Int) (v : Value) (zs : List Int) (s : Int) (w : World) (hv : IntsAt w v zs) (hS : ¬ Sok f c l zs) : Calls Tryd.prog 70 #[sp f c l v, .int .i64 s] w fun e w' => e = .returned (.bool false) ∧ Below w.heap.size w w' := by
  have HB := Lib.hid ((Below.refl w.heap.size w).alloc (Nat.le_refl _) (.cells (c4 f c l v) 27))
  have hv1 := Lib.hid (hv.below HB.out)
  clear hv
  go_enter Tryd.func70, Tryd.ntmps70
  go_wp2_with fail
  refine (c_sGoodSpan_no f c l v zs _ hv1.out hS).mono ?_
  rintro e w1 ⟨rfl, hb1⟩
  have B1 := Lib.hid (bst HB.out hb1 HB.out.size)
  clear hb1
  go_wp2
  go_ret
  exact ⟨rfl, B1.out⟩

set_option maxHeartbeats 1600000 in
theorem c_l4Slot_in (f c l : Int) (v : Value) (zs : List Int) (s : Int) (w : World) (hv : IntsAt w v zs) (hS : Sok f c l zs) (hs : 0 ≤ s ∧ s < l) : Calls Tryd.prog 70 #[sp f c l v, .int .i64 s] w fun e w' => e = .returned (.bool true) ∧ Below w.heap.size w w' := by
  have HB := Lib.hid ((Below.refl w.heap.size w).alloc (Nat.le_refl _) (.cells (c4 f c l v) 27))
  have hv1 := Lib.hid (hv.below HB.out)
  have r0 : RowS (w.alloc (.cells (c4 f c l v) 27)) w.heap.size f c l v := Row.new w _ _
  have hll := hS.long
  have HS := Lib.hid hS
  have HH := Lib.hid hs
  have i1 : IntKind.i64.wrap (l - 1) = l - 1 := IntWalk.i64_in _ (by omega)
  clear hv hS hs
  go_enter Tryd.func70, Tryd.ntmps70
  go_wp2_with fail
  refine (c_sGoodSpan_yes f c l v zs _ hv1.out HS.out).mono ?_
  rintro e w1 ⟨rfl, hb1⟩
  have B1 := Lib.hid (bst HB.out hb1 HB.out.size)
  have q2 := RowS.c2 (Row.below r0 hb1)
  clear hb1 r0 hv1
  go_wp2_with fail
  refine (c_in_yes s 0 (l - 1) _ (by have := HH.out; omega)).mono ?_
  rintro e w2 ⟨rfl, rfl⟩
  go_wp2
  go_ret
  exact ⟨rfl, B1.out⟩

set_option maxHeartbeats 1600000 in
theorem c_l4Slot_out (f c l : Int) (v : Value) (zs : List Int) (s : Int) (w : World) (hv : IntsAt w v zs) (hS : Sok f c l zs) (hs : ¬ (0 ≤ s ∧ s < l)) : Calls Tryd.prog 70 #[sp f c l v, .int .i64 s] w fun e w' => e = .returned (.bool false) ∧ Below w.heap.size w w' := by
  have HB := Lib.hid ((Below.refl w.heap.size w).alloc (Nat.le_refl _) (.cells (c4 f c l v) 27))
  have hv1 := Lib.hid (hv.below HB.out)
  have r0 : RowS (w.alloc (.cells (c4 f c l v) 27)) w.heap.size f c l v := Row.new w _ _
  have hll := hS.long
  have HS := Lib.hid hS
  have HH := Lib.hid hs
  have i1 : IntKind.i64.wrap (l - 1) = l - 1 := IntWalk.i64_in _ (by omega)
  clear hv hS hs
  go_enter Tryd.func70, Tryd.ntmps70
  go_wp2_with fail
  refine (c_sGoodSpan_yes f c l v zs _ hv1.out HS.out).mono ?_
  rintro e w1 ⟨rfl, hb1⟩
  have B1 := Lib.hid (bst HB.out hb1 HB.out.size)
  have q2 := RowS.c2 (Row.below r0 hb1)
  clear hb1 r0 hv1
  go_wp2_with fail
  refine (c_in_no s 0 (l - 1) _ (by have := HH.out; omega)).mono ?_
  rintro e w2 ⟨rfl, rfl⟩
  go_wp2
  go_ret
  exact ⟨rfl, B1.out⟩


set_option maxHeartbeats 1600000 in
theorem c_sFreeSlot_bad (f c l : Int) (v : Value) (zs : List Int) (s : Int) (w : World) (hv : IntsAt w v zs) (hS : ¬ Sok f c l zs) : Calls Tryd.prog 26 #[sp f c l v, .int .i64 s] w fun e w' => e = .returned (.tuple #[sp 0 0 0 (.slice none 0 0), .bool false]) ∧ Below w.heap.size w w' := by
  have HS := Lib.hid hS; clear hS
  skip
  have HB := Lib.hid (((Below.refl w.heap.size w).alloc (Nat.le_refl _) (.cells (c4 f c l v) 27)).alloc (by simp) (.cells (c4 0 0 0 (.slice none 0 0)) 27))
  have s0 : RowS ((w.alloc (.cells (c4 f c l v) 27)).alloc (.cells (c4 0 0 0 (.slice none 0 0)) 27)) (w.heap.size + 1) 0 0 0 (.slice none 0 0) := Row.new1 w _ _ _
  have r0 : RowS ((w.alloc (.cells (c4 f c l v) 27)).alloc (.cells (c4 0 0 0 (.slice none 0 0)) 27)) w.heap.size f c l v := (Row.new w 27 (c4 f c l v)).alloc _
  have hv1 := Lib.hid (hv.below HB.out)
  clear hv
  go_enter Tryd.func26, Tryd.ntmps26
  go_wp2_with fail
  refine (c_l4Slot_bad f c l v zs s _ hv1.out HS.out).mono ?_
  rintro e w1 ⟨rfl, hb1⟩
  have B1 := Lib.hid (bst HB.out hb1 HB.out.size)
  have s1 := Row.below s0 hb1
  clear hb1 s0 r0 hv1
  go_wp2_with (refine wl_storeS rfl _ _ rfl (w.heap.size + 1) 0 0 0 (.slice none 0 0) _ _ _ _ s1 rfl rfl rfl ?_)
  exact bodyPost_ret (res_row_slot Tryd.results26 (Row.put s1 (c4 0 0 0 (.slice none 0 0))) rfl rfl Tryd.underlying27 rfl info_span) rfl ⟨rfl, below_setRow B1.out (by omega) _⟩

set_option maxHeartbeats 1600000 in
theorem c_sFreeSlot_out (f c l : Int) (v : Value) (zs : List Int) (s : Int) (w : World) (hv : IntsAt w v zs) (hS : Sok f c l zs) (hs : ¬ (0 ≤ s ∧ s < l)) : Calls Tryd.prog 26 #[sp f c l v, .int .i64 s] w fun e w' => e = .returned (.tuple #[sp 0 0 0 (.slice none 0 0), .bool false]) ∧ Below w.heap.size w w' := by
  have HS := Lib.hid hS; clear hS
  have HH := Lib.hid hs; clear hs
  have HB := Lib.hid (((Below.refl w.heap.size w).alloc (Nat.le_refl _) (.cells (c4 f c l v) 27)).alloc (by simp) (.cells (c4 0 0 0 (.slice none 0 0)) 27))
  have s0 : RowS ((w.alloc (.cells (c4 f c l v) 27)).alloc (.cells (c4 0 0 0 (.slice none 0 0)) 27)) (w.heap.size + 1) 0 0 0 (.slice none 0 0) := Row.new1 w _ _ _
  have r0 : RowS ((w.alloc (.cells (c4 f c l v) 27)).alloc (.cells (c4 0 0 0 (.slice none 0 0)) 27)) w.heap.size f c l v := (Row.new w 27 (c4 f c l v)).alloc _
  have hv1 := Lib.hid (hv.below HB.out)
  clear hv
  go_enter Tryd.func26, Tryd.ntmps26
  go_wp2_with fail
  refine (c_l4Slot_out f c l v zs s _ hv1.out HS.out HH.out).mono ?_
  rintro e w1 ⟨rfl, hb1⟩
  have B1 := Lib.hid (bst HB.out hb1 HB.out.size)
  have s1 := Row.below s0 hb1
  clear hb1 s0 r0 hv1
  go_wp2_with (refine wl_storeS rfl _ _ rfl (w.heap.size + 1) 0 0 0 (.slice none 0 0) _ _ _ _ s1 rfl rfl rfl ?_)
  exact bodyPost_ret (res_row_slot Tryd.results26 (Row.put s1 (c4 0 0 0 (.slice none 0 0))) rfl rfl Tryd.underlying27 rfl info_span) rfl ⟨rfl, below_setRow B1.out (by omega) _⟩

set_option maxHeartbeats 3200000 in
theorem c_sFreeSlot_unused (f c l : Int) (v : Value) (zs : List Int) (p : Nat) (w : World) (hv : IntsAt w v zs) (hS : Sok f c l zs) (hp : (p : Int) < l) (hu : bitL zs p = false) : Calls Tryd.prog 26 #[sp f c l v, .int .i64 p] w fun e w' => e = .returned (.tuple #[sp 0 0 0 (.slice none 0 0), .bool false]) ∧ Below w.heap.size w w' := by
  have HS := Lib.hid hS; have HU := Lib.hid hu
  have HW := Lib.hid (hS.2.2.2.w (p / 16))
  have HN4 : Hid (zs.length ≤ 1000) := by unfold Hid; have := hS.len; omega
  have HN0 : Hid (0 < zs.length) := by unfold Hid; have := hS.long; have := hS.2.2.2.2.2.1; omega
  have hpl : p < 16 * zs.length := by have := hS.2.2.2.2.2.1; omega
  have hz4 := hS.len
  clear hS hu
  have HB := Lib.hid (((Below.refl w.heap.size w).alloc (Nat.le_refl _) (.cells (c4 f c l v) 27)).alloc (by simp) (.cells (c4 0 0 0 (.slice none 0 0)) 27))
  have s0 : RowS ((w.alloc (.cells (c4 f c l v) 27)).alloc (.cells (c4 0 0 0 (.slice none 0 0)) 27)) (w.heap.size + 1) 0 0 0 (.slice none 0 0) := Row.new1 w _ _ _
  have r0 : RowS ((w.alloc (.cells (c4 f c l v) 27)).alloc (.cells (c4 0 0 0 (.slice none 0 0)) 27)) w.heap.size f c l v := (Row.new w 27 (c4 f c l v)).alloc _
  have hv1 := Lib.hid (hv.below HB.out)
  clear hv
  go_enter Tryd.func26, Tryd.ntmps26
  go_wp2_with fail
  refine (c_l4Slot_in f c l v zs p _ hv1.out HS.out ⟨by omega, hp⟩).mono ?_
  rintro e w1 ⟨rfl, hb1⟩
  have B1 := Lib.hid (bst HB.out hb1 HB.out.size)
  have s1 := Row.below s0 hb1
  have r1 := Row.below r0 hb1
  have v1 := Lib.hid (hv1.out.below hb1)
  have q2 := RowS.c2 r1
  have q3 := RowS.c3 r1
  clear hb1 s0 r0 hv1
  go_wp2_with fail
  refine (c_l2Is l v zs p _ v1.out (by have := HN4.out; omega) hpl HW.out).mono ?_
  rintro e w2 ⟨rfl, hb2⟩
  rw [HU.out]
  have B2 := Lib.hid (bst B1.out hb2 B1.out.size)
  have s2 := Row.below s1 hb2
  have r2 := Row.below r1 hb2
  have v2 := Lib.hid (v1.out.below hb2)
  clear hb2 s1 r1 v1 B1 q2 q3
  go_wp2_with (refine wl_storeS rfl _ _ rfl (w.heap.size + 1) 0 0 0 (.slice none 0 0) _ _ _ _ s2 rfl rfl rfl ?_)
  exact bodyPost_ret (res_row_slot Tryd.results26 (Row.put s2 (c4 0 0 0 (.slice none 0 0))) rfl rfl Tryd.underlying27 rfl info_span) rfl ⟨rfl, below_setRow B2.out (by omega) _⟩

set_option maxHeartbeats 3200000 in
theorem c_sFreeSlot_yes (f c l : Int) (v : Value) (zs : List Int) (p : Nat) (w : World) (hv : IntsAt w v zs) (hS : Sok f c l zs) (hp : (p : Int) < l) (hu : bitL zs p = true) : Calls Tryd.prog 26 #[sp f c l v, .int .i64 p] w fun e w' => ∃ v', e = .returned (.tuple #[sp f c l v', .bool true]) ∧ Own w' w.heap.size v' (setBit zs p false) ∧ Below w.heap.size w w' := by
  have HS := Lib.hid hS; have HU := Lib.hid hu
  have HW := Lib.hid (hS.2.2.2.w (p / 16))
  have HN4 : Hid (zs.length ≤ 1000) := by unfold Hid; have := hS.len; omega
  have HN0 : Hid (0 < zs.length) := by unfold Hid; have := hS.long; have := hS.2.2.2.2.2.1; omega
  have hpl : p < 16 * zs.length := by have := hS.2.2.2.2.2.1; omega
  have hz4 := hS.len
  clear hS hu
  have HB := Lib.hid (((Below.refl w.heap.size w).alloc (Nat.le_refl _) (.cells (c4 f c l v) 27)).alloc (by simp) (.cells (c4 0 0 0 (.slice none 0 0)) 27))
  have s0 : RowS ((w.alloc (.cells (c4 f c l v) 27)).alloc (.cells (c4 0 0 0 (.slice none 0 0)) 27)) (w.heap.size + 1) 0 0 0 (.slice none 0 0) := Row.new1 w _ _ _
  have r0 : RowS ((w.alloc (.cells (c4 f c l v) 27)).alloc (.cells (c4 0 0 0 (.slice none 0 0)) 27)) w.heap.size f c l v := (Row.new w 27 (c4 f c l v)).alloc _
  have hv1 := Lib.hid (hv.below HB.out)
  clear hv
  go_enter Tryd.func26, Tryd.ntmps26
  go_wp2_with fail
  refine (c_l4Slot_in f c l v zs p _ hv1.out HS.out ⟨by omega, hp⟩).mono ?_
  rintro e w1 ⟨rfl, hb1⟩
  have B1 := Lib.hid (bst HB.out hb1 HB.out.size)
  have s1 := Row.below s0 hb1
  have r1 := Row.below r0 hb1
  have v1 := Lib.hid (hv1.out.below hb1)
  have q2 := RowS.c2 r1
  have q3 := RowS.c3 r1
  clear hb1 s0 r0 hv1
  go_wp2_with fail
  refine (c_l2Is l v zs p _ v1.out (by have := HN4.out; omega) hpl HW.out).mono ?_
  rintro e w2 ⟨rfl, hb2⟩
  rw [HU.out]
  have B2 := Lib.hid (bst B1.out hb2 B1.out.size)
  have s2 := Row.below s1 hb2
  have r2 := Row.below r1 hb2
  have v2 := Lib.hid (v1.out.below hb2)
  clear hb2 s1 r1 v1 B1 q2 q3
  go_wp2_with (refine wl_loadS rfl _ rfl w.heap.size f c l v r2 rfl ?_)
  refine (c_l4Own f c l v zs _ v2.out HN4.out).mono ?_
  rintro e w3 ⟨v3, rfl, ho, hb3⟩
  obtain ⟨g, vc, hvs, hBg⟩ := ho.some HN0.out
  subst hvs
  generalize hm : zs.length = m at *
  have HM := Lib.hid hm; clear hm
  have hg3 : g < w3.heap.size := Own.lt_of ho
  have B3 := bst B2.out hb3 B2.out.size
  have B4 := Lib.hid (B3.alloc B3.size (.cells (c4 f c l (.slice (some ⟨g, 0, none⟩) m vc)) 27))
  have s3 := (Row.below s2 hb3).alloc (.cells (c4 f c l (.slice (some ⟨g, 0, none⟩) m vc)) 27)
  have x3 : RowS (w3.alloc (.cells (c4 f c l (.slice (some ⟨g, 0, none⟩) m vc)) 27)) w3.heap.size f c l (.slice (some ⟨g, 0, none⟩) m vc) := Row.new w3 _ _
  have O3 := Lib.hid ((ho.mono B2.out.size).below ((Below.refl _ _).alloc (Nat.le_refl _) (.cells (c4 f c l (.slice (some ⟨g, 0, none⟩) m vc)) 27)))
  have hs2 : w.heap.size + 1 < w2.heap.size := Row.lt s2
  clear ho hb3 B3 s2 r2 v2 B2
  go_wp2_with (refine wl_loadU rfl _ rfl w3.heap.size f c l (.slice (some ⟨g, 0, none⟩) m vc) x3 rfl ?_)
  refine (c_l2Set l g m vc zs p false _ _ O3.out (by rw [HM.out]; omega) (by rw [HM.out]; omega)).mono ?_
  rintro e w4 ⟨rfl, ho4, hg4⟩
  have s4 := Row.grownBy s3 hg4 (by simp; omega)
  have x4 := Row.grownBy x3 hg4 (by simp; omega)
  have B5 := Lib.hid (B4.out.grown hg4 B4.out.size (fun k hk => by simp at hk; omega))
  have O4 := Lib.hid ho4
  clear ho4 hg4 s3 x3 B4 O3
  generalize w3.heap.size = gx at *
  have HNE := Lib.hid (own_row_ne' O4.out s4)
  go_wp2_with (first
    | (refine wl_loadS rfl _ rfl gx f c l (.slice (some ⟨g, 0, none⟩) m vc) x4 rfl ?_)
    | (refine wl_storeS rfl _ _ rfl (w.heap.size + 1) f c l (.slice (some ⟨g, 0, none⟩) m vc) _ _ _ _ s4 rfl rfl rfl ?_))
  exact bodyPost_ret (res_row_slot Tryd.results26 (Row.put s4 (c4 f c l (.slice (some ⟨g, 0, none⟩) m vc))) rfl rfl Tryd.underlying27 rfl info_span) rfl ⟨_, rfl, Own.put O4.out _ _ HNE.out, below_setRow B5.out (by omega) _⟩

end Go.Proofs.YtcelebblcjhpaaaDoor
