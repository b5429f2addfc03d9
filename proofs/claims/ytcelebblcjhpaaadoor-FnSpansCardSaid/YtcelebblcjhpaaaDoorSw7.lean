/- The project's sweep of a span. -/
import Derived.Test.YtcelebblcjhpaaaDoorSw6
import Derived.Test.YtcelebblcjhpaaaDoorBw4
namespace Go.Proofs.YtcelebblcjhpaaaDoor
open Go.RowKit Pb

theorem wl_storeTW {ops : Array Oper} {rest : List Oper} {o : Oper} {a : Act} {w : World} {Q : Exit → Act → World → Prop} (hgd : o.guard = none) (x y : Operand) (ho : o.op = .store 69 x y) (g : Nat) (f c z n : Int) (F G : Nat → Int) (hg : RowT w g f c z n F)
    (hx : a.eval x = .pointer (some ⟨g, 4, none⟩)) (hy : a.eval y = a6 G) (h : wpList Tryd.prog ops Q rest (a.put o.dst undef) (six4 w g G)) : wpList Tryd.prog ops Q (o :: rest) a w :=
  wpList_store_mid hgd 69 x y ho g 4 (c6 G) hx hy (fun j hj => ⟨by rw [RowT.cw hg (show j < 6 from hj)]; rfl, Row.frozen hg (4 + j)⟩) info_bw (by simp [Value.oneCell']) h

set_option maxHeartbeats 3200000 in
set_option maxRecDepth 100000 in
theorem c_iSweep_bad (f c l : Int) (v : Value) (zs : List Int) (m : Int) (u : Value) (ys : List Int) (w : World) (hT : TabW w) (hv : IntsAt w v zs) (hu : IntsAt w u ys) (hS : ¬ Sok f c l zs) : Calls Tryd.prog 32 #[sp f c l v, bm m u] w fun e w' => e = .returned (.tuple #[sp 0 0 0 (.slice none 0 0), .int .i64 0, .bool false]) ∧ Below w.heap.size w w' := by
  have HB := Lib.hid ((((Below.refl w.heap.size w).alloc (Nat.le_refl _) (.cells (c4 f c l v) 27)).alloc (by simp) (.cells (cb m u) 25)).alloc (by simp; omega) (.cells (c4 0 0 0 (.slice none 0 0)) 27))
  have s0 : RowS (((w.alloc (.cells (c4 f c l v) 27)).alloc (.cells (cb m u) 25)).alloc (.cells (c4 0 0 0 (.slice none 0 0)) 27)) (w.heap.size + 1 + 1) 0 0 0 (.slice none 0 0) := Row.new2 w _ _ _ _
  have b0 : RowB (((w.alloc (.cells (c4 f c l v) 27)).alloc (.cells (cb m u) 25)).alloc (.cells (c4 0 0 0 (.slice none 0 0)) 27)) (w.heap.size + 1) m u := (Row.new1 w _ _ _).alloc _
  have hT1 := Lib.hid (hT.below HB.out hT.pos)
  have hv1 := Lib.hid (hv.below HB.out)
  have hu1 := Lib.hid (hu.below HB.out)
  clear hT hv hu
  go_enter Tryd.func32, Tryd.ntmps32
  go_wp2_with fail
  refine (c_stateOf_no f c l v zs _ hT1.out hv1.out hS).mono ?_
  rintro e w1 ⟨rfl, hb1⟩
  have B0 := bst HB.out hb1 HB.out.size
  have B1 := Lib.hid (B0.alloc B0.size (.cells (c10 0 0 0 0 fun _ => 0) 71))
  have s1 := (Row.below s0 hb1).alloc (.cells (c10 0 0 0 0 fun _ => 0) 71)
  clear hb1 B0 hT1 hv1 s0 b0
  go_wp2_with (refine wl_storeS rfl _ _ rfl (w.heap.size + 1 + 1) 0 0 0 (.slice none 0 0) _ _ _ _ s1 rfl rfl rfl ?_)
  exact bodyPost_ret (res_row_slot2 Tryd.results32 (Row.put s1 (c4 0 0 0 (.slice none 0 0))) rfl rfl rfl Tryd.underlying27 rfl info_span) rfl ⟨rfl, below_setRow B1.out (by omega) _⟩

set_option maxHeartbeats 3200000 in
set_option maxRecDepth 100000 in
theorem c_iSweep_marks (f c l : Int) (v : Value) (zs : List Int) (m : Int) (u : Value) (ys : List Int) (w : World) (hT : TabW w) (hv : IntsAt w v zs) (hu : IntsAt w u ys) (hS : Sok f c l zs) (hM : ¬ Bok m ys) : Calls Tryd.prog 32 #[sp f c l v, bm m u] w fun e w' => e = .returned (.tuple #[sp 0 0 0 (.slice none 0 0), .int .i64 0, .bool false]) ∧ Below w.heap.size w w' := by
  have HB := Lib.hid ((((Below.refl w.heap.size w).alloc (Nat.le_refl _) (.cells (c4 f c l v) 27)).alloc (by simp) (.cells (cb m u) 25)).alloc (by simp; omega) (.cells (c4 0 0 0 (.slice none 0 0)) 27))
  have s0 : RowS (((w.alloc (.cells (c4 f c l v) 27)).alloc (.cells (cb m u) 25)).alloc (.cells (c4 0 0 0 (.slice none 0 0)) 27)) (w.heap.size + 1 + 1) 0 0 0 (.slice none 0 0) := Row.new2 w _ _ _ _
  have b0 : RowB (((w.alloc (.cells (c4 f c l v) 27)).alloc (.cells (cb m u) 25)).alloc (.cells (c4 0 0 0 (.slice none 0 0)) 27)) (w.heap.size + 1) m u := (Row.new1 w _ _ _).alloc _
  have hT1 := Lib.hid (hT.below HB.out hT.pos)
  have hv1 := Lib.hid (hv.below HB.out)
  have hu1 := Lib.hid (hu.below HB.out)
  clear hT hv hu
  obtain ⟨F, hF⟩ : ∃ F : Nat → Int, F = fun k => zs.getD k 0 := ⟨_, rfl⟩
  have HF := Lib.hid hF
  clear hF
  have hll := hS.long
  have HS := Lib.hid hS
  generalize hz : Pl.szOf c = z
  have HZ := Lib.hid hz
  have HLEN := Lib.hid (sok_two hS)
  clear hz hS
  have HM := Lib.hid hM; clear hM
  go_enter Tryd.func32, Tryd.ntmps32
  go_wp2_with fail
  refine (c_stateOf_yes f c l v zs F HF.out _ hT1.out hv1.out HS.out).mono ?_
  rintro e w1 ⟨rfl, hb1⟩
  rw [HZ.out]
  have B0 := bst HB.out hb1 HB.out.size
  have B1 := Lib.hid (B0.alloc B0.size (.cells (c10 f c z l F) 71))
  have t1 : RowT (w1.alloc (.cells (c10 f c z l F) 71)) w1.heap.size f c z l F := Row.new w1 _ _
  have s1 := (Row.below s0 hb1).alloc (.cells (c10 f c z l F) 71)
  have b1 := (Row.below b0 hb1).alloc (.cells (c10 f c z l F) 71)
  have hlt : w.heap.size + 1 + 1 < w1.heap.size := Row.lt (Row.below s0 hb1)
  have u1 := Lib.hid ((hu1.out.below hb1).below ((Below.refl _ _).alloc (Nat.le_refl _) (.cells (c10 f c z l F) 71)))
  clear hb1 B0 hT1 hv1 s0 b0 hu1
  go_wp2_with (refine wl_loadB rfl _ rfl (w.heap.size + 1) m u b1 rfl ?_)
  refine (c_wordsOf_no m u ys _ u1.out HM.out).mono ?_
  rintro e w2 ⟨rfl, hb2⟩
  have B2 := bst B1.out hb2 B1.out.size
  have B3 := Lib.hid (B2.alloc B2.size (.cells (c6 fun _ => 0) 69))
  have s3 := (Row.below s1 hb2).alloc (.cells (c6 fun _ => 0) 69)
  clear hb2 t1 s1 b1 B2 u1
  go_wp2_with (refine wl_storeS rfl _ _ rfl (w.heap.size + 1 + 1) 0 0 0 (.slice none 0 0) _ _ _ _ s3 rfl rfl rfl ?_)
  exact bodyPost_ret (res_row_slot2 Tryd.results32 (Row.put s3 (c4 0 0 0 (.slice none 0 0))) rfl rfl rfl Tryd.underlying27 rfl info_span) rfl ⟨rfl, below_setRow B3.out (by omega) _⟩

set_option maxHeartbeats 3200000 in
set_option maxRecDepth 100000 in
theorem c_iSweep_long (f c l : Int) (v : Value) (zs : List Int) (m : Int) (u : Value) (ys : List Int) (w : World) (hT : TabW w) (hv : IntsAt w v zs) (hu : IntsAt w u ys) (hS : Sok f c l zs) (hM : Bok m ys) (hml : m ≠ l) : Calls Tryd.prog 32 #[sp f c l v, bm m u] w fun e w' => e = .returned (.tuple #[sp 0 0 0 (.slice none 0 0), .int .i64 0, .bool false]) ∧ Below w.heap.size w w' := by
  have HB := Lib.hid ((((Below.refl w.heap.size w).alloc (Nat.le_refl _) (.cells (c4 f c l v) 27)).alloc (by simp) (.cells (cb m u) 25)).alloc (by simp; omega) (.cells (c4 0 0 0 (.slice none 0 0)) 27))
  have s0 : RowS (((w.alloc (.cells (c4 f c l v) 27)).alloc (.cells (cb m u) 25)).alloc (.cells (c4 0 0 0 (.slice none 0 0)) 27)) (w.heap.size + 1 + 1) 0 0 0 (.slice none 0 0) := Row.new2 w _ _ _ _
  have b0 : RowB (((w.alloc (.cells (c4 f c l v) 27)).alloc (.cells (cb m u) 25)).alloc (.cells (c4 0 0 0 (.slice none 0 0)) 27)) (w.heap.size + 1) m u := (Row.new1 w _ _ _).alloc _
  have hT1 := Lib.hid (hT.below HB.out hT.pos)
  have hv1 := Lib.hid (hv.below HB.out)
  have hu1 := Lib.hid (hu.below HB.out)
  clear hT hv hu
  obtain ⟨F, hF⟩ : ∃ F : Nat → Int, F = fun k => zs.getD k 0 := ⟨_, rfl⟩
  have HF := Lib.hid hF
  clear hF
  have hll := hS.long
  have HS := Lib.hid hS
  generalize hz : Pl.szOf c = z
  have HZ := Lib.hid hz
  have HLEN := Lib.hid (sok_two hS)
  clear hz hS
  obtain ⟨K, hK⟩ : ∃ K : Nat → Int, K = fun k => ys.getD k 0 := ⟨_, rfl⟩
  have HK := Lib.hid hK
  have HM := Lib.hid hM; clear hM
  clear hK
  have hne : (m != l) = true := by rw [bne_iff_ne]; exact hml
  clear hml
  go_enter Tryd.func32, Tryd.ntmps32
  go_wp2_with fail
  refine (c_stateOf_yes f c l v zs F HF.out _ hT1.out hv1.out HS.out).mono ?_
  rintro e w1 ⟨rfl, hb1⟩
  rw [HZ.out]
  have B0 := bst HB.out hb1 HB.out.size
  have B1 := Lib.hid (B0.alloc B0.size (.cells (c10 f c z l F) 71))
  have t1 : RowT (w1.alloc (.cells (c10 f c z l F) 71)) w1.heap.size f c z l F := Row.new w1 _ _
  have s1 := (Row.below s0 hb1).alloc (.cells (c10 f c z l F) 71)
  have b1 := (Row.below b0 hb1).alloc (.cells (c10 f c z l F) 71)
  have hlt : w.heap.size + 1 + 1 < w1.heap.size := Row.lt (Row.below s0 hb1)
  have u1 := Lib.hid ((hu1.out.below hb1).below ((Below.refl _ _).alloc (Nat.le_refl _) (.cells (c10 f c z l F) 71)))
  clear hb1 B0 hT1 hv1 s0 b0 hu1
  go_wp2_with (refine wl_loadB rfl _ rfl (w.heap.size + 1) m u b1 rfl ?_)
  refine (c_wordsOf_yes m u ys K HK.out _ u1.out HM.out).mono ?_
  rintro e w2 ⟨rfl, hb2⟩
  have B2 := bst B1.out hb2 B1.out.size
  have B3 := Lib.hid (B2.alloc B2.size (.cells (c6 K) 69))
  have s3 := (Row.below s1 hb2).alloc (.cells (c6 K) 69)
  have t3 := (Row.below t1 hb2).alloc (.cells (c6 K) 69)
  have x3 : Blk (w2.alloc (.cells (c6 K) 69)) w2.heap.size K := Row.new w2 _ _
  have q0 := RowB.c0 (Row.below b1 hb2)
  have q3 := Row.cell (Row.below t1 hb2) 3
  have hlt2 : w1.heap.size < w2.heap.size := Row.lt (Row.below t1 hb2)
  have hlt3 : w.heap.size + 1 < w2.heap.size := by omega
  clear hb2 t1 s1 b1 B2 u1 B1
  go_wp2_with (refine wl_storeS rfl _ _ rfl (w.heap.size + 1 + 1) 0 0 0 (.slice none 0 0) _ _ _ _ s3 rfl rfl rfl ?_)
  exact bodyPost_ret (res_row_slot2 Tryd.results32 (Row.put s3 (c4 0 0 0 (.slice none 0 0))) rfl rfl rfl Tryd.underlying27 rfl info_span) rfl ⟨rfl, below_setRow B3.out (by omega) _⟩

set_option maxHeartbeats 3200000 in
set_option maxRecDepth 100000 in
theorem c_iSweep_yes (f c l : Int) (v : Value) (zs : List Int) (m : Int) (u : Value) (ys : List Int) (w : World) (hT : TabW w) (hv : IntsAt w v zs) (hu : IntsAt w u ys) (hS : Sok f c l zs) (hM : Bok m ys) (hml : m = l) (fr : Int) (hfr : fr = countTo (bitF fun k => bits .andNot .u16 (zs.getD k 0) (ys.getD k 0)) 96) : Calls Tryd.prog 32 #[sp f c l v, bm m u] w fun e w' => ∃ v', e = .returned (.tuple #[sp f c l v', .int .i64 fr, .bool true]) ∧ Own w' w.heap.size v' (wl zs.length fun k => bits .and .u16 (zs.getD k 0) (ys.getD k 0)) ∧ Below w.heap.size w w' := by
  have HB := Lib.hid ((((Below.refl w.heap.size w).alloc (Nat.le_refl _) (.cells (c4 f c l v) 27)).alloc (by simp) (.cells (cb m u) 25)).alloc (by simp; omega) (.cells (c4 0 0 0 (.slice none 0 0)) 27))
  have s0 : RowS (((w.alloc (.cells (c4 f c l v) 27)).alloc (.cells (cb m u) 25)).alloc (.cells (c4 0 0 0 (.slice none 0 0)) 27)) (w.heap.size + 1 + 1) 0 0 0 (.slice none 0 0) := Row.new2 w _ _ _ _
  have b0 : RowB (((w.alloc (.cells (c4 f c l v) 27)).alloc (.cells (cb m u) 25)).alloc (.cells (c4 0 0 0 (.slice none 0 0)) 27)) (w.heap.size + 1) m u := (Row.new1 w _ _ _).alloc _
  have hT1 := Lib.hid (hT.below HB.out hT.pos)
  have hv1 := Lib.hid (hv.below HB.out)
  have hu1 := Lib.hid (hu.below HB.out)
  clear hT hv hu
  obtain ⟨F, hF⟩ : ∃ F : Nat → Int, F = fun k => zs.getD k 0 := ⟨_, rfl⟩
  have HF := Lib.hid hF
  clear hF
  have hll := hS.long
  have HS := Lib.hid hS
  generalize hz : Pl.szOf c = z
  have HZ := Lib.hid hz
  have HLEN := Lib.hid (sok_two hS)
  clear hz hS
  obtain ⟨K, hK⟩ : ∃ K : Nat → Int, K = fun k => ys.getD k 0 := ⟨_, rfl⟩
  have HK := Lib.hid hK
  have HM := Lib.hid hM; clear hM
  obtain ⟨D, hD⟩ : ∃ D : Nat → Int, D = fun k => bits .andNot .u16 (F k) (K k) := ⟨_, rfl⟩
  obtain ⟨G, hG⟩ : ∃ G : Nat → Int, G = fun k => bits .and .u16 (F k) (K k) := ⟨_, rfl⟩
  have HD := Lib.hid hD; have HGD := Lib.hid hG
  have DW : Hid (∀ k, k < 6 → W16 (D k)) := fun k _ => by rw [hD]; exact w_andNot _ _
  have HGB : Hid (∀ k, k < 6 → 0 ≤ G k ∧ G k ≤ 65535) := fun k _ => by rw [hG]; exact w16_two (w_and _ _)
  have HFR : Hid (countTo (bitF D) 96 = fr) := by unfold Hid; rw [hfr, hD, hK, HF.out]
  have HGW : Hid (wl zs.length G = wl zs.length fun k => bits .and .u16 (zs.getD k 0) (ys.getD k 0)) := by unfold Hid; rw [hG, hK, HF.out]
  rw [← HGW.out]
  clear hK hD hG hfr HGW
  have hne : (m != l) = false := by rw [hml]; simp
  clear hml
  generalize hrs : wl zs.length G = rs
  have HRS := Lib.hid hrs; clear hrs
  go_enter Tryd.func32, Tryd.ntmps32
  go_wp2_with fail
  refine (c_stateOf_yes f c l v zs F HF.out _ hT1.out hv1.out HS.out).mono ?_
  rintro e w1 ⟨rfl, hb1⟩
  rw [HZ.out]
  have B0 := bst HB.out hb1 HB.out.size
  have B1 := Lib.hid (B0.alloc B0.size (.cells (c10 f c z l F) 71))
  have t1 : RowT (w1.alloc (.cells (c10 f c z l F) 71)) w1.heap.size f c z l F := Row.new w1 _ _
  have s1 := (Row.below s0 hb1).alloc (.cells (c10 f c z l F) 71)
  have b1 := (Row.below b0 hb1).alloc (.cells (c10 f c z l F) 71)
  have hlt : w.heap.size + 1 + 1 < w1.heap.size := Row.lt (Row.below s0 hb1)
  have u1 := Lib.hid ((hu1.out.below hb1).below ((Below.refl _ _).alloc (Nat.le_refl _) (.cells (c10 f c z l F) 71)))
  clear hb1 B0 hT1 hv1 s0 b0 hu1
  go_wp2_with (refine wl_loadB rfl _ rfl (w.heap.size + 1) m u b1 rfl ?_)
  refine (c_wordsOf_yes m u ys K HK.out _ u1.out HM.out).mono ?_
  rintro e w2 ⟨rfl, hb2⟩
  have B2 := bst B1.out hb2 B1.out.size
  have B3 := Lib.hid (B2.alloc B2.size (.cells (c6 K) 69))
  have s3 := (Row.below s1 hb2).alloc (.cells (c6 K) 69)
  have t3 := (Row.below t1 hb2).alloc (.cells (c6 K) 69)
  have x3 : Blk (w2.alloc (.cells (c6 K) 69)) w2.heap.size K := Row.new w2 _ _
  have q0 := RowB.c0 (Row.below b1 hb2)
  have q3 := Row.cell (Row.below t1 hb2) 3
  have hlt2 : w1.heap.size < w2.heap.size := Row.lt (Row.below t1 hb2)
  have hlt3 : w.heap.size + 1 < w2.heap.size := by omega
  clear hb2 t1 s1 b1 B2 u1 B1
  go_wp2_with (first
    | (refine wl_loadTW rfl _ rfl w1.heap.size f c z l F t3 rfl ?_)
    | (refine wl_load6 rfl _ rfl w2.heap.size K x3 rfl ?_))
  refine (c_without_eq F K D HD.out _).mono ?_
  rintro e w4 ⟨rfl, hb4⟩
  replace t3 := Row.below t3 hb4
  replace s3 := Row.below s3 hb4
  replace x3 := Row.below x3 hb4
  replace B3 := Lib.hid (bst B3.out hb4 B3.out.size)
  clear hb4 q0 q3
  generalize w1.heap.size = g at *
  generalize w2.heap.size = gk at *
  go_wp2_with fail
  refine (c_count D _ DW.out).mono ?_
  rintro e w5 ⟨rfl, hb5⟩
  rw [HFR.out]
  replace t3 := Row.below t3 hb5
  replace s3 := Row.below s3 hb5
  replace x3 := Row.below x3 hb5
  replace B3 := Lib.hid (bst B3.out hb5 B3.out.size)
  clear hb5
  go_wp2_with (first
    | (refine wl_loadTW rfl _ rfl g f c z l F t3 rfl ?_)
    | (refine wl_load6 rfl _ rfl gk K x3 rfl ?_))
  refine (c_both_eq F K G HGD.out _).mono ?_
  rintro e w6 ⟨rfl, hb6⟩
  replace t3 := Row.below t3 hb6
  replace s3 := Row.below s3 hb6
  replace B3 := Lib.hid (bst B3.out hb6 B3.out.size)
  clear hb6 x3
  have hn1 : w.heap.size + 1 + 1 ≠ g := by omega
  have hn2 : w.heap.size ≤ g := by omega
  go_wp2_with (first
    | (refine wl_storeTW rfl _ _ rfl g f c z l F G t3 rfl rfl ?_; have t5 := RowT.six4 t3 G; have s5 := Row.six4 s3 hn1 G; have B5 := Lib.hid (below_six4 B3.out hn2 G); clear t3 s3 B3; generalize six4 w6 g G = w7 at *)
    | (refine wl_loadT rfl _ rfl g f c z l G t5 rfl ?_))
  refine (c_span f c z l G _ (by omega) (by omega) HGB.out).mono ?_
  rintro e w8 ⟨v7, rfl, ho, hb7⟩
  rw [HLEN.out, HRS.out] at ho
  have B6 := Lib.hid (bst B5.out hb7 B5.out.size)
  have s6 := Row.below s5 hb7
  have HO := Lib.hid (ho.mono B5.out.size)
  obtain ⟨vg, vc, hvs, _⟩ := ho.shape
  clear ho hb7 B5 t5 s5
  subst hvs
  have HNE := Lib.hid (own_row_ne' HO.out s6)
  generalize hnr : rs.length = nr at *
  clear hnr
  go_wp2_with (refine wl_storeS rfl _ _ rfl (w.heap.size + 1 + 1) f c l (.slice vg nr vc) _ _ _ _ s6 rfl rfl rfl ?_)
  exact bodyPost_ret (res_row_slot2 Tryd.results32 (Row.put s6 (c4 f c l (.slice vg nr vc))) rfl rfl rfl Tryd.underlying27 rfl info_span) rfl ⟨_, rfl, Own.put HO.out _ _ HNE.out, below_setRow B6.out (by omega) _⟩

end Go.Proofs.YtcelebblcjhpaaaDoor
