/- Contracts of chapter 2: the bits of both, the bits of one alone. -/
import Derived.Test.YtlmelabddaapeaaDoorBi6
namespace Go.Proofs.YtlmelabddaapeaaDoor
open Go.RowKit Pb

theorem cell_two {w : World} {g k h : Nat} {x y v : Value} (hc : w.cell? ⟨g, k, none⟩ = some v) (hn : g ≠ h) : ((w.setCell ⟨h, 0, none⟩ x).setCell ⟨h, 1, none⟩ y).cell? ⟨g, k, none⟩ = some v := by
  rw [World.cell?_of_block (w := w) (a := ⟨g, k, none⟩) ((heap_setCell_other _ ⟨h, 1, none⟩ g _ hn).trans (heap_setCell_other w ⟨h, 0, none⟩ g _ hn))]
  exact hc
/-- The block g is a bitmap's, whatever it holds. -/
def SomeB (w : World) (g : Nat) : Prop := ∃ l v, RowB w g l v
theorem SomeB.below {w w' : World} {g : Nat} (h : SomeB w g) (hb : Below w.heap.size w w') : SomeB w' g := by
  obtain ⟨l, v, h⟩ := h
  exact ⟨l, v, Row.below h hb⟩
theorem SomeB.lt {w : World} {g : Nat} (h : SomeB w g) : g < w.heap.size := by
  obtain ⟨l, v, h⟩ := h
  exact Row.lt h
theorem SomeB.set2 {w : World} {g : Nat} {l0 : Int} {v0 : Value} (h : RowB w g l0 v0) (l : Int) (v : Value) : RowB ((w.setCell ⟨g, 0, none⟩ (.int .i64 l)).setCell ⟨g, 1, none⟩ v) g l v := rowB_set2 h l v

set_option maxHeartbeats 1600000 in
theorem c_iBothBits_no (la lb : Int) (va vb : Value) (za zb : List Int) (w : World) (ha : IntsAt w va za) (hb : IntsAt w vb zb) (hB : ¬ (Bok la za ∧ Bok lb zb ∧ la = lb)) : Calls Tryd.prog 30 #[bm la va, bm lb vb] w fun e w' => e = .returned (.tuple #[bm 0 (.slice none 0 0), .bool false]) ∧ Below w.heap.size w w' := by
  have HB := Lib.hid ((((Below.refl w.heap.size w).alloc (Nat.le_refl _) (.cells (cb la va) 25)).alloc (by simp) (.cells (cb lb vb) 25)).alloc (by simp; omega) (.cells (cb 0 (.slice none 0 0)) 25))
  have va' := Lib.hid (ha.below HB.out)
  have vb' := Lib.hid (hb.below HB.out)
  have ra : RowB (((w.alloc (.cells (cb la va) 25)).alloc (.cells (cb lb vb) 25)).alloc (.cells (cb 0 (.slice none 0 0)) 25)) w.heap.size la va := ((Row.new w 25 (cb la va)).alloc _).alloc _
  have s2 : RowB (((w.alloc (.cells (cb la va) 25)).alloc (.cells (cb lb vb) 25)).alloc (.cells (cb 0 (.slice none 0 0)) 25)) (w.heap.size + 1 + 1) 0 (.slice none 0 0) := Row.new2 w _ _ 25 _
  clear ha hb
  go_enter Tryd.func30, Tryd.ntmps30
  go_wp2_with fail
  refine (c_wordsOfPair_no la lb va vb za zb _ va'.out vb'.out hB).mono ?_
  rintro e w1 ⟨rfl, hb1⟩
  have B1 := bstep HB.out hb1 HB.out.size
  have L1 := Lib.hid ((B1.alloc B1.size (.cells (c6 fun _ => 0) 69)).alloc (by have := B1.size; simp; omega) (.cells (c6 fun _ => 0) 69))
  have s21 := ((Row.below s2 hb1).alloc (.cells (c6 fun _ => 0) 69)).alloc (.cells (c6 fun _ => 0) 69)
  clear hb1 B1 s2 ra
  go_wp2_with (refine wl_storeB rfl _ _ rfl (w.heap.size + 1 + 1) 0 (.slice none 0 0) _ _ s21 rfl rfl rfl ?_)
  exact bodyPost_ret (res_row_slot Tryd.results30 (Row.put s21 (cb 0 (.slice none 0 0))) rfl rfl Tryd.underlying25 rfl info_bits) rfl ⟨rfl, below_setRow L1.out (by omega) _⟩
set_option maxHeartbeats 1600000 in
theorem c_iBothBits_yes (la lb : Int) (va vb : Value) (za zb : List Int) (w : World) (ha : IntsAt w va za) (hb : IntsAt w vb zb) (ga : Bok la za) (gb : Bok lb zb) (hl : la = lb) : Calls Tryd.prog 30 #[bm la va, bm lb vb] w fun e w' => ∃ v', e = .returned (.tuple #[bm la v', .bool true]) ∧ Own w' w.heap.size v' (wl za.length (fun k => bits .and .u16 (za.getD k 0) (zb.getD k 0))) ∧ Below w.heap.size w w' := by
  have HB := Lib.hid ((((Below.refl w.heap.size w).alloc (Nat.le_refl _) (.cells (cb la va) 25)).alloc (by simp) (.cells (cb lb vb) 25)).alloc (by simp; omega) (.cells (cb 0 (.slice none 0 0)) 25))
  have va' := Lib.hid (ha.below HB.out)
  have vb' := Lib.hid (hb.below HB.out)
  have ra : RowB (((w.alloc (.cells (cb la va) 25)).alloc (.cells (cb lb vb) 25)).alloc (.cells (cb 0 (.slice none 0 0)) 25)) w.heap.size la va := ((Row.new w 25 (cb la va)).alloc _).alloc _
  have s2 : RowB (((w.alloc (.cells (cb la va) 25)).alloc (.cells (cb lb vb) 25)).alloc (.cells (cb 0 (.slice none 0 0)) 25)) (w.heap.size + 1 + 1) 0 (.slice none 0 0) := Row.new2 w _ _ 25 _
  clear ha hb
  obtain ⟨fa, hfa⟩ : ∃ f : Nat → Int, f = fun k => za.getD k 0 := ⟨_, rfl⟩
  obtain ⟨fb, hfb⟩ : ∃ f : Nat → Int, f = fun k => zb.getD k 0 := ⟨_, rfl⟩
  obtain ⟨F, hF⟩ : ∃ F : Nat → Int, F = fun k => bits .and .u16 (fa k) (fb k) := ⟨_, rfl⟩
  have EF : (fun k => bits .and .u16 (za.getD k 0) (zb.getD k 0)) = F := by rw [hF, hfa, hfb]
  have hwF : ∀ k, k < 6 → 0 ≤ F k ∧ F k ≤ 65535 := fun k _ => by rw [hF]; exact w_and _ _
  have HFA := Lib.hid hfa; have HFB := Lib.hid hfb; have HF := Lib.hid hF; have HWF := Lib.hid hwF
  rw [EF]
  have hlen : za.length = ((la + 15) / 16).toNat := by have := ga.2.2.1; omega
  rw [hlen]
  have hl0 := ga.1
  have hl1 := ga.2.1
  have HLE := Lib.hid hl
  clear hfa hfb hF EF hwF hlen hl
  go_enter Tryd.func30, Tryd.ntmps30
  go_wp2_with fail
  refine (c_wordsOfPair_yes la lb va vb za zb _ va'.out vb'.out fa fb HFA.out HFB.out ga gb HLE.out).mono ?_
  rintro e w1 ⟨rfl, hb1⟩
  have B1 := bstep HB.out hb1 HB.out.size
  have s21 := (Row.below s2 hb1)
  have hw2 : w.heap.size + 1 + 1 < w1.heap.size := Row.lt s21
  have hw0 : w.heap.size < w1.heap.size := by omega
  have L1 := (B1.alloc B1.size (.cells (c6 fa) 69)).alloc (by have := B1.size; simp; omega) (.cells (c6 fb) 69)
  have S1 : SomeB ((w1.alloc (.cells (c6 fa) 69)).alloc (.cells (c6 fb) 69)).drew (w.heap.size + 1 + 1) := ⟨_, _, (s21.alloc (.cells (c6 fa) 69)).alloc (.cells (c6 fb) 69)⟩
  have b6 : Blk ((w1.alloc (.cells (c6 fa) 69)).alloc (.cells (c6 fb) 69)) w1.heap.size fa := (Row.new w1 _ _).alloc _
  have b7 : Blk ((w1.alloc (.cells (c6 fa) 69)).alloc (.cells (c6 fb) 69)) (w1.heap.size + 1) fb := Row.new1 w1 _ _ _
  have c0 := RowB.c0 (((Row.below ra hb1).alloc (.cells (c6 fa) 69)).alloc (.cells (c6 fb) 69))
  clear hb1 B1 s2 ra s21
  have p0 := b6.at (k := 0) (by omega)
  have p1 := b6.at (k := 1) (by omega)
  have p2 := b6.at (k := 2) (by omega)
  have p3 := b6.at (k := 3) (by omega)
  have p4 := b6.at (k := 4) (by omega)
  have p5 := b6.at (k := 5) (by omega)
  have r0 := b7.at (k := 0) (by omega)
  have r1 := b7.at (k := 1) (by omega)
  have r2 := b7.at (k := 2) (by omega)
  have r3 := b7.at (k := 3) (by omega)
  have r4 := b7.at (k := 4) (by omega)
  have r5 := b7.at (k := 5) (by omega)
  clear b6 b7
  go_wp2_with fail
  have L2 := below_drew L1
  generalize (w1.alloc (.cells (c6 fa) 69)).alloc (.cells (c6 fb) 69) = wx at *
  replace p0 : wx.drew.cell? ⟨w1.heap.size, 0, none⟩ = some (.int .u16 (fa 0)) := p0
  replace r0 : wx.drew.cell? ⟨w1.heap.size + 1, 0, none⟩ = some (.int .u16 (fb 0)) := r0
  replace p1 : wx.drew.cell? ⟨w1.heap.size, 1, none⟩ = some (.int .u16 (fa 1)) := p1
  replace r1 : wx.drew.cell? ⟨w1.heap.size + 1, 1, none⟩ = some (.int .u16 (fb 1)) := r1
  replace p2 : wx.drew.cell? ⟨w1.heap.size, 2, none⟩ = some (.int .u16 (fa 2)) := p2
  replace r2 : wx.drew.cell? ⟨w1.heap.size + 1, 2, none⟩ = some (.int .u16 (fb 2)) := r2
  replace p3 : wx.drew.cell? ⟨w1.heap.size, 3, none⟩ = some (.int .u16 (fa 3)) := p3
  replace r3 : wx.drew.cell? ⟨w1.heap.size + 1, 3, none⟩ = some (.int .u16 (fb 3)) := r3
  replace p4 : wx.drew.cell? ⟨w1.heap.size, 4, none⟩ = some (.int .u16 (fa 4)) := p4
  replace r4 : wx.drew.cell? ⟨w1.heap.size + 1, 4, none⟩ = some (.int .u16 (fb 4)) := r4
  replace p5 : wx.drew.cell? ⟨w1.heap.size, 5, none⟩ = some (.int .u16 (fa 5)) := p5
  replace r5 : wx.drew.cell? ⟨w1.heap.size + 1, 5, none⟩ = some (.int .u16 (fb 5)) := r5
  replace c0 : wx.drew.cell? ⟨w.heap.size, 0, none⟩ = some (.int .i64 la) := c0
  clear L1
  go_region_held3 (fun w' => w'.cell? ⟨w1.heap.size, 0, none⟩ = some (.int .u16 (fa 0)) ∧ w'.cell? ⟨w1.heap.size, 1, none⟩ = some (.int .u16 (fa 1)) ∧ w'.cell? ⟨w1.heap.size, 2, none⟩ = some (.int .u16 (fa 2)) ∧ w'.cell? ⟨w1.heap.size, 3, none⟩ = some (.int .u16 (fa 3)) ∧ w'.cell? ⟨w1.heap.size, 4, none⟩ = some (.int .u16 (fa 4)) ∧ w'.cell? ⟨w1.heap.size, 5, none⟩ = some (.int .u16 (fa 5)) ∧ w'.cell? ⟨w1.heap.size + 1, 0, none⟩ = some (.int .u16 (fb 0)) ∧ w'.cell? ⟨w1.heap.size + 1, 1, none⟩ = some (.int .u16 (fb 1)) ∧ w'.cell? ⟨w1.heap.size + 1, 2, none⟩ = some (.int .u16 (fb 2)) ∧ w'.cell? ⟨w1.heap.size + 1, 3, none⟩ = some (.int .u16 (fb 3)) ∧ w'.cell? ⟨w1.heap.size + 1, 4, none⟩ = some (.int .u16 (fb 4)) ∧ w'.cell? ⟨w1.heap.size + 1, 5, none⟩ = some (.int .u16 (fb 5)) ∧ w'.cell? ⟨w.heap.size, 0, none⟩ = some (.int .i64 la) ∧ SomeB w' (w.heap.size + 1 + 1) ∧ Below w.heap.size w w')
    (first
      | (with_reducible exact ⟨p0, p1, p2, p3, p4, p5, r0, r1, r2, r3, r4, r5, c0, S1, L2⟩)
      | (go_split_ands
         exact ⟨cellBelow hbk (by assumption), cellBelow hbk (by assumption), cellBelow hbk (by assumption), cellBelow hbk (by assumption), cellBelow hbk (by assumption), cellBelow hbk (by assumption), cellBelow hbk (by assumption), cellBelow hbk (by assumption), cellBelow hbk (by assumption), cellBelow hbk (by assumption), cellBelow hbk (by assumption), cellBelow hbk (by assumption), cellBelow hbk (by assumption), SomeB.below (by assumption) hbk, bstep (by assumption) hbk (Below.size (by assumption))⟩)
      | (go_split_ands; refine ⟨?_, ?_, ?_, ?_, ?_, ?_, ?_, ?_, ?_, ?_, ?_, ?_, ?_, ?_, ?_⟩ <;> assumption)
      | (go_split_ands
         refine ⟨?_, ?_, ?_, ?_, ?_, ?_, ?_, ?_, ?_, ?_, ?_, ?_, ?_, ⟨_, _, SomeB.set2 SS la _⟩, ?_⟩
         all_goals first | (exact cell_two (by assumption) (by simp; omega)) | (exact Below.setCell (Below.setCell (by assumption) (by simp; omega) _) (by simp; omega) _)))
    (first
      | (go_at_call 59; refine (c_both_eq fa fb F HF.out _).mono ?_; rintro e w3 ⟨rfl, hbk⟩)
      | (go_at_call 51; refine (c_bitmap F la _ hl0 hl1 HWF.out).mono ?_; rintro e w4 ⟨v4, rfl, ho, hbk⟩; have hlt3 : w.heap.size + 1 + 1 < w3.heap.size := SomeB.lt (by go_split_ands; assumption); obtain ⟨l0, v0, SS⟩ : SomeB w4 (w.heap.size + 1 + 1) := SomeB.below (by go_split_ands; assumption) hbk; obtain ⟨vg, vc, hvs, hvg⟩ := ho.shape; have HO := Lib.hid ho; clear ho; rw [hvs] at HO ⊢; clear hvs; have HG := Lib.hid hvg; clear hvg; have d0 := SS.c0; have d1 := SS.c1; have z0 := Row.frozen SS 0; have z1 := Row.frozen SS 1))
  go_split_ands
  have SR := SomeB.set2 SS la (.slice vg (wl ((la + 15) / 16).toNat F).length vc)
  have OW := Own.set (a := ⟨w.heap.size + 1 + 1, 1, none⟩) (x := .slice vg (wl ((la + 15) / 16).toNat F).length vc) (Own.set (a := ⟨w.heap.size + 1 + 1, 0, none⟩) (x := .int .i64 la) (HO.out.mono (show w.heap.size ≤ w3.heap.size by omega)) (fun b hb => by have := HG.out b hb; simp; omega)) (fun b hb => by have := HG.out b hb; simp; omega)
  have BE : Below w.heap.size w ((w4.setCell ⟨w.heap.size + 1 + 1, 0, none⟩ (.int .i64 la)).setCell ⟨w.heap.size + 1 + 1, 1, none⟩ (.slice vg (wl ((la + 15) / 16).toNat F).length vc)) := by assumption
  generalize (w4.setCell ⟨w.heap.size + 1 + 1, 0, none⟩ (.int .i64 la)).setCell ⟨w.heap.size + 1 + 1, 1, none⟩ (.slice vg (wl ((la + 15) / 16).toNat F).length vc) = w5 at *
  go_wp2
  exact bodyPost_ret (res_row_slot Tryd.results30 SR rfl rfl Tryd.underlying25 rfl info_bits) rfl ⟨_, rfl, OW, BE⟩

set_option maxHeartbeats 1600000 in
theorem c_iWithoutBits_no (la lb : Int) (va vb : Value) (za zb : List Int) (w : World) (ha : IntsAt w va za) (hb : IntsAt w vb zb) (hB : ¬ (Bok la za ∧ Bok lb zb ∧ la = lb)) : Calls Tryd.prog 32 #[bm la va, bm lb vb] w fun e w' => e = .returned (.tuple #[bm 0 (.slice none 0 0), .bool false]) ∧ Below w.heap.size w w' := by
  have HB := Lib.hid ((((Below.refl w.heap.size w).alloc (Nat.le_refl _) (.cells (cb la va) 25)).alloc (by simp) (.cells (cb lb vb) 25)).alloc (by simp; omega) (.cells (cb 0 (.slice none 0 0)) 25))
  have va' := Lib.hid (ha.below HB.out)
  have vb' := Lib.hid (hb.below HB.out)
  have ra : RowB (((w.alloc (.cells (cb la va) 25)).alloc (.cells (cb lb vb) 25)).alloc (.cells (cb 0 (.slice none 0 0)) 25)) w.heap.size la va := ((Row.new w 25 (cb la va)).alloc _).alloc _
  have s2 : RowB (((w.alloc (.cells (cb la va) 25)).alloc (.cells (cb lb vb) 25)).alloc (.cells (cb 0 (.slice none 0 0)) 25)) (w.heap.size + 1 + 1) 0 (.slice none 0 0) := Row.new2 w _ _ 25 _
  clear ha hb
  go_enter Tryd.func32, Tryd.ntmps32
  go_wp2_with fail
  refine (c_wordsOfPair_no la lb va vb za zb _ va'.out vb'.out hB).mono ?_
  rintro e w1 ⟨rfl, hb1⟩
  have B1 := bstep HB.out hb1 HB.out.size
  have L1 := Lib.hid ((B1.alloc B1.size (.cells (c6 fun _ => 0) 69)).alloc (by have := B1.size; simp; omega) (.cells (c6 fun _ => 0) 69))
  have s21 := ((Row.below s2 hb1).alloc (.cells (c6 fun _ => 0) 69)).alloc (.cells (c6 fun _ => 0) 69)
  clear hb1 B1 s2 ra
  go_wp2_with (refine wl_storeB rfl _ _ rfl (w.heap.size + 1 + 1) 0 (.slice none 0 0) _ _ s21 rfl rfl rfl ?_)
  exact bodyPost_ret (res_row_slot Tryd.results32 (Row.put s21 (cb 0 (.slice none 0 0))) rfl rfl Tryd.underlying25 rfl info_bits) rfl ⟨rfl, below_setRow L1.out (by omega) _⟩
set_option maxHeartbeats 1600000 in
theorem c_iWithoutBits_yes (la lb : Int) (va vb : Value) (za zb : List Int) (w : World) (ha : IntsAt w va za) (hb : IntsAt w vb zb) (ga : Bok la za) (gb : Bok lb zb) (hl : la = lb) : Calls Tryd.prog 32 #[bm la va, bm lb vb] w fun e w' => ∃ v', e = .returned (.tuple #[bm la v', .bool true]) ∧ Own w' w.heap.size v' (wl za.length (fun k => bits .andNot .u16 (za.getD k 0) (zb.getD k 0))) ∧ Below w.heap.size w w' := by
  have HB := Lib.hid ((((Below.refl w.heap.size w).alloc (Nat.le_refl _) (.cells (cb la va) 25)).alloc (by simp) (.cells (cb lb vb) 25)).alloc (by simp; omega) (.cells (cb 0 (.slice none 0 0)) 25))
  have va' := Lib.hid (ha.below HB.out)
  have vb' := Lib.hid (hb.below HB.out)
  have ra : RowB (((w.alloc (.cells (cb la va) 25)).alloc (.cells (cb lb vb) 25)).alloc (.cells (cb 0 (.slice none 0 0)) 25)) w.heap.size la va := ((Row.new w 25 (cb la va)).alloc _).alloc _
  have s2 : RowB (((w.alloc (.cells (cb la va) 25)).alloc (.cells (cb lb vb) 25)).alloc (.cells (cb 0 (.slice none 0 0)) 25)) (w.heap.size + 1 + 1) 0 (.slice none 0 0) := Row.new2 w _ _ 25 _
  clear ha hb
  obtain ⟨fa, hfa⟩ : ∃ f : Nat → Int, f = fun k => za.getD k 0 := ⟨_, rfl⟩
  obtain ⟨fb, hfb⟩ : ∃ f : Nat → Int, f = fun k => zb.getD k 0 := ⟨_, rfl⟩
  obtain ⟨F, hF⟩ : ∃ F : Nat → Int, F = fun k => bits .andNot .u16 (fa k) (fb k) := ⟨_, rfl⟩
  have EF : (fun k => bits .andNot .u16 (za.getD k 0) (zb.getD k 0)) = F := by rw [hF, hfa, hfb]
  have hwF : ∀ k, k < 6 → 0 ≤ F k ∧ F k ≤ 65535 := fun k _ => by rw [hF]; exact w_andNot _ _
  have HFA := Lib.hid hfa; have HFB := Lib.hid hfb; have HF := Lib.hid hF; have HWF := Lib.hid hwF
  rw [EF]
  have hlen : za.length = ((la + 15) / 16).toNat := by have := ga.2.2.1; omega
  rw [hlen]
  have hl0 := ga.1
  have hl1 := ga.2.1
  have HLE := Lib.hid hl
  clear hfa hfb hF EF hwF hlen hl
  go_enter Tryd.func32, Tryd.ntmps32
  go_wp2_with fail
  refine (c_wordsOfPair_yes la lb va vb za zb _ va'.out vb'.out fa fb HFA.out HFB.out ga gb HLE.out).mono ?_
  rintro e w1 ⟨rfl, hb1⟩
  have B1 := bstep HB.out hb1 HB.out.size
  have s21 := (Row.below s2 hb1)
  have hw2 : w.heap.size + 1 + 1 < w1.heap.size := Row.lt s21
  have hw0 : w.heap.size < w1.heap.size := by omega
  have L1 := (B1.alloc B1.size (.cells (c6 fa) 69)).alloc (by have := B1.size; simp; omega) (.cells (c6 fb) 69)
  have S1 : SomeB ((w1.alloc (.cells (c6 fa) 69)).alloc (.cells (c6 fb) 69)).drew (w.heap.size + 1 + 1) := ⟨_, _, (s21.alloc (.cells (c6 fa) 69)).alloc (.cells (c6 fb) 69)⟩
  have b6 : Blk ((w1.alloc (.cells (c6 fa) 69)).alloc (.cells (c6 fb) 69)) w1.heap.size fa := (Row.new w1 _ _).alloc _
  have b7 : Blk ((w1.alloc (.cells (c6 fa) 69)).alloc (.cells (c6 fb) 69)) (w1.heap.size + 1) fb := Row.new1 w1 _ _ _
  have c0 := RowB.c0 (((Row.below ra hb1).alloc (.cells (c6 fa) 69)).alloc (.cells (c6 fb) 69))
  clear hb1 B1 s2 ra s21
  have p0 := b6.at (k := 0) (by omega)
  have p1 := b6.at (k := 1) (by omega)
  have p2 := b6.at (k := 2) (by omega)
  have p3 := b6.at (k := 3) (by omega)
  have p4 := b6.at (k := 4) (by omega)
  have p5 := b6.at (k := 5) (by omega)
  have r0 := b7.at (k := 0) (by omega)
  have r1 := b7.at (k := 1) (by omega)
  have r2 := b7.at (k := 2) (by omega)
  have r3 := b7.at (k := 3) (by omega)
  have r4 := b7.at (k := 4) (by omega)
  have r5 := b7.at (k := 5) (by omega)
  clear b6 b7
  go_wp2_with fail
  have L2 := below_drew L1
  generalize (w1.alloc (.cells (c6 fa) 69)).alloc (.cells (c6 fb) 69) = wx at *
  replace p0 : wx.drew.cell? ⟨w1.heap.size, 0, none⟩ = some (.int .u16 (fa 0)) := p0
  replace r0 : wx.drew.cell? ⟨w1.heap.size + 1, 0, none⟩ = some (.int .u16 (fb 0)) := r0
  replace p1 : wx.drew.cell? ⟨w1.heap.size, 1, none⟩ = some (.int .u16 (fa 1)) := p1
  replace r1 : wx.drew.cell? ⟨w1.heap.size + 1, 1, none⟩ = some (.int .u16 (fb 1)) := r1
  replace p2 : wx.drew.cell? ⟨w1.heap.size, 2, none⟩ = some (.int .u16 (fa 2)) := p2
  replace r2 : wx.drew.cell? ⟨w1.heap.size + 1, 2, none⟩ = some (.int .u16 (fb 2)) := r2
  replace p3 : wx.drew.cell? ⟨w1.heap.size, 3, none⟩ = some (.int .u16 (fa 3)) := p3
  replace r3 : wx.drew.cell? ⟨w1.heap.size + 1, 3, none⟩ = some (.int .u16 (fb 3)) := r3
  replace p4 : wx.drew.cell? ⟨w1.heap.size, 4, none⟩ = some (.int .u16 (fa 4)) := p4
  replace r4 : wx.drew.cell? ⟨w1.heap.size + 1, 4, none⟩ = some (.int .u16 (fb 4)) := r4
  replace p5 : wx.drew.cell? ⟨w1.heap.size, 5, none⟩ = some (.int .u16 (fa 5)) := p5
  replace r5 : wx.drew.cell? ⟨w1.heap.size + 1, 5, none⟩ = some (.int .u16 (fb 5)) := r5
  replace c0 : wx.drew.cell? ⟨w.heap.size, 0, none⟩ = some (.int .i64 la) := c0
  clear L1
  go_region_held3 (fun w' => w'.cell? ⟨w1.heap.size, 0, none⟩ = some (.int .u16 (fa 0)) ∧ w'.cell? ⟨w1.heap.size, 1, none⟩ = some (.int .u16 (fa 1)) ∧ w'.cell? ⟨w1.heap.size, 2, none⟩ = some (.int .u16 (fa 2)) ∧ w'.cell? ⟨w1.heap.size, 3, none⟩ = some (.int .u16 (fa 3)) ∧ w'.cell? ⟨w1.heap.size, 4, none⟩ = some (.int .u16 (fa 4)) ∧ w'.cell? ⟨w1.heap.size, 5, none⟩ = some (.int .u16 (fa 5)) ∧ w'.cell? ⟨w1.heap.size + 1, 0, none⟩ = some (.int .u16 (fb 0)) ∧ w'.cell? ⟨w1.heap.size + 1, 1, none⟩ = some (.int .u16 (fb 1)) ∧ w'.cell? ⟨w1.heap.size + 1, 2, none⟩ = some (.int .u16 (fb 2)) ∧ w'.cell? ⟨w1.heap.size + 1, 3, none⟩ = some (.int .u16 (fb 3)) ∧ w'.cell? ⟨w1.heap.size + 1, 4, none⟩ = some (.int .u16 (fb 4)) ∧ w'.cell? ⟨w1.heap.size + 1, 5, none⟩ = some (.int .u16 (fb 5)) ∧ w'.cell? ⟨w.heap.size, 0, none⟩ = some (.int .i64 la) ∧ SomeB w' (w.heap.size + 1 + 1) ∧ Below w.heap.size w w')
    (first
      | (with_reducible exact ⟨p0, p1, p2, p3, p4, p5, r0, r1, r2, r3, r4, r5, c0, S1, L2⟩)
      | (go_split_ands
         exact ⟨cellBelow hbk (by assumption), cellBelow hbk (by assumption), cellBelow hbk (by assumption), cellBelow hbk (by assumption), cellBelow hbk (by assumption), cellBelow hbk (by assumption), cellBelow hbk (by assumption), cellBelow hbk (by assumption), cellBelow hbk (by assumption), cellBelow hbk (by assumption), cellBelow hbk (by assumption), cellBelow hbk (by assumption), cellBelow hbk (by assumption), SomeB.below (by assumption) hbk, bstep (by assumption) hbk (Below.size (by assumption))⟩)
      | (go_split_ands; refine ⟨?_, ?_, ?_, ?_, ?_, ?_, ?_, ?_, ?_, ?_, ?_, ?_, ?_, ?_, ?_⟩ <;> assumption)
      | (go_split_ands
         refine ⟨?_, ?_, ?_, ?_, ?_, ?_, ?_, ?_, ?_, ?_, ?_, ?_, ?_, ⟨_, _, SomeB.set2 SS la _⟩, ?_⟩
         all_goals first | (exact cell_two (by assumption) (by simp; omega)) | (exact Below.setCell (Below.setCell (by assumption) (by simp; omega) _) (by simp; omega) _)))
    (first
      | (go_at_call 48; refine (c_without_eq fa fb F HF.out _).mono ?_; rintro e w3 ⟨rfl, hbk⟩)
      | (go_at_call 51; refine (c_bitmap F la _ hl0 hl1 HWF.out).mono ?_; rintro e w4 ⟨v4, rfl, ho, hbk⟩; have hlt3 : w.heap.size + 1 + 1 < w3.heap.size := SomeB.lt (by go_split_ands; assumption); obtain ⟨l0, v0, SS⟩ : SomeB w4 (w.heap.size + 1 + 1) := SomeB.below (by go_split_ands; assumption) hbk; obtain ⟨vg, vc, hvs, hvg⟩ := ho.shape; have HO := Lib.hid ho; clear ho; rw [hvs] at HO ⊢; clear hvs; have HG := Lib.hid hvg; clear hvg; have d0 := SS.c0; have d1 := SS.c1; have z0 := Row.frozen SS 0; have z1 := Row.frozen SS 1))
  go_split_ands
  have SR := SomeB.set2 SS la (.slice vg (wl ((la + 15) / 16).toNat F).length vc)
  have OW := Own.set (a := ⟨w.heap.size + 1 + 1, 1, none⟩) (x := .slice vg (wl ((la + 15) / 16).toNat F).length vc) (Own.set (a := ⟨w.heap.size + 1 + 1, 0, none⟩) (x := .int .i64 la) (HO.out.mono (show w.heap.size ≤ w3.heap.size by omega)) (fun b hb => by have := HG.out b hb; simp; omega)) (fun b hb => by have := HG.out b hb; simp; omega)
  have BE : Below w.heap.size w ((w4.setCell ⟨w.heap.size + 1 + 1, 0, none⟩ (.int .i64 la)).setCell ⟨w.heap.size + 1 + 1, 1, none⟩ (.slice vg (wl ((la + 15) / 16).toNat F).length vc)) := by assumption
  generalize (w4.setCell ⟨w.heap.size + 1 + 1, 0, none⟩ (.int .i64 la)).setCell ⟨w.heap.size + 1 + 1, 1, none⟩ (.slice vg (wl ((la + 15) / 16).toNat F).length vc) = w5 at *
  go_wp2
  exact bodyPost_ret (res_row_slot Tryd.results32 SR rfl rfl Tryd.underlying25 rfl info_bits) rfl ⟨_, rfl, OW, BE⟩
end Go.Proofs.YtlmelabddaapeaaDoor
