/- The project's states of spans: out of a span, into a span, a slot in use. -/
import Derived.Test.YtcelebblcjhpaaaDoorSw2
import Derived.Test.YtcelebblcjhpaaaDoorBi5
namespace Go.Proofs.YtcelebblcjhpaaaDoor
open Go.RowKit Pb

theorem rowS_set4 {w : World} {g : Nat} {f0 c0 l0 : Int} {v0 : Value} (h : RowS w g f0 c0 l0 v0) (f c l : Int) (v : Value) : RowS ((((w.setCell ⟨g, 0, none⟩ (.int .i64 f)).setCell ⟨g, 1, none⟩ (.int .i64 c)).setCell ⟨g, 2, none⟩ (.int .i64 l)).setCell ⟨g, 3, none⟩ v) g f c l v := (Row.set (Row.set (Row.set (Row.set h 0 _) 1 _) 2 _) 3 _).trans rfl
theorem below_set4 {B g : Nat} {w0 w : World} (h : Below B w0 w) (hg : B ≤ g) (x0 x1 x2 x3 : Value) : Below B w0 ((((w.setCell ⟨g, 0, none⟩ x0).setCell ⟨g, 1, none⟩ x1).setCell ⟨g, 2, none⟩ x2).setCell ⟨g, 3, none⟩ x3) :=
  (((h.setCell (p := ⟨g, 0, none⟩) hg x0).setCell (p := ⟨g, 1, none⟩) hg x1).setCell (p := ⟨g, 2, none⟩) hg x2).setCell (p := ⟨g, 3, none⟩) hg x3
theorem Own.set4 {w : World} {B n cp g : Nat} {a : Option Addr} {zs : List Int} (h : Own w B (.slice a n cp) zs) (hn : ∀ b, a = some b → g < b.block) (x0 x1 x2 x3 : Value) : Own ((((w.setCell ⟨g, 0, none⟩ x0).setCell ⟨g, 1, none⟩ x1).setCell ⟨g, 2, none⟩ x2).setCell ⟨g, 3, none⟩ x3) B (.slice a n cp) zs :=
  Own.set (Own.set (Own.set (Own.set h hn) hn) hn) hn

set_option maxHeartbeats 1600000 in
theorem c_stateOf_yes (f c l : Int) (v : Value) (zs : List Int) (F : Nat → Int) (hF : F = fun k => zs.getD k 0) (w : World) (hT : TabW w) (hv : IntsAt w v zs) (hS : Sok f c l zs) : Calls Tryd.prog 46 #[sp f c l v] w fun e w' => e = .returned (.tuple #[st f c (Pl.szOf c) l F, .bool true]) ∧ Below w.heap.size w w' := by
  obtain ⟨hc, hf, hl, hB⟩ := hS
  have HB := Lib.hid (((Below.refl w.heap.size w).alloc (Nat.le_refl _) (.cells (c4 f c l v) 27)).alloc (by simp) (.cells (c10 0 0 0 0 fun _ => 0) 71))
  have r0 : RowS ((w.alloc (.cells (c4 f c l v) 27)).alloc (.cells (c10 0 0 0 0 fun _ => 0) 71)) w.heap.size f c l v := (Row.new w 27 (c4 f c l v)).alloc _
  have t0 : RowT ((w.alloc (.cells (c4 f c l v) 27)).alloc (.cells (c10 0 0 0 0 fun _ => 0) 71)) (w.heap.size + 1) 0 0 0 0 (fun _ => 0) := Row.new1 w _ _ _
  have hT1 := Lib.hid (hT.below HB.out hT.pos)
  have hv1 := Lib.hid (hv.below HB.out)
  have HF := Lib.hid hF
  have HL := Lib.hid hl
  have HSB := Lib.hid hB
  generalize hz : Pl.szOf c = z
  have HZ := Lib.hid hz
  clear hT hv hF hl hB hz
  go_enter Tryd.func46, Tryd.ntmps46
  go_wp2_with fail
  refine (c_layoutOf_yes f c _ hT1.out hc hf).mono ?_
  rintro e w1 ⟨rfl, hb1⟩
  rw [HZ.out, ← HL.out]
  have hlt1 := Row.lt (Row.below r0 hb1)
  have hlt2 := Row.lt (Row.below t0 hb1)
  have B0 := bst HB.out hb1 HB.out.size
  have B1 := Lib.hid (B0.alloc B0.size (.cells (cl f c z l) 66))
  have r1 := (Row.below r0 hb1).alloc (.cells (cl f c z l) 66)
  have t1 := (Row.below t0 hb1).alloc (.cells (cl f c z l) 66)
  have y1 : RowL (w1.alloc (.cells (cl f c z l) 66)) w1.heap.size f c z l := Row.new w1 _ _
  have v1 := Lib.hid ((hv1.out.below hb1).below ((Below.refl _ _).alloc (Nat.le_refl _) (.cells (cl f c z l) 66)))
  have q2 := RowS.c2 (Row.below r0 hb1)
  clear r0 t0 hb1 B0 hv1 hT1
  go_wp2_with (refine wl_loadU rfl _ rfl w.heap.size f c l v r1 rfl ?_)
  refine (c_wordsOf_yes l v zs F HF.out _ v1.out HSB.out).mono ?_
  rintro e w2 ⟨rfl, hb2⟩
  have B2 := bst B1.out hb2 B1.out.size
  have B3 := Lib.hid (B2.alloc B2.size (.cells (c6 F) 69))
  have t2 := (Row.below t1 hb2).alloc (.cells (c6 F) 69)
  have y2 := (Row.below y1 hb2).alloc (.cells (c6 F) 69)
  have x2 : Blk (w2.alloc (.cells (c6 F) 69)) w2.heap.size F := Row.new w2 _ _
  clear r1 t1 y1 q2 hb2 B2 v1 B1
  go_wp2_with (first
    | (refine wl_loadL rfl _ rfl w1.heap.size f c z l y2 rfl ?_)
    | (refine wl_load6 rfl _ rfl w2.heap.size F x2 rfl ?_)
    | (refine wl_storeT rfl _ _ rfl (w.heap.size + 1) f c z l F _ _ _ _ _ t2 rfl rfl ?_))
  exact bodyPost_ret (res_row_slot Tryd.results46 (Row.put t2 (c10 f c z l F)) rfl rfl Tryd.underlying71 rfl info_state) rfl ⟨rfl, below_setRow B3.out (by omega) _⟩
set_option maxHeartbeats 1600000 in
theorem c_stateOf_no (f c l : Int) (v : Value) (zs : List Int) (w : World) (hT : TabW w) (hv : IntsAt w v zs) (hS : ¬ Sok f c l zs) : Calls Tryd.prog 46 #[sp f c l v] w fun e w' => e = .returned (.tuple #[st 0 0 0 0 (fun _ => 0), .bool false]) ∧ Below w.heap.size w w' := by
  have HB := Lib.hid (((Below.refl w.heap.size w).alloc (Nat.le_refl _) (.cells (c4 f c l v) 27)).alloc (by simp) (.cells (c10 0 0 0 0 fun _ => 0) 71))
  have r0 : RowS ((w.alloc (.cells (c4 f c l v) 27)).alloc (.cells (c10 0 0 0 0 fun _ => 0) 71)) w.heap.size f c l v := (Row.new w 27 (c4 f c l v)).alloc _
  have t0 : RowT ((w.alloc (.cells (c4 f c l v) 27)).alloc (.cells (c10 0 0 0 0 fun _ => 0) 71)) (w.heap.size + 1) 0 0 0 0 (fun _ => 0) := Row.new1 w _ _ _
  have hT1 := Lib.hid (hT.below HB.out hT.pos)
  have hv1 := Lib.hid (hv.below HB.out)
  clear hT hv
  by_cases hL : Pl.isCl c = true ∧ 0 ≤ f ∧ f ≤ 32 - Pl.pgOf c
  · obtain ⟨hc, hf⟩ := hL
    generalize hz : Pl.szOf c = z
    generalize hn : Pl.slOf c = n
    have HZ := Lib.hid hz; have HN := Lib.hid hn
    by_cases hl : l = n
    · have hB : ¬ Bok l zs := fun hB => hS ⟨hc, hf, hl.trans hn.symm, hB⟩
      subst hl
      clear hS hz hn
      go_enter Tryd.func46, Tryd.ntmps46
      go_wp2_with fail
      refine (c_layoutOf_yes f c _ hT1.out hc hf).mono ?_
      rintro e w1 ⟨rfl, hb1⟩
      rw [HZ.out, HN.out]
      have hlt1 := Row.lt (Row.below r0 hb1)
      have B0 := bst HB.out hb1 HB.out.size
      have B1 := Lib.hid (B0.alloc B0.size (.cells (cl f c z l) 66))
      have r1 := (Row.below r0 hb1).alloc (.cells (cl f c z l) 66)
      have t1 := (Row.below t0 hb1).alloc (.cells (cl f c z l) 66)
      have v1 := Lib.hid ((hv1.out.below hb1).below ((Below.refl _ _).alloc (Nat.le_refl _) (.cells (cl f c z l) 66)))
      have q2 := RowS.c2 (Row.below r0 hb1)
      clear r0 t0 hb1 B0 hv1 hT1
      go_wp2_with (refine wl_loadU rfl _ rfl w.heap.size f c l v r1 rfl ?_)
      refine (c_wordsOf_no l v zs _ v1.out hB).mono ?_
      rintro e w2 ⟨rfl, hb2⟩
      have B2 := bst B1.out hb2 B1.out.size
      have B3 := Lib.hid (B2.alloc B2.size (.cells (c6 fun _ => 0) 69))
      have t2 := (Row.below t1 hb2).alloc (.cells (c6 fun _ => 0) 69)
      clear r1 t1 q2 hb2 B2 v1 B1
      go_wp2_with (refine wl_storeT rfl _ _ rfl (w.heap.size + 1) 0 0 0 0 (fun _ => 0) _ _ _ _ _ t2 rfl rfl ?_)
      exact bodyPost_ret (res_row_slot Tryd.results46 (Row.put t2 (c10 0 0 0 0 fun _ => 0)) rfl rfl Tryd.underlying71 rfl info_state) rfl ⟨rfl, below_setRow B3.out (by omega) _⟩
    · have hne : (l != n) = true := by rw [bne_iff_ne]; exact hl
      clear hS hl hz hn
      go_enter Tryd.func46, Tryd.ntmps46
      go_wp2_with fail
      refine (c_layoutOf_yes f c _ hT1.out hc hf).mono ?_
      rintro e w1 ⟨rfl, hb1⟩
      rw [HZ.out, HN.out]
      have hlt1 := Row.lt (Row.below r0 hb1)
      have B0 := bst HB.out hb1 HB.out.size
      have B1 := Lib.hid (B0.alloc B0.size (.cells (cl f c z n) 66))
      have t1 := (Row.below t0 hb1).alloc (.cells (cl f c z n) 66)
      have q2 := RowS.c2 (Row.below r0 hb1)
      clear r0 t0 hb1 B0 hv1 hT1
      go_wp2_with (refine wl_storeT rfl _ _ rfl (w.heap.size + 1) 0 0 0 0 (fun _ => 0) _ _ _ _ _ t1 rfl rfl ?_)
      exact bodyPost_ret (res_row_slot Tryd.results46 (Row.put t1 (c10 0 0 0 0 fun _ => 0)) rfl rfl Tryd.underlying71 rfl info_state) rfl ⟨rfl, below_setRow B1.out (by omega) _⟩
  · clear hS
    go_enter Tryd.func46, Tryd.ntmps46
    go_wp2_with fail
    refine (c_layoutOf_no f c _ hT1.out hL).mono ?_
    rintro e w1 ⟨rfl, hb1⟩
    have B0 := bst HB.out hb1 HB.out.size
    have B1 := Lib.hid (B0.alloc B0.size (.cells (cl 0 0 0 0) 66))
    have t1 := (Row.below t0 hb1).alloc (.cells (cl 0 0 0 0) 66)
    clear r0 t0 hb1 B0 hv1 hT1 hL
    go_wp2_with (refine wl_storeT rfl _ _ rfl (w.heap.size + 1) 0 0 0 0 (fun _ => 0) _ _ _ _ _ t1 rfl rfl ?_)
    exact bodyPost_ret (res_row_slot Tryd.results46 (Row.put t1 (c10 0 0 0 0 fun _ => 0)) rfl rfl Tryd.underlying71 rfl info_state) rfl ⟨rfl, below_setRow B1.out (by omega) _⟩
end Go.Proofs.YtcelebblcjhpaaaDoor
