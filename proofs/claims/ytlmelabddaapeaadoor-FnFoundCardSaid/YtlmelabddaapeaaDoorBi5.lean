/- Contracts of chapter 2: the project's own functions. -/
import Derived.Test.YtlmelabddaapeaaDoorBi1
import Derived.IntWalk
import Derived.Deep.RegionWith
namespace Go.Proofs.YtlmelabddaapeaaDoor
open Go.RowKit Pb

/-- Six words stored one by one. -/
def six (w : World) (g : Nat) (F : Nat → Int) : World := (((((w.setCell ⟨g, 0, none⟩ (.int .u16 (F 0))).setCell ⟨g, 1, none⟩ (.int .u16 (F 1))).setCell ⟨g, 2, none⟩ (.int .u16 (F 2))).setCell ⟨g, 3, none⟩ (.int .u16 (F 3))).setCell ⟨g, 4, none⟩ (.int .u16 (F 4))).setCell ⟨g, 5, none⟩ (.int .u16 (F 5))
theorem Blk.six {w : World} {g : Nat} {f : Nat → Int} (h : Blk w g f) (F : Nat → Int) : Blk (six w g F) g F := by
  have h1 := ((((((h.set (k := 0) (by omega) (F 0)).set (k := 1) (by omega) (F 1)).set (k := 2) (by omega) (F 2)).set (k := 3) (by omega) (F 3)).set (k := 4) (by omega) (F 4)).set (k := 5) (by omega) (F 5))
  exact h1.trans rfl
theorem Row.six {w : World} {g g' : Nat} {T : TypeId} {cs : Array Value} (h : Row w g T cs) (hn : g < g') (F : Nat → Int) : Row (six w g' F) g T cs :=
  (((((Row.other h _ (by simp; omega) _).other _ (by simp; omega) _).other _ (by simp; omega) _).other _ (by simp; omega) _).other _ (by simp; omega) _).other _ (by simp; omega) _
theorem below_six {B g : Nat} {w0 w : World} (h : Below B w0 w) (hg : B ≤ g) (F : Nat → Int) : Below B w0 (six w g F) :=
  (((((h.setCell (p := ⟨g, 0, none⟩) hg _).setCell (p := ⟨g, 1, none⟩) hg _).setCell (p := ⟨g, 2, none⟩) hg _).setCell (p := ⟨g, 3, none⟩) hg _).setCell (p := ⟨g, 4, none⟩) hg _).setCell (p := ⟨g, 5, none⟩) hg _

theorem c_without_eq (f g F : Nat → Int) (hF : F = fun k => bits .andNot .u16 (f k) (g k)) (w : World) : Calls Tryd.prog 48 #[a6 f, a6 g] w fun e w' => e = .returned (a6 F) ∧ Below w.heap.size w w' := by subst hF; exact c_without f g w

theorem c_with_eq (f g F : Nat → Int) (hF : F = fun k => bits .or .u16 (f k) (g k)) (w : World) : Calls Tryd.prog 50 #[a6 f, a6 g] w fun e w' => e = .returned (a6 F) ∧ Below w.heap.size w w' := by subst hF; exact c_with f g w

theorem c_both_eq (f g F : Nat → Int) (hF : F = fun k => bits .and .u16 (f k) (g k)) (w : World) : Calls Tryd.prog 59 #[a6 f, a6 g] w fun e w' => e = .returned (a6 F) ∧ Below w.heap.size w w' := by subst hF; exact c_both f g w

set_option maxHeartbeats 1600000 in
theorem c_iSetRun_yes (long : Int) (v : Value) (zs : List Int) (a b : Int) (on : Bool) (w : World) (hv : IntsAt w v zs) (hB : Bok long zs) (hR : InRun long a b) : Calls Tryd.prog 8 #[bm long v, .int .i64 a, .int .i64 b, .bool on] w fun e w' => ∃ v', e = .returned (.tuple #[bm long v', .bool true]) ∧ Own w' w.heap.size v' (wl zs.length (setW (fun k => zs.getD k 0) a b on)) ∧ Below w.heap.size w w' := by
  have HB := Lib.hid (((Below.refl w.heap.size w).alloc (Nat.le_refl _) (.cells (cb long v) 25)).alloc (by simp) (.cells (cb 0 (.slice none 0 0)) 25))
  have hv' := Lib.hid (hv.below HB.out); clear hv
  have r0 : RowB ((w.alloc (.cells (cb long v) 25)).alloc (.cells (cb 0 (.slice none 0 0)) 25)) w.heap.size long v := (Row.new w 25 (cb long v)).alloc _
  have s0 : RowB ((w.alloc (.cells (cb long v) 25)).alloc (.cells (cb 0 (.slice none 0 0)) 25)) (w.heap.size + 1) 0 (.slice none 0 0) := Row.new1 w _ _ _
  obtain ⟨f, hf⟩ : ∃ f : Nat → Int, f = fun k => zs.getD k 0 := ⟨_, rfl⟩
  rw [← hf]
  have hww : ∀ k, W16 (f k) := fun k => by rw [hf]; exact hB.w k
  have HW := Lib.hid hww; clear hww
  have HF := Lib.hid hf; clear hf
  obtain ⟨F1, hF1⟩ : ∃ F : Nat → Int, F = fun k => bits .andNot .u16 (f k) (runW a b k) := ⟨_, rfl⟩
  obtain ⟨F2, hF2⟩ : ∃ F : Nat → Int, F = fun k => bits .or .u16 (F1 k) (runW a b k) := ⟨_, rfl⟩
  have w1 : ∀ k, k < 6 → 0 ≤ F1 k ∧ F1 k ≤ 65535 := fun k _ => by rw [hF1]; exact w_andNot _ _
  have w2 : ∀ k, k < 6 → 0 ≤ F2 k ∧ F2 k ≤ 65535 := fun k _ => by rw [hF2]; exact w_or _ _
  have E1 : Hid (setW f a b false = F1) := by rw [hF1]; rfl
  have E2 : Hid (setW f a b true = F2) := by rw [hF2, hF1]; rfl
  have W1 := Lib.hid w1; have W2 := Lib.hid w2
  have H1 := Lib.hid hF1; have H2 := Lib.hid hF2
  clear hF1 hF2 w1 w2
  obtain ⟨hR0, hR1, hR2⟩ := id hR
  have hl0 := hB.1
  have hl1 := hB.2.1
  have hlen : zs.length = ((long + 15) / 16).toNat := by have := hB.2.2.1; omega
  rw [hlen]
  clear hlen
  cases on
  · rw [E1.out]
    go_enter Tryd.func8, Tryd.ntmps8
    go_wp2_with fail
    refine (c_wordsOf_yes long v zs f HF.out _ hv'.out hB).mono ?_
    rintro e w1 ⟨rfl, hb1⟩
    have B0 : Blk (w1.alloc (.cells (c6 f) 69)) w1.heap.size f := Row.new w1 _ _
    have R0 : RowB (w1.alloc (.cells (c6 f) 69)) w.heap.size long v := (Row.below r0 hb1).alloc (.cells (c6 f) 69)
    have S0 : RowB (w1.alloc (.cells (c6 f) 69)) (w.heap.size + 1) 0 (.slice none 0 0) := (Row.below s0 hb1).alloc (.cells (c6 f) 69)
    have B1 := bstep HB.out hb1 HB.out.size
    have L0 := B1.alloc B1.size (.cells (c6 f) 69)
    have hsz := hb1.size
    have hw1 : w.heap.size + 1 < w1.heap.size := by simp at hsz; omega
    have hw0 : w.heap.size < w1.heap.size := by omega
    have q0 := RowB.c0 (Row.below r0 hb1)
    have q1 := RowB.c1 (Row.below r0 hb1)
    clear r0 s0 hb1 hsz B1
    go_wp2_with fail
    refine (c_isRunIn_yes long v a b _ hR).mono ?_
    rintro e w2 ⟨rfl, hb2⟩
    have BB : Blk w2 w1.heap.size f := Row.below B0 hb2
    have RR : RowB w2 w.heap.size long v := Row.below R0 hb2
    have SS : RowB w2 (w.heap.size + 1) 0 (.slice none 0 0) := Row.below S0 hb2
    have LL : Below w.heap.size w w2 := bstep L0 hb2 L0.size
    clear hb2 q0 q1 B0 R0 S0 L0
    go_wp2_with fail
    generalize w1.heap.size = g at *
    have p0 := BB.at (k := 0) (by omega)
    have p1 := BB.at (k := 1) (by omega)
    have p2 := BB.at (k := 2) (by omega)
    have p3 := BB.at (k := 3) (by omega)
    have p4 := BB.at (k := 4) (by omega)
    have p5 := BB.at (k := 5) (by omega)
    have BD : Blk w2.drew g f := BB
    have RD : RowB w2.drew w.heap.size long v := RR
    have SD : RowB w2.drew (w.heap.size + 1) 0 (.slice none 0 0) := SS
    have LD : Below w.heap.size w w2.drew := below_drew LL
    go_region_with (first
      | (go_at_call 49; refine (c_runBits _ _ _ (by omega) (by omega) (by omega) (by omega)).mono ?_; rintro e w3 ⟨rfl, hbk⟩; have BB : Blk w3 g f := Row.below (by assumption) hbk; have RR : RowB w3 w.heap.size long v := Row.below (by assumption) hbk; have SS : RowB w3 (w.heap.size + 1) 0 (.slice none 0 0) := Row.below (by assumption) hbk; have LL : Below w.heap.size w w3 := bstep (by assumption) hbk (Below.size (by assumption)); have p0 := BB.at (k := 0) (by omega); have p1 := BB.at (k := 1) (by omega); have p2 := BB.at (k := 2) (by omega); have p3 := BB.at (k := 3) (by omega); have p4 := BB.at (k := 4) (by omega); have p5 := BB.at (k := 5) (by omega); have z0 := Row.frozen BB 0; have z1 := Row.frozen BB 1; have z2 := Row.frozen BB 2; have z3 := Row.frozen BB 3; have z4 := Row.frozen BB 4; have z5 := Row.frozen BB 5)
      | (go_at_call 48; refine (c_without_eq f (runW a b) F1 H1.out _).mono ?_; rintro e w4 ⟨rfl, hbk⟩; have BB : Blk w4 g f := Row.below (by assumption) hbk; have RR : RowB w4 w.heap.size long v := Row.below (by assumption) hbk; have SS : RowB w4 (w.heap.size + 1) 0 (.slice none 0 0) := Row.below (by assumption) hbk; have LL : Below w.heap.size w w4 := bstep (by assumption) hbk (Below.size (by assumption)); have p0 := BB.at (k := 0) (by omega); have p1 := BB.at (k := 1) (by omega); have p2 := BB.at (k := 2) (by omega); have p3 := BB.at (k := 3) (by omega); have p4 := BB.at (k := 4) (by omega); have p5 := BB.at (k := 5) (by omega); have z0 := Row.frozen BB 0; have z1 := Row.frozen BB 1; have z2 := Row.frozen BB 2; have z3 := Row.frozen BB 3; have z4 := Row.frozen BB 4; have z5 := Row.frozen BB 5))
    all_goals
      have C1 := Blk.six BB F1
      have C2 := Row.six RR (show w.heap.size < g by omega) F1
      have C3 := Row.six SS hw1 F1
      have C4 := below_six LL (show w.heap.size ≤ g by omega) F1
      change Exit.then _ _ Exit.normal _ (six w4 g F1)
      generalize six w4 g F1 = w5 at *
      clear p0 p1 p2 p3 p4 p5 z0 z1 z2 z3 z4 z5 BB RR SS LL
      have q0 := RowB.c0 C2
      go_wp2_with (refine wl_load6 rfl _ rfl g F1 C1 rfl ?_)
      refine (c_bitmap F1 long _ hl0 hl1 W1.out).mono ?_
      rintro e w6 ⟨v6, rfl, ho, hb6⟩
      have S6 := Row.below C3 hb6
      have L6 := Lib.hid (bstep C4 hb6 C4.size)
      obtain ⟨vg, vc, hvs, hvg⟩ := ho.shape
      have hs5 : w.heap.size + 1 < w5.heap.size := Row.lt C3
      have HO := Lib.hid ho
      have HS := Lib.hid hvs
      have C4s := C4.size
      clear C1 C2 C3 C4 hb6 ho hvs q0
      rw [HS.out] at HO ⊢
      go_wp2_with (refine wl_storeB rfl _ _ rfl (w.heap.size + 1) long _ _ _ S6 rfl rfl rfl ?_)
      refine bodyPost_ret (res_row_slot Tryd.results8 (Row.put S6 (cb long _)) rfl rfl Tryd.underlying25 rfl info_bits) rfl ⟨_, rfl, ?_, below_setRow L6.out (by omega) _⟩
      exact Own.setRow' (HO.out.mono C4s) (fun a ha => by have := hvg a ha; omega)
  · rw [E2.out]
    go_enter Tryd.func8, Tryd.ntmps8
    go_wp2_with fail
    refine (c_wordsOf_yes long v zs f HF.out _ hv'.out hB).mono ?_
    rintro e w1 ⟨rfl, hb1⟩
    have B0 : Blk (w1.alloc (.cells (c6 f) 69)) w1.heap.size f := Row.new w1 _ _
    have R0 : RowB (w1.alloc (.cells (c6 f) 69)) w.heap.size long v := (Row.below r0 hb1).alloc (.cells (c6 f) 69)
    have S0 : RowB (w1.alloc (.cells (c6 f) 69)) (w.heap.size + 1) 0 (.slice none 0 0) := (Row.below s0 hb1).alloc (.cells (c6 f) 69)
    have B1 := bstep HB.out hb1 HB.out.size
    have L0 := B1.alloc B1.size (.cells (c6 f) 69)
    have hsz := hb1.size
    have hw1 : w.heap.size + 1 < w1.heap.size := by simp at hsz; omega
    have hw0 : w.heap.size < w1.heap.size := by omega
    have q0 := RowB.c0 (Row.below r0 hb1)
    have q1 := RowB.c1 (Row.below r0 hb1)
    clear r0 s0 hb1 hsz B1
    go_wp2_with fail
    refine (c_isRunIn_yes long v a b _ hR).mono ?_
    rintro e w2 ⟨rfl, hb2⟩
    have BB : Blk w2 w1.heap.size f := Row.below B0 hb2
    have RR : RowB w2 w.heap.size long v := Row.below R0 hb2
    have SS : RowB w2 (w.heap.size + 1) 0 (.slice none 0 0) := Row.below S0 hb2
    have LL : Below w.heap.size w w2 := bstep L0 hb2 L0.size
    clear hb2 q0 q1 B0 R0 S0 L0
    go_wp2_with fail
    generalize w1.heap.size = g at *
    have p0 := BB.at (k := 0) (by omega)
    have p1 := BB.at (k := 1) (by omega)
    have p2 := BB.at (k := 2) (by omega)
    have p3 := BB.at (k := 3) (by omega)
    have p4 := BB.at (k := 4) (by omega)
    have p5 := BB.at (k := 5) (by omega)
    have BD : Blk w2.drew g f := BB
    have RD : RowB w2.drew w.heap.size long v := RR
    have SD : RowB w2.drew (w.heap.size + 1) 0 (.slice none 0 0) := SS
    have LD : Below w.heap.size w w2.drew := below_drew LL
    go_region_with (first
      | (go_at_call 49; refine (c_runBits _ _ _ (by omega) (by omega) (by omega) (by omega)).mono ?_; rintro e w3 ⟨rfl, hbk⟩; have BB : Blk w3 g f := Row.below (by assumption) hbk; have RR : RowB w3 w.heap.size long v := Row.below (by assumption) hbk; have SS : RowB w3 (w.heap.size + 1) 0 (.slice none 0 0) := Row.below (by assumption) hbk; have LL : Below w.heap.size w w3 := bstep (by assumption) hbk (Below.size (by assumption)); have p0 := BB.at (k := 0) (by omega); have p1 := BB.at (k := 1) (by omega); have p2 := BB.at (k := 2) (by omega); have p3 := BB.at (k := 3) (by omega); have p4 := BB.at (k := 4) (by omega); have p5 := BB.at (k := 5) (by omega); have z0 := Row.frozen BB 0; have z1 := Row.frozen BB 1; have z2 := Row.frozen BB 2; have z3 := Row.frozen BB 3; have z4 := Row.frozen BB 4; have z5 := Row.frozen BB 5)
      | (go_at_call 48; refine (c_without_eq f (runW a b) F1 H1.out _).mono ?_; rintro e w4 ⟨rfl, hbk⟩; have BB : Blk w4 g f := Row.below (by assumption) hbk; have RR : RowB w4 w.heap.size long v := Row.below (by assumption) hbk; have SS : RowB w4 (w.heap.size + 1) 0 (.slice none 0 0) := Row.below (by assumption) hbk; have LL : Below w.heap.size w w4 := bstep (by assumption) hbk (Below.size (by assumption)); have p0 := BB.at (k := 0) (by omega); have p1 := BB.at (k := 1) (by omega); have p2 := BB.at (k := 2) (by omega); have p3 := BB.at (k := 3) (by omega); have p4 := BB.at (k := 4) (by omega); have p5 := BB.at (k := 5) (by omega); have z0 := Row.frozen BB 0; have z1 := Row.frozen BB 1; have z2 := Row.frozen BB 2; have z3 := Row.frozen BB 3; have z4 := Row.frozen BB 4; have z5 := Row.frozen BB 5))
    all_goals
      have C1 := Blk.six BB F1
      have C2 := Row.six RR (show w.heap.size < g by omega) F1
      have C3 := Row.six SS hw1 F1
      have C4 := below_six LL (show w.heap.size ≤ g by omega) F1
      change Exit.then _ _ Exit.normal _ (six w4 g F1)
      generalize six w4 g F1 = w5 at *
      clear p0 p1 p2 p3 p4 p5 z0 z1 z2 z3 z4 z5 BB RR SS LL
      have q0 := RowB.c0 C2
      have BB := C1
      have RR := C2
      have SS := C3
      have LL := C4
      clear C1 C2 C3 C4
      go_wp2_with fail
      have p0 := BB.at (k := 0) (by omega)
      have p1 := BB.at (k := 1) (by omega)
      have p2 := BB.at (k := 2) (by omega)
      have p3 := BB.at (k := 3) (by omega)
      have p4 := BB.at (k := 4) (by omega)
      have p5 := BB.at (k := 5) (by omega)
      have BD : Blk w5.drew g F1 := BB
      have RD : RowB w5.drew w.heap.size long v := RR
      have SD : RowB w5.drew (w.heap.size + 1) 0 (.slice none 0 0) := SS
      have LD : Below w.heap.size w w5.drew := below_drew LL
      go_region_with (first
        | (go_at_call 49; refine (c_runBits _ _ _ (by omega) (by omega) (by omega) (by omega)).mono ?_; rintro e w7 ⟨rfl, hbk⟩; have BB : Blk w7 g F1 := Row.below (by assumption) hbk; have RR : RowB w7 w.heap.size long v := Row.below (by assumption) hbk; have SS : RowB w7 (w.heap.size + 1) 0 (.slice none 0 0) := Row.below (by assumption) hbk; have LL : Below w.heap.size w w7 := bstep (by assumption) hbk (Below.size (by assumption)); have p0 := BB.at (k := 0) (by omega); have p1 := BB.at (k := 1) (by omega); have p2 := BB.at (k := 2) (by omega); have p3 := BB.at (k := 3) (by omega); have p4 := BB.at (k := 4) (by omega); have p5 := BB.at (k := 5) (by omega); have z0 := Row.frozen BB 0; have z1 := Row.frozen BB 1; have z2 := Row.frozen BB 2; have z3 := Row.frozen BB 3; have z4 := Row.frozen BB 4; have z5 := Row.frozen BB 5)
        | (go_at_call 50; refine (c_with_eq F1 (runW a b) F2 H2.out _).mono ?_; rintro e w8 ⟨rfl, hbk⟩; have BB : Blk w8 g F1 := Row.below (by assumption) hbk; have RR : RowB w8 w.heap.size long v := Row.below (by assumption) hbk; have SS : RowB w8 (w.heap.size + 1) 0 (.slice none 0 0) := Row.below (by assumption) hbk; have LL : Below w.heap.size w w8 := bstep (by assumption) hbk (Below.size (by assumption)); have p0 := BB.at (k := 0) (by omega); have p1 := BB.at (k := 1) (by omega); have p2 := BB.at (k := 2) (by omega); have p3 := BB.at (k := 3) (by omega); have p4 := BB.at (k := 4) (by omega); have p5 := BB.at (k := 5) (by omega); have z0 := Row.frozen BB 0; have z1 := Row.frozen BB 1; have z2 := Row.frozen BB 2; have z3 := Row.frozen BB 3; have z4 := Row.frozen BB 4; have z5 := Row.frozen BB 5))
      all_goals
        have C1 := Blk.six BB F2
        have C2 := Row.six RR (show w.heap.size < g by omega) F2
        have C3 := Row.six SS hw1 F2
        have C4 := below_six LL (show w.heap.size ≤ g by omega) F2
        change Exit.then _ _ Exit.normal _ (six w8 g F2)
        generalize six w8 g F2 = w9 at *
        clear p0 p1 p2 p3 p4 p5 z0 z1 z2 z3 z4 z5 BB RR SS LL
        have q0 := RowB.c0 C2
        go_wp2_with (refine wl_load6 rfl _ rfl g F2 C1 rfl ?_)
        refine (c_bitmap F2 long _ hl0 hl1 W2.out).mono ?_
        rintro e w6 ⟨v6, rfl, ho, hb6⟩
        have S6 := Row.below C3 hb6
        have L6 := Lib.hid (bstep C4 hb6 C4.size)
        obtain ⟨vg, vc, hvs, hvg⟩ := ho.shape
        have hs5 : w.heap.size + 1 < w9.heap.size := Row.lt C3
        have HO := Lib.hid ho
        have HS := Lib.hid hvs
        have C4s := C4.size
        clear C1 C2 C3 C4 hb6 ho hvs q0
        rw [HS.out] at HO ⊢
        go_wp2_with (refine wl_storeB rfl _ _ rfl (w.heap.size + 1) long _ _ _ S6 rfl rfl rfl ?_)
        refine bodyPost_ret (res_row_slot Tryd.results8 (Row.put S6 (cb long _)) rfl rfl Tryd.underlying25 rfl info_bits) rfl ⟨_, rfl, ?_, below_setRow L6.out (by omega) _⟩
        exact Own.setRow' (HO.out.mono C4s) (fun a ha => by have := hvg a ha; omega)
end Go.Proofs.YtlmelabddaapeaaDoor
