/- What the laws of chapter 2 draw: a bitmap. -/
import Derived.Test.YtcelebblcjhpaaaDoorDr2
import Derived.Test.YtcelebblcjhpaaaDoorBe1
namespace Go.Proofs.YtcelebblcjhpaaaDoor
open Go.RowKit Pb

theorem CurIs.set {w : World} {c n : Nat} (h : CurIs w c n) (g : Nat) (l : Int) (x : Value) (hg : c < g) : CurIs ((w.setCell ⟨g, 0, none⟩ (.int .i64 l)).setCell ⟨g, 1, none⟩ x) c n :=
  h.kept (fun k hk => (heap_setCell_other _ ⟨g, 1, none⟩ k _ (by (try simp); omega)).trans (heap_setCell_other w ⟨g, 0, none⟩ k _ (by (try simp); omega)))
theorem CurIs.setRow {w : World} {c n : Nat} (h : CurIs w c n) (g : Nat) (cs : Array Value) (hg : c < g) : CurIs (w.setRow g cs) c n :=
  h.kept (fun k hk => setRow_other w g k cs (by omega))
theorem grownBy_setRow {w X : World} {r : Option Nat} (h : w.grownBy X r) (g : Nat) (hg : w.heap.size ≤ g) (cs : Array Value) : w.grownBy (X.setRow g cs) r :=
  ⟨h.os, h.tape, h.output, by rw [size_setRow]; exact h.size, fun i hi hr => (setRow_other X g i cs (by omega)).trans (h.block i hi hr)⟩
theorem own_putRow {w : World} {B : Nat} {v : Value} {zs : List Int} (h : Own w B v zs) (g : Nat) (cs : Array Value) (hn : v.ownBlock ≠ some g) : Own (w.setRow g cs) B v zs := by
  obtain ⟨h1, h2⟩ := h
  refine ⟨h1, ?_⟩
  rcases h2 with h2 | ⟨g0, cap, cur, hv, hg, hh, r⟩
  · exact .inl h2
  · exact .inr ⟨g0, cap, cur, hv, hg, by rw [setRow_other w g g0 cs (fun e => hn (by rw [hv, e]; rfl))]; exact hh, r⟩
theorem cur_row_ne {w : World} {c n : Nat} {l : Int} {x : Value} (h : CurIs w c n) : ¬ RowB w c l x := fun hr => by
  obtain ⟨v, zs, p, s, hh, _⟩ := h
  have := hh.symm.trans hr
  simp at this
theorem own_row_ne {w : World} {B g : Nat} {v : Value} {zs : List Int} {l : Int} {x : Value} (h : Own w B v zs) (hr : RowB w g l x) : v.ownBlock ≠ some g := fun e => by
  rcases h.2 with ⟨h1, _⟩ | ⟨g0, cap, cur, hv, hg, hh, _⟩
  · rw [h1] at e; cases e
  · rw [hv] at e
    have e' : g0 = g := by simpa [Value.ownBlock] using e
    subst e'
    have := hh.symm.trans hr
    simp at this
/-- What a drawn bitmap is. -/
def BitsDrawn (c n : Nat) (w : World) (e : Ending) (w' : World) : Prop := ∃ (lr : Int) (v' : Value) (zs : List Int), zs.length ≤ 6 ∧ (0 ≤ lr ∧ lr ≤ 96) ∧ e = .returned (bm lr v') ∧ Own w' w.heap.size v' zs ∧ CurIs w' c n ∧ w.grownBy w' (some c)
set_option maxHeartbeats 6400000 in
set_option maxRecDepth 100000 in
theorem c_bits (c n L : Nat) (w : World) (hc : CurIs w c n) (hn : n ≤ 999999800) (hL : L ≤ 97) : Calls Tryd.prog 75 #[.pointer (some ⟨c, 0, none⟩), .int .i64 L] w (BitsDrawn c (n + 60) w) := by
  have hcl := hc.lt
  have HC := Lib.hid (hc.below ((Below.refl w.heap.size w).alloc (Nat.le_refl _) (.cells (cb 0 (.slice none 0 0)) 25))); clear hc
  have r0 : RowB (w.alloc (.cells (cb 0 (.slice none 0 0)) 25)) w.heap.size 0 (.slice none 0 0) := Row.new w _ _
  go_enter Tryd.func75, Tryd.ntmps75
  go_wp2_with fail
  refine (c_sNewBits_any L _).mono ?_
  rintro e w1 ⟨l1, v1, z1, ok1, rfl, hz1, hl1, ho1, hb1⟩
  have r1 := (Row.below r0 hb1).alloc (.cells (cb l1 v1) 25)
  have hc1 := (HC.out.below hb1).below ((Below.refl _ _).alloc (Nat.le_refl _) (.cells (cb l1 v1) 25))
  have hs1 := hb1.size
  simp only [World.size_alloc] at hs1
  have o1 : Own (w1.alloc (.cells (cb l1 v1) 25)) w.heap.size v1 z1 := (ho1.mono (by simp)).below ((Below.refl _ _).alloc (Nat.le_refl _) _)
  have g1 : w.grownBy (w1.alloc (.cells (cb l1 v1) 25)) (some c) := grownBy_alloc' (grownBy_step (World.grownBy_alloc _ _ _) hb1) _
  have x1 : RowB (w1.alloc (.cells (cb l1 v1) 25)) w1.heap.size l1 v1 := Row.new w1 _ _
  obtain ⟨vg, vc, hvs, _⟩ := ho1.shape
  have HVS := Lib.hid hvs
  clear r0 hb1 ho1 hvs HC
  rw [HVS.out] at r1 hc1 o1 g1 x1 ⊢
  generalize hzz : z1.length = nz at *
  have HZZ := Lib.hid hzz
  clear HVS hzz
  go_wp2_with fail
  generalize w1.alloc (.cells (cb l1 (.slice vg nz vc)) 25) = wa at *
  refine (c_pick c n 5 _ hc1 (by omega) (by omega) (by omega)).mono ?_
  rintro e w2 ⟨m, hm, rfl, hc2, hg2⟩
  have R0 := Row.grownBy r1 hg2 (by (try simp); omega)
  have R5 := Row.grownBy x1 hg2 (by (try simp); omega)
  have O5 := own_up o1 hg2 (by omega)
  have G2 := grownBy_trans g1 hg2
  obtain ⟨M, rfl⟩ := Int.eq_ofNat_of_zero_le hm.1
  generalize hg5 : w1.heap.size = g5 at *
  clear hg5 r1 hc1 o1 g1 x1 hg2
  go_wp2
  go_loopw [7] (fun i wr => ∃ (j : Nat) (lr : Int) (v : Value) (zs : List Int), j ≤ 4 ∧ i = .int .i64 j ∧ zs.length ≤ 6 ∧ (0 ≤ lr ∧ lr ≤ 96) ∧ RowB wr g5 lr v ∧ RowB wr w.heap.size 0 (.slice none 0 0) ∧ Own wr w.heap.size v zs ∧ CurIs wr c (n + 2 + 8 * (4 - j)) ∧ w.grownBy wr (some c)) (fun i _ => (intOf i).toNat)
  case atStart => exact ⟨M, l1, _, z1, by omega, rfl, by rw [HZZ.out]; exact hz1, hl1, R5, R0, O5, hc2.mono (by omega), G2⟩
  case round =>
    obtain ⟨j, lr, v, zs, hj, rfl, hzl, hlr, R5, R0, HO, hc2, G2⟩ := hrel
    have hg5 : g5 ≠ c := fun h => by subst h; exact absurd R5 (cur_row_ne hc2)
    have hwc : w.heap.size ≠ c := by omega
    obtain ⟨vg, vc, hvs, _⟩ := HO.shape
    subst hvs
    generalize hnz : zs.length = nz at *
    have HNZ := Lib.hid hnz
    clear hnz HZZ hz1 hl1
    by_cases hgo : 0 < j ∧ 0 < L
    · obtain ⟨hj0, hL0⟩ := hgo
      have q0 := RowB.c0 R5
      have q1 := RowB.c1 R5
      go_wp2_with fail
      refine (c_pick c _ (L : Int) _ hc2 (by omega) (by omega) (by omega)).mono ?_
      rintro e w3 ⟨x, hx, rfl, hc3, hg3⟩
      replace R5 := Row.grownBy R5 hg3 (by (try simp); omega)
      replace R0 := Row.grownBy R0 hg3 (by (try simp); omega)
      replace HO := own_up HO hg3 (by omega)
      replace G2 := grownBy_trans G2 hg3
      clear q0 q1 hg3 hc2
      have q0 := RowB.c0 R5
      have q1 := RowB.c1 R5
      have i1 : IntKind.i64.wrap (x + 1) = x + 1 := IntWalk.i64_in _ (by omega)
      have i2 : IntKind.i64.wrap ((L : Int) - x) = (L : Int) - x := IntWalk.i64_in _ (by omega)
      have hcd : CurIs w3.drew c (n + 2 + 8 * (4 - j) + 2) := hc3
      have KS : Hid (∀ X, w3.grownBy X (some c) → X.cell? ⟨g5, 0, none⟩ = some (.int .i64 lr) ∧ X.cell? ⟨g5, 1, none⟩ = some (.slice vg nz vc) ∧ w3.grownBy X (some c)) := fun X hX => ⟨RowB.c0 (Row.grownBy R5 hX (by (try simp); omega)), RowB.c1 (Row.grownBy R5 hX (by (try simp); omega)), hX⟩
      have GD := grownBy_drew (World.grownBy.refl w3 (some c))
      have s3 := G2.size
      go_wp2_with fail
      clear q0 q1
      go_region_held3 (fun w' => w'.cell? ⟨g5, 0, none⟩ = some (.int .i64 lr) ∧ w'.cell? ⟨g5, 1, none⟩ = some (.slice vg nz vc) ∧ w3.grownBy w' (some c))
        (first
          | exact KS.out _ GD
          | exact KS.out _ (grownBy_trans (by go_split_ands; assumption) hgk)
          | exact KS.out _ (grownBy_step (by go_split_ands; assumption) hbk)
          | exact KS.out _ (grownBy_alloc' (by go_split_ands; assumption) _)
          | exact KS.out _ (grownBy_alloc' GL _)
          | exact KS.out _ (grownBy_setNew (grownBy_setNew GL _ (by first | exact Nat.le_refl _ | (simp; omega)) _) _ (by first | exact Nat.le_refl _ | (simp; omega)) _)
          | (go_split_ands; refine ⟨?_, ?_, ?_⟩ <;> assumption))
        (first
          | (go_at_call 67; (refine (c_pick c _ ((L : Int) - x) _ (hcd.below (by first | exact Below.refl _ _ | exact (Below.refl _ _).alloc (Nat.le_refl _) _)) (by omega) (by omega) (by omega)).mono ?_; rintro e p1 ⟨y, hy, rfl, hc4, hgk⟩; have hq1 := hgk.size; (try simp at hq1); (first | (replace RZ := Row.grownBy RZ hgk (by (try simp); omega)) | (have RZ : RowB p1 w3.heap.size 0 (.slice none 0 0) := Row.grownBy (Row.new w3.drew _ _) hgk (by (try simp); omega)) | skip)))
          | (go_at_call 97; (refine (c_one c _ 4 _ (hc4.below (by first | exact Below.refl _ _ | exact (Below.refl _ _).alloc (Nat.le_refl _) _)) (by omega) (by omega) (by omega)).mono ?_; rintro e p2 ⟨oo, rfl, hc5, hgk⟩; have hq2 := hgk.size; (try simp at hq2); (first | (replace RZ := Row.grownBy RZ hgk (by (try simp); omega)) | (have RZ : RowB p2 p1.heap.size 0 (.slice none 0 0) := Row.grownBy (Row.new p1 _ _) hgk (by (try simp); omega)) | skip)))
          | (go_at_call 103; (refine (c_sSetRun_any lr (.slice vg nz vc) zs _ _ _ _ (own_up HO (by go_split_ands; assumption) (by omega)).ints).mono ?_; rintro e p3 ⟨l3, v3, rs, ok, rfl, hrl, hl3, ho3, hbk⟩; have hq3 := hbk.size; (try simp at hq3); (first | (replace RZ := Row.below RZ hbk) | (have RZ : RowB p3 p2.heap.size 0 (.slice none 0 0) := Row.below (Row.new p2 _ _) hbk) | skip); (try (have dz0 := RowB.c0 RZ; have dz1 := RowB.c1 RZ; have fz0 := Row.frozen RZ 0; have fz1 := Row.frozen RZ 1)); have GL : w3.grownBy p3 (some c) := grownBy_step (by go_split_ands; assumption) hbk; have hc6 := (hc5.below (by first | exact Below.refl _ _ | exact (Below.refl _ _).alloc (Nat.le_refl _) _)).below hbk; have hU := World.ownsRow.lt ho3; (try simp only [World.size_alloc] at hU); have U3 := Lib.hid hU; clear hU; obtain ⟨vg3, vc3, hvs3, _⟩ := ho3.shape; subst hvs3; have HO3 := Lib.hid ho3; clear ho3)))
      all_goals
        first
          | (have R9 : RowB ((p3.setCell ⟨w3.heap.size, 0, none⟩ (.int .i64 l3)).setCell ⟨w3.heap.size, 1, none⟩ (.slice vg3 rs.length vc3)) w3.heap.size l3 (.slice vg3 rs.length vc3) := rowB_set2 RZ l3 (.slice vg3 rs.length vc3)
             replace R5 := ((Row.grownBy R5 GL (by (try simp); omega)).other ⟨w3.heap.size, 0, none⟩ (by have := Row.lt R5; (try simp); omega) (.int .i64 l3)).other ⟨w3.heap.size, 1, none⟩ (by have := Row.lt R5; (try simp); omega) (.slice vg3 rs.length vc3)
             replace R0 := ((Row.grownBy R0 GL (by (try simp); omega)).other ⟨w3.heap.size, 0, none⟩ (by have := Row.lt R0; (try simp); omega) (.int .i64 l3)).other ⟨w3.heap.size, 1, none⟩ (by have := Row.lt R0; (try simp); omega) (.slice vg3 rs.length vc3)
             replace HO := Own.setApart (own_up HO GL (by omega)) (w3.heap.size) l3 (.slice vg3 rs.length vc3) (own_row_ne (own_up HO GL (by omega)) RZ)
             have O3b : Own ((p3.setCell ⟨w3.heap.size, 0, none⟩ (.int .i64 l3)).setCell ⟨w3.heap.size, 1, none⟩ (.slice vg3 rs.length vc3)) w.heap.size (.slice vg3 rs.length vc3) rs := Own.setApart (HO3.out.mono (by (try simp); omega)) (w3.heap.size) l3 (.slice vg3 rs.length vc3) (own_row_ne HO3.out RZ)
             have hcN := CurIs.set hc6 (w3.heap.size) l3 (.slice vg3 rs.length vc3) (by omega)
             replace G2 := grownBy_setNew (grownBy_setNew (grownBy_trans G2 GL) ⟨w3.heap.size, 0, none⟩ (by (try simp); omega) (.int .i64 l3)) ⟨w3.heap.size, 1, none⟩ (by (try simp); omega) (.slice vg3 rs.length vc3)
             change Exit.then _ _ Exit.normal _ ((p3.setCell ⟨w3.heap.size, 0, none⟩ (.int .i64 l3)).setCell ⟨w3.heap.size, 1, none⟩ (.slice vg3 rs.length vc3))
             clear dz0 dz1 fz0 fz1 RZ HO3 hbk GL hc6 U3
             generalize ((p3.setCell ⟨w3.heap.size, 0, none⟩ (.int .i64 l3)).setCell ⟨w3.heap.size, 1, none⟩ (.slice vg3 rs.length vc3)) = wN at *
             obtain ⟨g9, hgn⟩ : ∃ g, g = w3.heap.size := ⟨_, rfl⟩
             rw [← hgn] at R9 ⊢
             clear hgn)
          | (have R9 : RowB ((p3.setCell ⟨p2.heap.size, 0, none⟩ (.int .i64 l3)).setCell ⟨p2.heap.size, 1, none⟩ (.slice vg3 rs.length vc3)) p2.heap.size l3 (.slice vg3 rs.length vc3) := rowB_set2 RZ l3 (.slice vg3 rs.length vc3)
             replace R5 := ((Row.grownBy R5 GL (by (try simp); omega)).other ⟨p2.heap.size, 0, none⟩ (by have := Row.lt R5; (try simp); omega) (.int .i64 l3)).other ⟨p2.heap.size, 1, none⟩ (by have := Row.lt R5; (try simp); omega) (.slice vg3 rs.length vc3)
             replace R0 := ((Row.grownBy R0 GL (by (try simp); omega)).other ⟨p2.heap.size, 0, none⟩ (by have := Row.lt R0; (try simp); omega) (.int .i64 l3)).other ⟨p2.heap.size, 1, none⟩ (by have := Row.lt R0; (try simp); omega) (.slice vg3 rs.length vc3)
             replace HO := Own.setApart (own_up HO GL (by omega)) (p2.heap.size) l3 (.slice vg3 rs.length vc3) (own_row_ne (own_up HO GL (by omega)) RZ)
             have O3b : Own ((p3.setCell ⟨p2.heap.size, 0, none⟩ (.int .i64 l3)).setCell ⟨p2.heap.size, 1, none⟩ (.slice vg3 rs.length vc3)) w.heap.size (.slice vg3 rs.length vc3) rs := Own.setApart (HO3.out.mono (by (try simp); omega)) (p2.heap.size) l3 (.slice vg3 rs.length vc3) (own_row_ne HO3.out RZ)
             have hcN := CurIs.set hc6 (p2.heap.size) l3 (.slice vg3 rs.length vc3) (by omega)
             replace G2 := grownBy_setNew (grownBy_setNew (grownBy_trans G2 GL) ⟨p2.heap.size, 0, none⟩ (by (try simp); omega) (.int .i64 l3)) ⟨p2.heap.size, 1, none⟩ (by (try simp); omega) (.slice vg3 rs.length vc3)
             change Exit.then _ _ Exit.normal _ ((p3.setCell ⟨p2.heap.size, 0, none⟩ (.int .i64 l3)).setCell ⟨p2.heap.size, 1, none⟩ (.slice vg3 rs.length vc3))
             clear dz0 dz1 fz0 fz1 RZ HO3 hbk GL hc6 U3
             generalize ((p3.setCell ⟨p2.heap.size, 0, none⟩ (.int .i64 l3)).setCell ⟨p2.heap.size, 1, none⟩ (.slice vg3 rs.length vc3)) = wN at *
             obtain ⟨g9, hgn⟩ : ∃ g, g = p2.heap.size := ⟨_, rfl⟩
             rw [← hgn] at R9 ⊢
             clear hgn)
          | (have R9 : RowB ((p3.setCell ⟨p1.heap.size, 0, none⟩ (.int .i64 l3)).setCell ⟨p1.heap.size, 1, none⟩ (.slice vg3 rs.length vc3)) p1.heap.size l3 (.slice vg3 rs.length vc3) := rowB_set2 RZ l3 (.slice vg3 rs.length vc3)
             replace R5 := ((Row.grownBy R5 GL (by (try simp); omega)).other ⟨p1.heap.size, 0, none⟩ (by have := Row.lt R5; (try simp); omega) (.int .i64 l3)).other ⟨p1.heap.size, 1, none⟩ (by have := Row.lt R5; (try simp); omega) (.slice vg3 rs.length vc3)
             replace R0 := ((Row.grownBy R0 GL (by (try simp); omega)).other ⟨p1.heap.size, 0, none⟩ (by have := Row.lt R0; (try simp); omega) (.int .i64 l3)).other ⟨p1.heap.size, 1, none⟩ (by have := Row.lt R0; (try simp); omega) (.slice vg3 rs.length vc3)
             replace HO := Own.setApart (own_up HO GL (by omega)) (p1.heap.size) l3 (.slice vg3 rs.length vc3) (own_row_ne (own_up HO GL (by omega)) RZ)
             have O3b : Own ((p3.setCell ⟨p1.heap.size, 0, none⟩ (.int .i64 l3)).setCell ⟨p1.heap.size, 1, none⟩ (.slice vg3 rs.length vc3)) w.heap.size (.slice vg3 rs.length vc3) rs := Own.setApart (HO3.out.mono (by (try simp); omega)) (p1.heap.size) l3 (.slice vg3 rs.length vc3) (own_row_ne HO3.out RZ)
             have hcN := CurIs.set hc6 (p1.heap.size) l3 (.slice vg3 rs.length vc3) (by omega)
             replace G2 := grownBy_setNew (grownBy_setNew (grownBy_trans G2 GL) ⟨p1.heap.size, 0, none⟩ (by (try simp); omega) (.int .i64 l3)) ⟨p1.heap.size, 1, none⟩ (by (try simp); omega) (.slice vg3 rs.length vc3)
             change Exit.then _ _ Exit.normal _ ((p3.setCell ⟨p1.heap.size, 0, none⟩ (.int .i64 l3)).setCell ⟨p1.heap.size, 1, none⟩ (.slice vg3 rs.length vc3))
             clear dz0 dz1 fz0 fz1 RZ HO3 hbk GL hc6 U3
             generalize ((p3.setCell ⟨p1.heap.size, 0, none⟩ (.int .i64 l3)).setCell ⟨p1.heap.size, 1, none⟩ (.slice vg3 rs.length vc3)) = wN at *
             obtain ⟨g9, hgn⟩ : ∃ g, g = p1.heap.size := ⟨_, rfl⟩
             rw [← hgn] at R9 ⊢
             clear hgn)
          | (have R9 : RowB _ p3.heap.size l3 (.slice vg3 rs.length vc3) := Row.new p3 _ _
             replace R5 := (Row.grownBy R5 GL (by (try simp); omega)).alloc (.cells (cb l3 (.slice vg3 rs.length vc3)) 25)
             have R0w := Row.grownBy R0 GL (by (try simp); omega)
             replace R0 := R0w.alloc (.cells (cb l3 (.slice vg3 rs.length vc3)) 25)
             replace HO := (own_up HO GL (by omega)).below ((Below.refl _ _).alloc (Nat.le_refl _) (.cells (cb l3 (.slice vg3 rs.length vc3)) 25))
             have O3 := HO3.out.below ((Below.refl _ _).alloc (Nat.le_refl _) (.cells (cb l3 (.slice vg3 rs.length vc3)) 25))
             have hcN := hc6.below ((Below.refl _ _).alloc (Nat.le_refl _) (.cells (cb l3 (.slice vg3 rs.length vc3)) 25))
             replace G2 := grownBy_alloc' (grownBy_trans G2 GL) (.cells (cb l3 (.slice vg3 rs.length vc3)) 25)
             have O3b : Own _ w.heap.size (.slice vg3 rs.length vc3) rs := O3.mono (by (try simp); omega)
             change Exit.then _ _ Exit.normal _ (p3.alloc (.cells (cb l3 (.slice vg3 rs.length vc3)) 25))
             clear R0w O3 HO3 hbk GL hc6 U3
             generalize p3.alloc (.cells (cb l3 (.slice vg3 rs.length vc3)) 25) = wN at *
             generalize p3.heap.size = g9 at *)
        clear hcd KS GD hc3 hc4 hc5 hgk hq1 hq2 hq3
        have hrs : rs.length ≤ 6 := by have := HNZ.out; omega
        have hwg : w.heap.size ≠ g5 := by omega
        have hcg : c < g5 := by omega
        have hwl : w.heap.size ≤ g5 := by omega
        have R5h := Lib.hid R5; have R0h := Lib.hid R0; have HOh := Lib.hid HO; have O3h := Lib.hid O3b; have hch := Lib.hid hcN; have Gh := Lib.hid G2; have R9h := Lib.hid R9
        clear R5 R0 HO O3b hcN G2 R9 i1 i2
        cases ok
        · go_wp2
          go_roundw
          case rel => exact ⟨j - 1, lr, _, zs, by omega, by go_num, by rw [HNZ.out]; exact hzl, hlr, R5h.out, R0h.out, HOh.out, hch.out.mono (by omega), Gh.out⟩
          case measure => simp [intOf]; omega
        · go_wp2_with (first
            | (refine wl_loadB rfl _ rfl g9 l3 (.slice vg3 rs.length vc3) R9h.out rfl ?_)
            | (refine wl_storeB rfl _ _ rfl g5 l3 (.slice vg3 rs.length vc3) _ _ R5h.out rfl rfl rfl ?_))
          go_roundw
          case rel => exact ⟨j - 1, l3, _, rs, by omega, by go_num, hrs, hl3, Row.put R5h.out _, Row.putOther R0h.out _ hwg, own_putRow O3h.out _ _ (own_row_ne O3h.out R5h.out), (hch.out.mono (by omega)).setRow _ _ hcg, grownBy_setRow Gh.out _ hwl _⟩
          case measure => simp [intOf]; omega
    · have hx : j = 0 ∨ (0 < j ∧ L = 0) := by omega
      have hwc2 : c < w.heap.size := hcl
      have hcz := hc2.mono (show n + 2 + 8 * (4 - j) ≤ n + 40 by omega)
      have q0 := RowB.c0 R5; have q1 := RowB.c1 R5
      by_cases hz : nz = 0
      · subst hz
        rcases hx with rfl | ⟨hj0, rfl⟩
        all_goals
          go_wp2_with (first
            | (refine wl_loadB rfl _ rfl g5 lr (.slice vg 0 vc) R5 rfl ?_)
            | (refine wl_storeB rfl _ _ rfl w.heap.size lr (.slice vg 0 vc) _ _ R0 rfl rfl rfl ?_))
          exact bodyPost_ret (res_row Tryd.results75 (Row.put R0 (cb lr (.slice vg 0 vc))) rfl Tryd.underlying25 rfl info_bits) rfl ⟨lr, _, zs, by rw [HNZ.out]; exact hzl, hlr, rfl, own_putRow HO _ _ (own_row_ne HO R0), (hcz.mono (by omega)).setRow _ _ hwc2, grownBy_setRow G2 _ (Nat.le_refl _) _⟩
      · have hz0 : 0 < nz := by omega
        rcases hx with rfl | ⟨hj0, rfl⟩
        all_goals
          go_wp2_with fail
          refine (c_one c (n + 40) 30 _ hcz (by omega) (by omega) (by omega)).mono ?_
          rintro e w3 ⟨oo, rfl, hc3, hg3⟩
          replace R5 := Row.grownBy R5 hg3 (by simp; omega)
          replace R0 := Row.grownBy R0 hg3 (by simp; omega)
          replace HO := own_up HO hg3 (by omega)
          replace G2 := grownBy_trans G2 hg3
          clear q0 q1 hg3 hc2 hcz
          cases oo
          · go_wp2_with (first
              | (refine wl_loadB rfl _ rfl g5 lr (.slice vg nz vc) R5 rfl ?_)
              | (refine wl_storeB rfl _ _ rfl w.heap.size lr (.slice vg nz vc) _ _ R0 rfl rfl rfl ?_))
            exact bodyPost_ret (res_row Tryd.results75 (Row.put R0 (cb lr (.slice vg nz vc))) rfl Tryd.underlying25 rfl info_bits) rfl ⟨lr, _, zs, by rw [HNZ.out]; exact hzl, hlr, rfl, own_putRow HO _ _ (own_row_ne HO R0), (hc3.mono (by omega)).setRow _ _ hwc2, grownBy_setRow G2 _ (Nat.le_refl _) _⟩
          · obtain ⟨g7, rfl, hg7⟩ : ∃ g, vg = Option.some ⟨g, 0, none⟩ ∧ w.heap.size ≤ g := by
              have hnz := HNZ.out
              rcases HO.2 with ⟨_, h2⟩ | ⟨g, cap, cur, h1, h2, _⟩
              · omega
              · simp only [Value.slice.injEq] at h1; exact ⟨g, h1.1, h2⟩
            obtain ⟨k, hkn⟩ : ∃ k, nz = k + 1 := ⟨nz - 1, by omega⟩
            have hwk : IntKind.i64.wrap ((nz : Int) - 1) = (k : Int) := by rw [IntWalk.i64_in _ (by omega)]; omega
            have hk1 : (k : Int) < (nz : Int) := (by omega); have hk0 : (0 : Int) ≤ (k : Int) := (by omega); have hkN : k < nz := (by omega); have HK := Lib.hid hkn; clear hkn; have hi1 : ¬ ((k : Int) < 0) := (by omega)
            have hcA : Hid (CurIs (w3.alloc (.cells #[.int .i64 (-1), .int .i64 65535, .int .i64 65536] 3)).drew c (n + 42)) := CurIs.below (w := w3) hc3 (show Below w3.heap.size w3 (w3.alloc (.cells #[.int .i64 (-1), .int .i64 65535, .int .i64 65536] 3)).drew from ⟨rfl, rfl, rfl, by simp, fun i hi => Below.heap_alloc _ _ _ hi⟩)
            have GA : w3.grownBy (w3.alloc (.cells #[.int .i64 (-1), .int .i64 65535, .int .i64 65536] 3)).drew (some c) := grownBy_drew (World.grownBy_alloc _ _ _)
            have KS : Hid (∀ X, w3.grownBy X (some c) → X.cell? ⟨g5, 1, none⟩ = some (.slice (Option.some ⟨g7, 0, none⟩) nz vc)) := fun X hX => RowB.c1 (Row.grownBy R5 hX (by simp; omega))
            have GD := grownBy_drew (World.grownBy.refl w3 (some c))
            have s3 := G2.size
            have hne : g5 ≠ g7 := fun h => own_row_ne HO R5 (by rw [h]; rfl)
            have hne0 : w.heap.size ≠ g7 := fun h => own_row_ne HO R0 (by rw [h]; rfl)
            have HB3 : Hid (Own (w3.alloc (.cells #[.int .i64 (-1), .int .i64 65535, .int .i64 65536] 3)).drew (c + 1) (.slice (some ⟨w3.heap.size, 0, none⟩) 3 3) [-1, 65535, 65536]) :=
              ⟨rfl, .inr ⟨w3.heap.size, 3, _, rfl, by omega, heap_alloc_new w3 _, Nat.le_refl _, by decide, rfl, rfl⟩⟩
            go_wp2_with fail
            go_region_held3 (fun w' => w'.cell? ⟨g5, 1, none⟩ = some (.slice (Option.some ⟨g7, 0, none⟩) nz vc))
              (first
                | assumption
                | exact KS.out _ GD
                | exact KS.out _ GA
                | exact KS.out _ GL
                | exact (World.cell?_of_block (w := p1) (a := ⟨g5, 1, none⟩) (heap_setCell_other p1 ⟨g7, _, none⟩ g5 _ hne)).trans (KS.out _ GL))
              (first | (go_at_call 72; (refine (c_among c (n + 42) _ [-1, 65535, 65536] (-1) 65536 _ hcA.out (by omega) HB3.out (by simp) (by simp) (by intro z hz; simp at hz; omega)).mono ?_; rintro e p1 ⟨y, hy, rfl, hc4, hgk⟩; have GL : w3.grownBy p1 (some c) := grownBy_trans GA hgk; have HP := own_up HO GL (by omega); have hnz := HNZ.out; have hown : p1.ownsRow w.heap.size 3 1 (.slice (Option.some ⟨g7, 0, none⟩) nz vc) nz (zs.map (Value.int .i64)) := (by have := HP; unfold Own at this; rwa [hnz] at this); have hfr := hown.frozenAt k; have qx : p1.cell? ⟨g7, k, none⟩ = Option.some (.int .i64 (zs.getD k 0)) := (by rw [hown.cellAt k (by omega), List.getElem?_map, List.getElem?_eq_getElem (by omega)]; simp [List.getD, List.getElem?_eq_getElem (show k < zs.length by omega)]); have HW := Lib.hid hown; clear hown HP hnz)))
            all_goals
              obtain ⟨s1, s2⟩ := HW.out.stored k (.int .i64 y)
              have O9 : Own (p1.setCell ⟨g7, k, none⟩ (.int .i64 y)) w.heap.size (.slice (Option.some ⟨g7, 0, none⟩) nz vc) (zs.set k y) := by
                unfold Own; rw [List.length_set, HNZ.out, List.map_set]; exact s1
              replace R5 := Row.other (Row.grownBy R5 GL (by simp; omega)) ⟨g7, k, none⟩ (by simp; omega) (.int .i64 y)
              replace R0 := Row.other (Row.grownBy R0 GL (by simp; omega)) ⟨g7, k, none⟩ (by simp; omega) (.int .i64 y)
              have G9 := grownBy_setNew (grownBy_trans G2 GL) ⟨g7, k, none⟩ hg7 (.int .i64 y)
              have hc9 : CurIs (p1.setCell ⟨g7, k, none⟩ (.int .i64 y)) c (n + 42 + 2) := hc4.kept (fun i hi => heap_setCell_other _ ⟨g7, k, none⟩ i _ (by simp; omega))
              go_wp2_with (first
                | (refine wl_loadB rfl _ rfl g5 lr (.slice (Option.some ⟨g7, 0, none⟩) nz vc) R5 rfl ?_)
                | (refine wl_storeB rfl _ _ rfl w.heap.size lr (.slice (Option.some ⟨g7, 0, none⟩) nz vc) _ _ R0 rfl rfl rfl ?_))
              exact bodyPost_ret (res_row Tryd.results75 (Row.put R0 (cb lr (.slice (Option.some ⟨g7, 0, none⟩) nz vc))) rfl Tryd.underlying25 rfl info_bits) rfl ⟨lr, _, zs.set k y, by rw [List.length_set, HNZ.out]; exact hzl, hlr, rfl, own_putRow O9 _ _ (own_row_ne O9 R0), (hc9.mono (by omega)).setRow _ _ hwc2, grownBy_setRow G9 _ (Nat.le_refl _) _⟩
end Go.Proofs.YtcelebblcjhpaaaDoor
