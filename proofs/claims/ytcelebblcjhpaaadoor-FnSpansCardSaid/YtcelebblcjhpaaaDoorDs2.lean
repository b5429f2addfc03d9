/- What the laws of chapter 4 draw: a span. -/
import Derived.Test.YtcelebblcjhpaaaDoorDs1
import Derived.Deep.CutRange
namespace Go.Proofs.YtcelebblcjhpaaaDoor
open Go.RowKit Pb

set_option maxHeartbeats 12800000 in
set_option maxRecDepth 100000 in
theorem c_spanD (c n : Nat) (w : World) (hc : CurIs w c n) (hn : n ≤ 999999000) : Calls Tryd.prog 66 #[.pointer (some ⟨c, 0, none⟩)] w (SpanDrawn c (n + 60) w) := by
  have hcl := hc.lt
  have HC := Lib.hid (hc.below ((Below.refl w.heap.size w).alloc (Nat.le_refl _) (.cells (c4 0 0 0 (.slice none 0 0)) 27))); clear hc
  have r0 : RowS (w.alloc (.cells (c4 0 0 0 (.slice none 0 0)) 27)) w.heap.size 0 0 0 (.slice none 0 0) := Row.new w _ _
  go_enter Tryd.func66, Tryd.ntmps66
  go_wp2_with fail
  refine (c_pick c n 20 _ HC.out (by omega) (by omega) (by omega)).mono ?_
  rintro e w1 ⟨x1, hx1, rfl, hc1, hg1⟩
  have g1 : w.grownBy w1 (some c) := grownBy_trans (World.grownBy_alloc _ _ _) hg1
  replace r0 := Row.grownBy r0 hg1 (by (try simp); omega)
  clear hg1 HC
  go_wp2_with fail
  refine (c_pick c _ 36 _ hc1 (by omega) (by omega) (by omega)).mono ?_
  rintro e w2 ⟨x2, hx2, rfl, hc2, hg2⟩
  replace g1 := grownBy_trans g1 hg2
  replace r0 := Row.grownBy r0 hg2 (by (try simp); omega)
  clear hg2 hc1
  go_wp2_with fail
  have ho : Own (w2.alloc (.cells #[.int .i64 0, .int .i64 3, .int .i64 7, .int .i64 8, .int .i64 12, .int .i64 20, .int .i64 30, .int .i64 34, .int .i64 x2] 3)) (c + 1) (.slice (some ⟨w2.heap.size, 0, none⟩) 9 9) [0, 3, 7, 8, 12, 20, 30, 34, x2] :=
    ⟨rfl, .inr ⟨w2.heap.size, 9, _, rfl, hc2.lt, heap_alloc_new _ _, Nat.le_refl _, by decide, rfl, rfl⟩⟩
  refine (c_among c _ _ [0, 3, 7, 8, 12, 20, 30, 34, x2] 0 36 _ (hc2.kept (fun k hk => Below.heap_alloc _ _ _ (by have := hc2.lt; omega))) (by omega) ho (by simp) (by simp) (by intro z hz; simp at hz; omega)).mono ?_
  rintro e w3 ⟨x3, hx3, rfl, hc3, hg3⟩
  replace g1 := grownBy_trans (grownBy_alloc' g1 _) hg3
  replace r0 := Row.grownBy (Row.alloc r0 _) hg3 (by (try simp); omega)
  clear ho hg3 hc2
  go_wp2_with fail
  refine (c_sNewSpan_any x1 x3 _).mono ?_
  rintro e w4 ⟨f, k, l, v, zs, ok, hSB, rfl, ho, hb4⟩
  have s3 := g1.size
  have hlt3 := Row.lt r0
  have hs4 := hb4.size
  obtain ⟨vg, vc, hvs, _⟩ := ho.shape
  subst hvs
  have HO := (ho.mono s3).below ((Below.refl _ _).alloc (Nat.le_refl _) (.cells (c4 f k l (.slice vg zs.length vc)) 27))
  replace hc3 := (hc3.below hb4).below ((Below.refl _ _).alloc (Nat.le_refl _) (.cells (c4 f k l (.slice vg zs.length vc)) 27))
  replace r0 := (Row.below r0 hb4).alloc (.cells (c4 f k l (.slice vg zs.length vc)) 27)
  have x4 : RowS (w4.alloc (.cells (c4 f k l (.slice vg zs.length vc)) 27)) w4.heap.size f k l (.slice vg zs.length vc) := Row.new w4 _ _
  replace g1 := grownBy_alloc' (grownBy_step g1 hb4) (.cells (c4 f k l (.slice vg zs.length vc)) 27)
  have hw4 : w.heap.size < w4.heap.size := by omega
  clear ho hb4
  go_wp2_with fail
  generalize w4.alloc (.cells (c4 f k l (.slice vg zs.length vc)) 27) = wa at *
  generalize w4.heap.size = g3 at *
  refine (c_pick c _ 12 _ hc3 (by omega) (by omega) (by omega)).mono ?_
  rintro e w5 ⟨M, hM, rfl, hc5, hg5⟩
  replace x4 := Row.grownBy x4 hg5 (by (try simp); omega)
  replace r0 := Row.grownBy r0 hg5 (by (try simp); omega)
  replace HO := own_up HO hg5 (by omega)
  replace g1 := grownBy_trans g1 hg5
  obtain ⟨M, rfl⟩ := Int.eq_ofNat_of_zero_le hM.1
  have HSB := Lib.hid hSB
  clear hg5 hc3 hSB s3
  go_wp2
  go_loopw [5] (fun i wr => ∃ (j : Nat) (f k l : Int) (v : Value) (zs : List Int), j ≤ 11 ∧ i = .int .i64 j ∧ SpanB f l zs ∧ RowS wr g3 f k l v ∧ RowS wr w.heap.size 0 0 0 (.slice none 0 0) ∧ Own wr w.heap.size v zs ∧ CurIs wr c (n + 2 + 2 + 2 + 2 + 4 * (11 - j)) ∧ w.grownBy wr (some c)) (fun i _ => (intOf i).toNat)
  case atStart => exact ⟨M, f, k, l, _, zs, by omega, rfl, HSB.out, x4, r0, HO, hc5.mono (by omega), g1⟩
  case round =>
    clear HSB x4 r0 HO hc5 g1
    obtain ⟨j, f, k, l, v, zs, hj, rfl, hSB, R3, R0, HO, hc5, G⟩ := hrel
    have hg3c : g3 ≠ c := fun h => by subst h; exact absurd R3 (cur_rowS_ne hc5)
    obtain ⟨vg, vc, hvs, _⟩ := HO.shape
    subst hvs
    generalize hnz : zs.length = nz at *
    have HNZ := Lib.hid hnz; have HSB := Lib.hid hSB
    clear hnz hSB
    by_cases hj0 : 0 < j
    · cases ok with
      | false =>
        go_wp2_with fail
        refine (c_one c _ 30 _ hc5 (by omega) (by omega) (by omega)).mono ?_
        rintro e w6 ⟨b, rfl, hc6, hg6⟩
        replace R3 := Row.grownBy R3 hg6 (by (try simp); omega)
        replace R0 := Row.grownBy R0 hg6 (by (try simp); omega)
        replace HO := own_up HO hg6 (by omega)
        replace G := grownBy_trans G hg6
        clear hg6 hc5
        cases b with
        | false =>
          have HC := Lib.hid hc6; have HG := Lib.hid G; have H3 := Lib.hid HO
          clear hc6 G HO
          go_wp2_with (first
            | (refine wl_loadS rfl _ rfl g3 f k l (.slice vg nz vc) R3 rfl ?_)
            | (refine wl_storeS rfl _ _ rfl w.heap.size f k l (.slice vg nz vc) _ _ _ _ R0 rfl rfl rfl ?_))
          exact bodyPost_ret (res_row Tryd.results66 (Row.put R0 (c4 f k l (.slice vg nz vc))) rfl Tryd.underlying27 rfl info_span) rfl ⟨f, k, l, _, zs, HSB.out, rfl, Own.put H3.out _ _ (own_row_ne' H3.out R0), (HC.out.mono (by omega)).setRow _ _ hcl, grownBy_setRow HG.out _ (Nat.le_refl _) _⟩
        | true =>
          go_wp2_with fail
          have ho : Own (w6.alloc (.cells #[.int .i64 (-1), .int .i64 24, .int .i64 31, .int .i64 32] 3)) (c + 1) (.slice (some ⟨w6.heap.size, 0, none⟩) 4 4) [-1, 24, 31, 32] :=
            ⟨rfl, .inr ⟨w6.heap.size, 4, _, rfl, hc6.lt, heap_alloc_new _ _, Nat.le_refl _, by decide, rfl, rfl⟩⟩
          refine (c_among c _ _ [-1, 24, 31, 32] (-1) 32 _ (hc6.kept (fun k hk => Below.heap_alloc _ _ _ (by have := hc6.lt; omega))) (by omega) ho (by simp) (by simp) (by intro z hz; simp at hz; omega)).mono ?_
          rintro e w7 ⟨x7, hx7, rfl, hc7, hg7⟩
          replace R3 := Row.grownBy (Row.alloc R3 _) hg7 (by (try simp); omega)
          replace R0 := Row.grownBy (Row.alloc R0 _) hg7 (by (try simp); omega)
          replace HO := own_up (HO.below ((Below.refl _ _).alloc (Nat.le_refl _) _)) hg7 (by omega)
          replace G := grownBy_trans (grownBy_alloc' G _) hg7
          clear ho hg7 hc6
          have hw3 : w.heap.size ≠ g3 := by omega
          have hw3' : w.heap.size ≤ g3 := by omega
          have hc3' : c < g3 := by omega
          have q0 := RowS.c0 R3
          have f0 := Row.frozen R3 0
          have hon := own_row_ne' HO R3
          have X3 : RowS (w7.setCell ⟨g3, 0, none⟩ (.int .i64 x7)) g3 x7 k l (.slice vg nz vc) := (Row.set R3 0 _).trans rfl
          have X0 := Row.other R0 ⟨g3, 0, none⟩ hw3 (.int .i64 x7)
          have HC := Lib.hid (hc7.set1 g3 0 (.int .i64 x7) hc3')
          have HG := Lib.hid (grownBy_setNew G ⟨g3, 0, none⟩ hw3' (.int .i64 x7))
          have H3 : Hid (Own (w7.setCell ⟨g3, 0, none⟩ (.int .i64 x7)) w.heap.size (.slice vg nz vc) zs) := own_set1 HO g3 0 (.int .i64 x7) hon
          have RX3 := Lib.hid X3; have RX0 := Lib.hid X0
          clear R3 R0 HO hc7 G X3 X0 hon
          go_wp2_with (first
            | (refine wl_loadS rfl _ rfl g3 x7 k l (.slice vg nz vc) RX3.out rfl ?_)
            | (refine wl_storeS rfl _ _ rfl w.heap.size x7 k l (.slice vg nz vc) _ _ _ _ RX0.out rfl rfl rfl ?_))
          exact bodyPost_ret (res_row Tryd.results66 (Row.put RX0.out (c4 x7 k l (.slice vg nz vc))) rfl Tryd.underlying27 rfl info_span) rfl ⟨x7, k, l, _, zs, ⟨hx7, HSB.out.2⟩, rfl, Own.put H3.out _ _ (own_row_ne' H3.out RX0.out), (HC.out.mono (by omega)).setRow _ _ hcl, grownBy_setRow HG.out _ (Nat.le_refl _) _⟩
      | true =>
        go_wp2_with (refine wl_loadS rfl _ rfl g3 f k l (.slice vg nz vc) R3 rfl ?_)
        refine (c_sTakeSlot_any f k l (.slice vg nz vc) zs _ HO.ints).mono ?_
        rintro e w6 ⟨f6, k6, l6, v6, rs6, p6, ok6, hSB6, rfl, ho6, hb6⟩
        obtain ⟨vg6, vc6, hvs6, _⟩ := ho6.shape
        subst hvs6
        generalize hn6 : rs6.length = n6 at *
        have HN6 := Lib.hid hn6; clear hn6
        have hs6 := G.size
        have X6 : RowS (w6.alloc (.cells (c4 f6 k6 l6 (.slice vg6 n6 vc6)) 27)) w6.heap.size f6 k6 l6 (.slice vg6 n6 vc6) := Row.new w6 _ _
        replace R3 := (Row.below R3 hb6).alloc (.cells (c4 f6 k6 l6 (.slice vg6 n6 vc6)) 27)
        replace R0 := (Row.below R0 hb6).alloc (.cells (c4 f6 k6 l6 (.slice vg6 n6 vc6)) 27)
        replace HO := (HO.below hb6).below ((Below.refl _ _).alloc (Nat.le_refl _) (.cells (c4 f6 k6 l6 (.slice vg6 n6 vc6)) 27))
        have O6 := (ho6.mono hs6).below ((Below.refl _ _).alloc (Nat.le_refl _) (.cells (c4 f6 k6 l6 (.slice vg6 n6 vc6)) 27))
        replace hc5 := (hc5.below hb6).below ((Below.refl _ _).alloc (Nat.le_refl _) (.cells (c4 f6 k6 l6 (.slice vg6 n6 vc6)) 27))
        replace G := grownBy_alloc' (grownBy_step G hb6) (.cells (c4 f6 k6 l6 (.slice vg6 n6 vc6)) 27)
        clear ho6 hb6
        go_upto_if 37 with fail
        have hw30 : w.heap.size ≠ g3 := by omega
        have hw31 : w.heap.size ≤ g3 := by omega
        have hc31 : c < g3 := by omega
        go_cut [] from 24 to 51 (fun wz => ∃ (f k l : Int) (vg : Option Addr) (nz vc : Nat) (zs : List Int), SpanB f l zs ∧ RowS wz g3 f k l (.slice vg nz vc) ∧ RowS wz w.heap.size 0 0 0 (.slice none 0 0) ∧ Own wz w.heap.size (.slice vg nz vc) zs ∧ CurIs wz c (n + 2 + 2 + 2 + 2 + 4 * (11 - j)) ∧ w.grownBy wz (some c))
        case first =>
          have HR3 := Lib.hid R3; have HR0 := Lib.hid R0; have HO6 := Lib.hid O6; have HOO := Lib.hid HO; have HC5 := Lib.hid hc5; have HGG := Lib.hid G; have HX6 := Lib.hid X6; have HS6 := Lib.hid hSB6
          clear R0 HO hc5 G O6
          cases ok6 with
          | false =>
            clear R3 X6
            go_wp2_with fail
            go_meet
            case rel => exact ⟨f, k, l, vg, nz, vc, zs, HSB.out, HR3.out, HR0.out, HOO.out, HC5.out, HGG.out⟩
          | true =>
            go_wp2_with (first
              | (refine wl_loadS rfl _ rfl w6.heap.size f6 k6 l6 (.slice vg6 n6 vc6) X6 rfl ?_)
              | (refine wl_storeS rfl _ _ rfl g3 f6 k6 l6 (.slice vg6 n6 vc6) _ _ _ _ R3 rfl rfl rfl ?_))
            go_meet
            case rel => exact ⟨f6, k6, l6, vg6, n6, vc6, rs6, HS6.out, Row.put HR3.out (c4 f6 k6 l6 (.slice vg6 n6 vc6)), Row.putOther HR0.out (c4 f6 k6 l6 (.slice vg6 n6 vc6)) hw30, Own.put HO6.out g3 (c4 f6 k6 l6 (.slice vg6 n6 vc6)) (own_row_ne' HO6.out HR3.out), HC5.out.setRow g3 (c4 f6 k6 l6 (.slice vg6 n6 vc6)) hc31, grownBy_setRow HGG.out g3 hw31 (c4 f6 k6 l6 (.slice vg6 n6 vc6))⟩
        case rest =>
          clear HSB HNZ R3 R0 HO hc5 G X6 O6 hSB6 HN6
          obtain ⟨f, k, l, vg, nz, vc, zs, hSB, R3, R0, HO, hc5, G⟩ := hcut
          have HSB := Lib.hid hSB; clear hSB
          have KS : Hid (∀ X, wc.grownBy X (some c) → X.cell? ⟨g3, 0, none⟩ = some (.int .i64 f) ∧ X.cell? ⟨g3, 1, none⟩ = some (.int .i64 k) ∧ X.cell? ⟨g3, 2, none⟩ = some (.int .i64 l) ∧ X.cell? ⟨g3, 3, none⟩ = some (.slice vg nz vc) ∧ wc.grownBy X (some c)) := fun X hX => ⟨RowS.c0 (Row.grownBy R3 hX (by (try simp); omega)), RowS.c1 (Row.grownBy R3 hX (by (try simp); omega)), RowS.c2 (Row.grownBy R3 hX (by (try simp); omega)), RowS.c3 (Row.grownBy R3 hX (by (try simp); omega)), hX⟩
          have GD := grownBy_drew (World.grownBy.refl wc (some c))
          have hcd : CurIs wc.drew c _ := hc5
          have s8 := G.size
          have hw3 : w.heap.size ≠ g3 := by omega
          have lt3 := Row.lt R3
          have lt0 := Row.lt R0
          go_wp2_with fail
          refine wp_region_noPanic ?_
          refine wp_region_held_drew (S := (fun w' => w'.cell? ⟨g3, 0, none⟩ = some (.int .i64 f) ∧ w'.cell? ⟨g3, 1, none⟩ = some (.int .i64 k) ∧ w'.cell? ⟨g3, 2, none⟩ = some (.int .i64 l) ∧ w'.cell? ⟨g3, 3, none⟩ = some (.slice vg nz vc) ∧ wc.grownBy w' (some c))) (by kernel_rfl) (KS.out _ GD) (fun hHeld => ?_)
          refine wpAnyH_take (i := 0) (v := ?va0x1) rfl (by kernel_rfl) (by kernel_rfl) (by kernel_rfl) (fun _ _ _ h => h) (Or.inl ⟨by rfl, ?hy0x1⟩) (by assumption) ?rest0x1
          case hy0x1 => (intro w hSw; (try dsimp only at hSw); go_simp; try with_reducible rfl)
          (try simp only [Act.put, List.getElem_toArray, List.getElem_cons_zero, List.setIfInBounds_toArray, List.set_cons_zero, List.set_cons_succ])
          refine wpAnyH_take (i := 1) (v := ?va1x2) rfl (by kernel_rfl) (by kernel_rfl) (by kernel_rfl) (fun _ _ _ h => h) (Or.inl ⟨by rfl, ?hy1x2⟩) (by assumption) ?rest1x2
          case hy1x2 => (intro w hSw; (try dsimp only at hSw); go_simp; try with_reducible rfl)
          (try simp only [Act.put, List.getElem_toArray, List.getElem_cons_zero, List.getElem_cons_succ, List.setIfInBounds_toArray, List.set_cons_zero, List.set_cons_succ])
          refine wpAnyH_ready (rs := [2, 7]) (by kernel_rfl) (by simp) ?_
          refine AllReadyH.cons rfl (fun K hK => ?_) ?_
          · go_simp
            refine (c_pick c _ 6 _ hcd (by omega) (by omega) (by omega)).mono ?_
            rintro e p1 ⟨x6, hx6, rfl, hc6, hgk⟩
            have gk1 := grownBy_trans GD hgk
            have hq1 := hgk.size
            try simp only [World.size_alloc] at hq1
            refine hK.out _ _ (KS.out _ gk1) (fun hHeld => ?_)
            clear hK K
            (try simp only [Act.put, List.getElem_toArray, List.getElem_cons_zero, List.getElem_cons_succ, List.setIfInBounds_toArray, List.set_cons_zero, List.set_cons_succ])
            refine wpAnyH_ready (rs := [3, 7]) (by kernel_rfl) (by simp) ?_
            refine AllReadyH.cons rfl (fun K hK => ?_) ?_
            · go_simp
              refine (c_sFreeSlot_any f k l (.slice vg nz vc) zs x6 _ (own_up HO gk1 (by omega)).ints).mono ?_
              rintro e p2 ⟨f9, k9, l9, v9, rs, ok9, hSB9, rfl, ho9, hbk⟩
              have hX0 := (gk1).size
              try simp only [World.size_alloc] at hX0
              have hq2 := hbk.size
              try simp only [World.size_alloc] at hq2
              have gk2 := grownBy_step gk1 hbk
              replace hc6 := hc6.below hbk
              obtain ⟨vg9, vc9, hvs9, _⟩ := ho9.shape
              subst hvs9
              generalize hn9 : rs.length = n9 at *
              have HN9 := Lib.hid hn9; clear hn9
              refine hK.out _ _ (KS.out _ gk2) (fun hHeld => ?_)
              clear hK K
              (try simp only [Act.put, List.getElem_toArray, List.getElem_cons_zero, List.getElem_cons_succ, List.setIfInBounds_toArray, List.set_cons_zero, List.set_cons_succ])
              refine wpAnyH_take (i := 4) (v := ?va4x4) rfl (by kernel_rfl) (by kernel_rfl) (by kernel_rfl) (fun _ _ _ h => h) (Or.inl ⟨by rfl, ?hy4x4⟩) (by assumption) ?rest4x4
              case hy4x4 => (intro w hSw; (try dsimp only at hSw); go_simp; try with_reducible rfl)
              (try simp only [Act.put, List.getElem_toArray, List.getElem_cons_zero, List.getElem_cons_succ, List.setIfInBounds_toArray, List.set_cons_zero, List.set_cons_succ])
              refine wpAnyH_take (i := 5) (v := ?va5x5) rfl (by kernel_rfl) (by kernel_rfl) (by kernel_rfl) (fun _ _ _ h => h) (Or.inl ⟨by rfl, ?hy5x5⟩) (by assumption) ?rest5x5
              case hy5x5 => (intro w hSw; (try dsimp only at hSw); go_simp; try with_reducible rfl)
              (try simp only [Act.put, List.getElem_toArray, List.getElem_cons_zero, List.getElem_cons_succ, List.setIfInBounds_toArray, List.set_cons_zero, List.set_cons_succ])
              refine wpAnyH_take (i := 6) (v := ?va6x6) rfl (by kernel_rfl) (by kernel_rfl) (by kernel_rfl) (fun _ _ _ h => h) (Or.inl ⟨by rfl, ?hy6x6⟩) (by assumption) ?rest6x6
              case hy6x6 => (intro w hSw; (try dsimp only at hSw); go_simp; try with_reducible rfl)
              (try simp only [Act.put, List.getElem_toArray, List.getElem_cons_zero, List.getElem_cons_succ, List.setIfInBounds_toArray, List.set_cons_zero, List.set_cons_succ])
              refine wpAnyH_ready (rs := [7]) (by kernel_rfl) (by simp) ?_
              refine AllReadyH.cons rfl (fun K hK => ?_) AllReadyH.nil
              go_simp
              have gz0 := grownBy_alloc' gk2 (.cells (c4 0 0 0 (.slice none 0 0)) 27)
              refine hK.out _ _ (KS.out _ gz0) (fun hHeld => ?_)
              clear hK K
              (try simp only [Act.put, List.getElem_toArray, List.getElem_cons_zero, List.getElem_cons_succ, List.setIfInBounds_toArray, List.set_cons_zero, List.set_cons_succ])
              refine wpAnyH_ready (rs := [8]) (by kernel_rfl) (by simp) ?_
              refine AllReadyH.cons rfl (fun K hK => ?_) AllReadyH.nil
              go_simp
              have gw := grownBy_alloc' gk2 (.cells (c4 f9 k9 l9 (.slice vg9 n9 vc9)) 27)
              refine hK.out _ _ (KS.out _ gw) (fun hHeld => ?_)
              clear hK K
              (try simp only [Act.put, List.getElem_toArray, List.getElem_cons_zero, List.getElem_cons_succ, List.setIfInBounds_toArray, List.set_cons_zero, List.set_cons_succ])
              refine wpAnyH_take (i := 9) (v := ?va9x3) rfl (by kernel_rfl) (by kernel_rfl) (by kernel_rfl) (fun _ _ _ h => h) (Or.inl ⟨by rfl, ?hy9x3⟩) (by assumption) ?rest9x3
              case hy9x3 => (intro w hSw; (try dsimp only at hSw); go_simp; try with_reducible rfl)
              (try simp only [Act.put, List.getElem_toArray, List.getElem_cons_zero, List.getElem_cons_succ, List.setIfInBounds_toArray, List.set_cons_zero, List.set_cons_succ])
              refine wpAnyH_done (by kernel_rfl) ?_ _
              refine NoPanic.normal ?_
              have R9 : RowS (p2.alloc (.cells (c4 f9 k9 l9 (.slice vg9 n9 vc9)) 27)) p2.heap.size f9 k9 l9 (.slice vg9 n9 vc9) := Row.new p2 _ _
              have T3 := (Row.grownBy R3 gk2 (by (try simp); omega)).alloc (.cells (c4 f9 k9 l9 (.slice vg9 n9 vc9)) 27)
              have T0 := (Row.grownBy R0 gk2 (by (try simp); omega)).alloc (.cells (c4 f9 k9 l9 (.slice vg9 n9 vc9)) 27)
              have TO := (own_up HO gk2 (by omega)).below ((Below.refl _ _).alloc (Nat.le_refl _) (.cells (c4 f9 k9 l9 (.slice vg9 n9 vc9)) 27))
              have O9 : Own (p2.alloc (.cells (c4 f9 k9 l9 (.slice vg9 n9 vc9)) 27)) w.heap.size (.slice vg9 n9 vc9) rs := (ho9.mono (by first | omega | (simp; omega))).below ((Below.refl _ _).alloc (Nat.le_refl _) (.cells (c4 f9 k9 l9 (.slice vg9 n9 vc9)) 27))
              have TC := hc6.below ((Below.refl _ _).alloc (Nat.le_refl _) (.cells (c4 f9 k9 l9 (.slice vg9 n9 vc9)) 27))
              have TG := grownBy_alloc' (grownBy_trans G gk2) (.cells (c4 f9 k9 l9 (.slice vg9 n9 vc9)) 27)
              change Exit.then _ _ Exit.normal _ (p2.alloc (.cells (c4 f9 k9 l9 (.slice vg9 n9 vc9)) 27))
              generalize p2.alloc (.cells (c4 f9 k9 l9 (.slice vg9 n9 vc9)) 27) = wN at *
              generalize p2.heap.size = g9 at *
              have hg9c : g9 ≠ c := fun h => by subst h; exact absurd R9 (cur_rowS_ne TC)
              have R9h := Lib.hid R9; have T3h := Lib.hid T3; have T0h := Lib.hid T0; have TOh := Lib.hid TO; have O9h := Lib.hid O9; have TCh := Lib.hid TC; have TGh := Lib.hid TG; have SBh := Lib.hid hSB9
              clear R9 T3 T0 TO O9 TC TG hSB9
              cases ok9 with
              | false =>
                go_wp2
                go_roundw
                case rel => exact ⟨j - 1, f, k, l, _, zs, by omega, by go_num, HSB.out, T3h.out, T0h.out, TOh.out, TCh.out.mono (by omega), TGh.out⟩
                case measure => simp [intOf]; omega
              | true =>
                go_wp2_with fail
                refine (c_one c _ 4 _ TCh.out (by omega) (by omega) (by omega)).mono ?_
                rintro e wo ⟨b, rfl, hco, hgo⟩
                have U9 := Lib.hid (Row.grownBy R9h.out hgo (by (try simp); omega))
                have U3 := Lib.hid (Row.grownBy T3h.out hgo (by (try simp); omega)); have U0 := Lib.hid (Row.grownBy T0h.out hgo (by (try simp); omega))
                have UO := Lib.hid (own_up TOh.out hgo (by omega)); have UO9 := Lib.hid (own_up O9h.out hgo (by omega)); have UG := Lib.hid (grownBy_trans TGh.out hgo); have UC := Lib.hid hco
                clear R9h T3h T0h TOh O9h TCh TGh hgo hco
                cases b with
                | false =>
                  go_wp2
                  go_roundw
                  case rel => exact ⟨j - 1, f, k, l, _, zs, by omega, by go_num, HSB.out, U3.out, U0.out, UO.out, UC.out.mono (by omega), UG.out⟩
                  case measure => simp [intOf]; omega
                | true =>
                  go_wp2_with (first
                    | (refine wl_loadS rfl _ rfl g9 f9 k9 l9 (.slice vg9 n9 vc9) U9.out rfl ?_)
                    | (refine wl_storeS rfl _ _ rfl g3 f9 k9 l9 (.slice vg9 n9 vc9) _ _ _ _ U3.out rfl rfl rfl ?_))
                  go_roundw
                  case rel => exact ⟨j - 1, f9, k9, l9, _, rs, by omega, by go_num, SBh.out, Row.put U3.out _, Row.putOther U0.out _ hw3, Own.put UO9.out _ _ (own_row_ne' UO9.out U3.out), (UC.out.mono (by omega)).setRow _ _ (by omega), grownBy_setRow UG.out _ (by omega) _⟩
                  case measure => simp [intOf]; omega
            · refine AllReadyH.cons rfl (fun K hK => ?_) AllReadyH.nil
              go_simp
              have gz0 := grownBy_alloc' gk1 (.cells (c4 0 0 0 (.slice none 0 0)) 27)
              have RZ : RowS ((p1).alloc (.cells (c4 0 0 0 (.slice none 0 0)) 27)) p1.heap.size 0 0 0 (.slice none 0 0) := Row.new (p1) _ _
              have hgz : wc.heap.size ≤ p1.heap.size := (gk1).size
              replace hc6 := hc6.below ((Below.refl _ _).alloc (Nat.le_refl _) (.cells (c4 0 0 0 (.slice none 0 0)) 27))
              refine hK.out _ _ (KS.out _ gz0) (fun hHeld => ?_)
              clear hK K
              (try simp only [Act.put, List.getElem_toArray, List.getElem_cons_zero, List.getElem_cons_succ, List.setIfInBounds_toArray, List.set_cons_zero, List.set_cons_succ])
              refine wpAnyH_ready (rs := [3]) (by kernel_rfl) (by simp) ?_
              refine AllReadyH.cons rfl (fun K hK => ?_) AllReadyH.nil
              go_simp
              refine (c_sFreeSlot_any f k l (.slice vg nz vc) zs x6 _ (own_up HO gz0 (by omega)).ints).mono ?_
              rintro e p2z ⟨f9, k9, l9, v9, rs, ok9, hSB9, rfl, ho9, hbk⟩
              have hX0 := (gz0).size
              try simp only [World.size_alloc] at hX0
              have hq2 := hbk.size
              try simp only [World.size_alloc] at hq2
              have gk2 := grownBy_step gz0 hbk
              replace hc6 := hc6.below hbk
              obtain ⟨vg9, vc9, hvs9, _⟩ := ho9.shape
              subst hvs9
              generalize hn9 : rs.length = n9 at *
              have HN9 := Lib.hid hn9; clear hn9
              replace RZ := Row.below RZ hbk
              refine hK.out _ _ (KS.out _ gk2) (fun hHeld => ?_)
              clear hK K
              (try simp only [Act.put, List.getElem_toArray, List.getElem_cons_zero, List.getElem_cons_succ, List.setIfInBounds_toArray, List.set_cons_zero, List.set_cons_succ])
              refine wpAnyH_take (i := 4) (v := ?va4x8) rfl (by kernel_rfl) (by kernel_rfl) (by kernel_rfl) (fun _ _ _ h => h) (Or.inl ⟨by rfl, ?hy4x8⟩) (by assumption) ?rest4x8
              case hy4x8 => (intro w hSw; (try dsimp only at hSw); go_simp; try with_reducible rfl)
              (try simp only [Act.put, List.getElem_toArray, List.getElem_cons_zero, List.getElem_cons_succ, List.setIfInBounds_toArray, List.set_cons_zero, List.set_cons_succ])
              refine wpAnyH_take (i := 5) (v := ?va5x9) rfl (by kernel_rfl) (by kernel_rfl) (by kernel_rfl) (fun _ _ _ h => h) (Or.inl ⟨by rfl, ?hy5x9⟩) (by assumption) ?rest5x9
              case hy5x9 => (intro w hSw; (try dsimp only at hSw); go_simp; try with_reducible rfl)
              (try simp only [Act.put, List.getElem_toArray, List.getElem_cons_zero, List.getElem_cons_succ, List.setIfInBounds_toArray, List.set_cons_zero, List.set_cons_succ])
              refine wpAnyH_take (i := 6) (v := ?va6x10) rfl (by kernel_rfl) (by kernel_rfl) (by kernel_rfl) (fun _ _ _ h => h) (Or.inl ⟨by rfl, ?hy6x10⟩) (by assumption) ?rest6x10
              case hy6x10 => (intro w hSw; (try dsimp only at hSw); go_simp; try with_reducible rfl)
              (try simp only [Act.put, List.getElem_toArray, List.getElem_cons_zero, List.getElem_cons_succ, List.setIfInBounds_toArray, List.set_cons_zero, List.set_cons_succ])
              have hgl : p1.heap.size < p2z.heap.size := Row.lt RZ
              have dz0 := RowS.c0 RZ
              have dz1 := RowS.c1 RZ
              have dz2 := RowS.c2 RZ
              have dz3 := RowS.c3 RZ
              have fz0 := Row.frozen RZ 0
              have fz1 := Row.frozen RZ 1
              have fz2 := Row.frozen RZ 2
              have fz3 := Row.frozen RZ 3
              refine wpAnyH_ready (rs := [8]) (by kernel_rfl) (by simp) ?_
              refine AllReadyH.cons rfl (fun K hK => ?_) AllReadyH.nil
              go_simp
              have gw := grownBy_set4 gk2 (p1.heap.size) hgz (.int .i64 f9) (.int .i64 k9) (.int .i64 l9) (.slice vg9 n9 vc9)
              refine hK.out _ _ (KS.out _ gw) (fun hHeld => ?_)
              clear hK K
              (try simp only [Act.put, List.getElem_toArray, List.getElem_cons_zero, List.getElem_cons_succ, List.setIfInBounds_toArray, List.set_cons_zero, List.set_cons_succ])
              clear dz0 dz1 dz2 dz3 fz0 fz1 fz2 fz3
              refine wpAnyH_take (i := 9) (v := ?va9x7) rfl (by kernel_rfl) (by kernel_rfl) (by kernel_rfl) (fun _ _ _ h => h) (Or.inl ⟨by rfl, ?hy9x7⟩) (by assumption) ?rest9x7
              case hy9x7 => (intro w hSw; (try dsimp only at hSw); go_simp; try with_reducible rfl)
              (try simp only [Act.put, List.getElem_toArray, List.getElem_cons_zero, List.getElem_cons_succ, List.setIfInBounds_toArray, List.set_cons_zero, List.set_cons_succ])
              refine wpAnyH_done (by kernel_rfl) ?_ _
              refine NoPanic.normal ?_
              have R9 : RowS ((((p2z.setCell ⟨p1.heap.size, 0, none⟩ (.int .i64 f9)).setCell ⟨p1.heap.size, 1, none⟩ (.int .i64 k9)).setCell ⟨p1.heap.size, 2, none⟩ (.int .i64 l9)).setCell ⟨p1.heap.size, 3, none⟩ (.slice vg9 n9 vc9)) (p1.heap.size) f9 k9 l9 (.slice vg9 n9 vc9) := rowS_set4 RZ f9 k9 l9 (.slice vg9 n9 vc9)
              have T3 := row_set4 (g' := p1.heap.size) (Row.grownBy R3 gk2 (by (try simp); omega)) (by omega) (.int .i64 f9) (.int .i64 k9) (.int .i64 l9) (.slice vg9 n9 vc9)
              have T0 := row_set4 (g' := p1.heap.size) (Row.grownBy R0 gk2 (by (try simp); omega)) (by omega) (.int .i64 f9) (.int .i64 k9) (.int .i64 l9) (.slice vg9 n9 vc9)
              have TO := Own.setApart4 (own_up HO gk2 (by omega)) (p1.heap.size) (.int .i64 f9) (.int .i64 k9) (.int .i64 l9) (.slice vg9 n9 vc9) (own_row_ne' (own_up HO gk2 (by omega)) RZ)
              have O9 : Own ((((p2z.setCell ⟨p1.heap.size, 0, none⟩ (.int .i64 f9)).setCell ⟨p1.heap.size, 1, none⟩ (.int .i64 k9)).setCell ⟨p1.heap.size, 2, none⟩ (.int .i64 l9)).setCell ⟨p1.heap.size, 3, none⟩ (.slice vg9 n9 vc9)) w.heap.size (.slice vg9 n9 vc9) rs := Own.setApart4 (ho9.mono (by first | omega | (simp; omega))) (p1.heap.size) (.int .i64 f9) (.int .i64 k9) (.int .i64 l9) (.slice vg9 n9 vc9) (own_row_ne' ho9 RZ)
              have TC := hc6.set4 (p1.heap.size) (.int .i64 f9) (.int .i64 k9) (.int .i64 l9) (.slice vg9 n9 vc9) (by omega)
              have TG := grownBy_set4 (grownBy_trans G gk2) (p1.heap.size) (by omega) (.int .i64 f9) (.int .i64 k9) (.int .i64 l9) (.slice vg9 n9 vc9)
              change Exit.then _ _ Exit.normal _ ((((p2z.setCell ⟨p1.heap.size, 0, none⟩ (.int .i64 f9)).setCell ⟨p1.heap.size, 1, none⟩ (.int .i64 k9)).setCell ⟨p1.heap.size, 2, none⟩ (.int .i64 l9)).setCell ⟨p1.heap.size, 3, none⟩ (.slice vg9 n9 vc9))
              generalize ((((p2z.setCell ⟨p1.heap.size, 0, none⟩ (.int .i64 f9)).setCell ⟨p1.heap.size, 1, none⟩ (.int .i64 k9)).setCell ⟨p1.heap.size, 2, none⟩ (.int .i64 l9)).setCell ⟨p1.heap.size, 3, none⟩ (.slice vg9 n9 vc9)) = wN at *
              obtain ⟨g9, hgn⟩ : ∃ g, g = p1.heap.size := ⟨_, rfl⟩
              rw [← hgn] at R9 ⊢
              clear hgn
              have hg9c : g9 ≠ c := fun h => by subst h; exact absurd R9 (cur_rowS_ne TC)
              have R9h := Lib.hid R9; have T3h := Lib.hid T3; have T0h := Lib.hid T0; have TOh := Lib.hid TO; have O9h := Lib.hid O9; have TCh := Lib.hid TC; have TGh := Lib.hid TG; have SBh := Lib.hid hSB9
              clear R9 T3 T0 TO O9 TC TG hSB9
              cases ok9 with
              | false =>
                go_wp2
                go_roundw
                case rel => exact ⟨j - 1, f, k, l, _, zs, by omega, by go_num, HSB.out, T3h.out, T0h.out, TOh.out, TCh.out.mono (by omega), TGh.out⟩
                case measure => simp [intOf]; omega
              | true =>
                go_wp2_with fail
                refine (c_one c _ 4 _ TCh.out (by omega) (by omega) (by omega)).mono ?_
                rintro e wo ⟨b, rfl, hco, hgo⟩
                have U9 := Lib.hid (Row.grownBy R9h.out hgo (by (try simp); omega))
                have U3 := Lib.hid (Row.grownBy T3h.out hgo (by (try simp); omega)); have U0 := Lib.hid (Row.grownBy T0h.out hgo (by (try simp); omega))
                have UO := Lib.hid (own_up TOh.out hgo (by omega)); have UO9 := Lib.hid (own_up O9h.out hgo (by omega)); have UG := Lib.hid (grownBy_trans TGh.out hgo); have UC := Lib.hid hco
                clear R9h T3h T0h TOh O9h TCh TGh hgo hco
                cases b with
                | false =>
                  go_wp2
                  go_roundw
                  case rel => exact ⟨j - 1, f, k, l, _, zs, by omega, by go_num, HSB.out, U3.out, U0.out, UO.out, UC.out.mono (by omega), UG.out⟩
                  case measure => simp [intOf]; omega
                | true =>
                  go_wp2_with (first
                    | (refine wl_loadS rfl _ rfl g9 f9 k9 l9 (.slice vg9 n9 vc9) U9.out rfl ?_)
                    | (refine wl_storeS rfl _ _ rfl g3 f9 k9 l9 (.slice vg9 n9 vc9) _ _ _ _ U3.out rfl rfl rfl ?_))
                  go_roundw
                  case rel => exact ⟨j - 1, f9, k9, l9, _, rs, by omega, by go_num, SBh.out, Row.put U3.out _, Row.putOther U0.out _ hw3, Own.put UO9.out _ _ (own_row_ne' UO9.out U3.out), (UC.out.mono (by omega)).setRow _ _ (by omega), grownBy_setRow UG.out _ (by omega) _⟩
                  case measure => simp [intOf]; omega
          · refine AllReadyH.cons rfl (fun K hK => ?_) AllReadyH.nil
            go_simp
            have gz0 := grownBy_alloc' GD (.cells (c4 0 0 0 (.slice none 0 0)) 27)
            have RZ : RowS ((wc.drew).alloc (.cells (c4 0 0 0 (.slice none 0 0)) 27)) wc.heap.size 0 0 0 (.slice none 0 0) := Row.new (wc.drew) _ _
            have hgz : wc.heap.size ≤ wc.heap.size := (GD).size
            replace hcd := hcd.below ((Below.refl _ _).alloc (Nat.le_refl _) (.cells (c4 0 0 0 (.slice none 0 0)) 27))
            refine hK.out _ _ (KS.out _ gz0) (fun hHeld => ?_)
            clear hK K
            (try simp only [Act.put, List.getElem_toArray, List.getElem_cons_zero, List.getElem_cons_succ, List.setIfInBounds_toArray, List.set_cons_zero, List.set_cons_succ])
            refine wpAnyH_ready (rs := [2]) (by kernel_rfl) (by simp) ?_
            refine AllReadyH.cons rfl (fun K hK => ?_) AllReadyH.nil
            go_simp
            refine (c_pick c _ 6 _ hcd (by omega) (by omega) (by omega)).mono ?_
            rintro e p1z ⟨x6, hx6, rfl, hc6, hgk⟩
            have gk1 := grownBy_trans gz0 hgk
            have hq1 := hgk.size
            try simp only [World.size_alloc] at hq1
            replace RZ := Row.grownBy RZ hgk (by (try simp); omega)
            refine hK.out _ _ (KS.out _ gk1) (fun hHeld => ?_)
            clear hK K
            (try simp only [Act.put, List.getElem_toArray, List.getElem_cons_zero, List.getElem_cons_succ, List.setIfInBounds_toArray, List.set_cons_zero, List.set_cons_succ])
            refine wpAnyH_ready (rs := [3]) (by kernel_rfl) (by simp) ?_
            refine AllReadyH.cons rfl (fun K hK => ?_) AllReadyH.nil
            go_simp
            refine (c_sFreeSlot_any f k l (.slice vg nz vc) zs x6 _ (own_up HO gk1 (by omega)).ints).mono ?_
            rintro e p2z ⟨f9, k9, l9, v9, rs, ok9, hSB9, rfl, ho9, hbk⟩
            have hX0 := (gk1).size
            try simp only [World.size_alloc] at hX0
            have hq2 := hbk.size
            try simp only [World.size_alloc] at hq2
            have gk2 := grownBy_step gk1 hbk
            replace hc6 := hc6.below hbk
            obtain ⟨vg9, vc9, hvs9, _⟩ := ho9.shape
            subst hvs9
            generalize hn9 : rs.length = n9 at *
            have HN9 := Lib.hid hn9; clear hn9
            replace RZ := Row.below RZ hbk
            refine hK.out _ _ (KS.out _ gk2) (fun hHeld => ?_)
            clear hK K
            (try simp only [Act.put, List.getElem_toArray, List.getElem_cons_zero, List.getElem_cons_succ, List.setIfInBounds_toArray, List.set_cons_zero, List.set_cons_succ])
            refine wpAnyH_take (i := 4) (v := ?va4x12) rfl (by kernel_rfl) (by kernel_rfl) (by kernel_rfl) (fun _ _ _ h => h) (Or.inl ⟨by rfl, ?hy4x12⟩) (by assumption) ?rest4x12
            case hy4x12 => (intro w hSw; (try dsimp only at hSw); go_simp; try with_reducible rfl)
            (try simp only [Act.put, List.getElem_toArray, List.getElem_cons_zero, List.getElem_cons_succ, List.setIfInBounds_toArray, List.set_cons_zero, List.set_cons_succ])
            refine wpAnyH_take (i := 5) (v := ?va5x13) rfl (by kernel_rfl) (by kernel_rfl) (by kernel_rfl) (fun _ _ _ h => h) (Or.inl ⟨by rfl, ?hy5x13⟩) (by assumption) ?rest5x13
            case hy5x13 => (intro w hSw; (try dsimp only at hSw); go_simp; try with_reducible rfl)
            (try simp only [Act.put, List.getElem_toArray, List.getElem_cons_zero, List.getElem_cons_succ, List.setIfInBounds_toArray, List.set_cons_zero, List.set_cons_succ])
            refine wpAnyH_take (i := 6) (v := ?va6x14) rfl (by kernel_rfl) (by kernel_rfl) (by kernel_rfl) (fun _ _ _ h => h) (Or.inl ⟨by rfl, ?hy6x14⟩) (by assumption) ?rest6x14
            case hy6x14 => (intro w hSw; (try dsimp only at hSw); go_simp; try with_reducible rfl)
            (try simp only [Act.put, List.getElem_toArray, List.getElem_cons_zero, List.getElem_cons_succ, List.setIfInBounds_toArray, List.set_cons_zero, List.set_cons_succ])
            have hgl : wc.heap.size < p2z.heap.size := Row.lt RZ
            have dz0 := RowS.c0 RZ
            have dz1 := RowS.c1 RZ
            have dz2 := RowS.c2 RZ
            have dz3 := RowS.c3 RZ
            have fz0 := Row.frozen RZ 0
            have fz1 := Row.frozen RZ 1
            have fz2 := Row.frozen RZ 2
            have fz3 := Row.frozen RZ 3
            refine wpAnyH_ready (rs := [8]) (by kernel_rfl) (by simp) ?_
            refine AllReadyH.cons rfl (fun K hK => ?_) AllReadyH.nil
            go_simp
            have gw := grownBy_set4 gk2 (wc.heap.size) hgz (.int .i64 f9) (.int .i64 k9) (.int .i64 l9) (.slice vg9 n9 vc9)
            refine hK.out _ _ (KS.out _ gw) (fun hHeld => ?_)
            clear hK K
            (try simp only [Act.put, List.getElem_toArray, List.getElem_cons_zero, List.getElem_cons_succ, List.setIfInBounds_toArray, List.set_cons_zero, List.set_cons_succ])
            clear dz0 dz1 dz2 dz3 fz0 fz1 fz2 fz3
            refine wpAnyH_take (i := 9) (v := ?va9x11) rfl (by kernel_rfl) (by kernel_rfl) (by kernel_rfl) (fun _ _ _ h => h) (Or.inl ⟨by rfl, ?hy9x11⟩) (by assumption) ?rest9x11
            case hy9x11 => (intro w hSw; (try dsimp only at hSw); go_simp; try with_reducible rfl)
            (try simp only [Act.put, List.getElem_toArray, List.getElem_cons_zero, List.getElem_cons_succ, List.setIfInBounds_toArray, List.set_cons_zero, List.set_cons_succ])
            refine wpAnyH_done (by kernel_rfl) ?_ _
            refine NoPanic.normal ?_
            have R9 : RowS ((((p2z.setCell ⟨wc.heap.size, 0, none⟩ (.int .i64 f9)).setCell ⟨wc.heap.size, 1, none⟩ (.int .i64 k9)).setCell ⟨wc.heap.size, 2, none⟩ (.int .i64 l9)).setCell ⟨wc.heap.size, 3, none⟩ (.slice vg9 n9 vc9)) (wc.heap.size) f9 k9 l9 (.slice vg9 n9 vc9) := rowS_set4 RZ f9 k9 l9 (.slice vg9 n9 vc9)
            have T3 := row_set4 (g' := wc.heap.size) (Row.grownBy R3 gk2 (by (try simp); omega)) (by omega) (.int .i64 f9) (.int .i64 k9) (.int .i64 l9) (.slice vg9 n9 vc9)
            have T0 := row_set4 (g' := wc.heap.size) (Row.grownBy R0 gk2 (by (try simp); omega)) (by omega) (.int .i64 f9) (.int .i64 k9) (.int .i64 l9) (.slice vg9 n9 vc9)
            have TO := Own.setApart4 (own_up HO gk2 (by omega)) (wc.heap.size) (.int .i64 f9) (.int .i64 k9) (.int .i64 l9) (.slice vg9 n9 vc9) (own_row_ne' (own_up HO gk2 (by omega)) RZ)
            have O9 : Own ((((p2z.setCell ⟨wc.heap.size, 0, none⟩ (.int .i64 f9)).setCell ⟨wc.heap.size, 1, none⟩ (.int .i64 k9)).setCell ⟨wc.heap.size, 2, none⟩ (.int .i64 l9)).setCell ⟨wc.heap.size, 3, none⟩ (.slice vg9 n9 vc9)) w.heap.size (.slice vg9 n9 vc9) rs := Own.setApart4 (ho9.mono (by first | omega | (simp; omega))) (wc.heap.size) (.int .i64 f9) (.int .i64 k9) (.int .i64 l9) (.slice vg9 n9 vc9) (own_row_ne' ho9 RZ)
            have TC := hc6.set4 (wc.heap.size) (.int .i64 f9) (.int .i64 k9) (.int .i64 l9) (.slice vg9 n9 vc9) (by omega)
            have TG := grownBy_set4 (grownBy_trans G gk2) (wc.heap.size) (by omega) (.int .i64 f9) (.int .i64 k9) (.int .i64 l9) (.slice vg9 n9 vc9)
            change Exit.then _ _ Exit.normal _ ((((p2z.setCell ⟨wc.heap.size, 0, none⟩ (.int .i64 f9)).setCell ⟨wc.heap.size, 1, none⟩ (.int .i64 k9)).setCell ⟨wc.heap.size, 2, none⟩ (.int .i64 l9)).setCell ⟨wc.heap.size, 3, none⟩ (.slice vg9 n9 vc9))
            generalize ((((p2z.setCell ⟨wc.heap.size, 0, none⟩ (.int .i64 f9)).setCell ⟨wc.heap.size, 1, none⟩ (.int .i64 k9)).setCell ⟨wc.heap.size, 2, none⟩ (.int .i64 l9)).setCell ⟨wc.heap.size, 3, none⟩ (.slice vg9 n9 vc9)) = wN at *
            obtain ⟨g9, hgn⟩ : ∃ g, g = wc.heap.size := ⟨_, rfl⟩
            rw [← hgn] at R9 ⊢
            clear hgn
            have hg9c : g9 ≠ c := fun h => by subst h; exact absurd R9 (cur_rowS_ne TC)
            have R9h := Lib.hid R9; have T3h := Lib.hid T3; have T0h := Lib.hid T0; have TOh := Lib.hid TO; have O9h := Lib.hid O9; have TCh := Lib.hid TC; have TGh := Lib.hid TG; have SBh := Lib.hid hSB9
            clear R9 T3 T0 TO O9 TC TG hSB9
            cases ok9 with
            | false =>
              go_wp2
              go_roundw
              case rel => exact ⟨j - 1, f, k, l, _, zs, by omega, by go_num, HSB.out, T3h.out, T0h.out, TOh.out, TCh.out.mono (by omega), TGh.out⟩
              case measure => simp [intOf]; omega
            | true =>
              go_wp2_with fail
              refine (c_one c _ 4 _ TCh.out (by omega) (by omega) (by omega)).mono ?_
              rintro e wo ⟨b, rfl, hco, hgo⟩
              have U9 := Lib.hid (Row.grownBy R9h.out hgo (by (try simp); omega))
              have U3 := Lib.hid (Row.grownBy T3h.out hgo (by (try simp); omega)); have U0 := Lib.hid (Row.grownBy T0h.out hgo (by (try simp); omega))
              have UO := Lib.hid (own_up TOh.out hgo (by omega)); have UO9 := Lib.hid (own_up O9h.out hgo (by omega)); have UG := Lib.hid (grownBy_trans TGh.out hgo); have UC := Lib.hid hco
              clear R9h T3h T0h TOh O9h TCh TGh hgo hco
              cases b with
              | false =>
                go_wp2
                go_roundw
                case rel => exact ⟨j - 1, f, k, l, _, zs, by omega, by go_num, HSB.out, U3.out, U0.out, UO.out, UC.out.mono (by omega), UG.out⟩
                case measure => simp [intOf]; omega
              | true =>
                go_wp2_with (first
                  | (refine wl_loadS rfl _ rfl g9 f9 k9 l9 (.slice vg9 n9 vc9) U9.out rfl ?_)
                  | (refine wl_storeS rfl _ _ rfl g3 f9 k9 l9 (.slice vg9 n9 vc9) _ _ _ _ U3.out rfl rfl rfl ?_))
                go_roundw
                case rel => exact ⟨j - 1, f9, k9, l9, _, rs, by omega, by go_num, SBh.out, Row.put U3.out _, Row.putOther U0.out _ hw3, Own.put UO9.out _ _ (own_row_ne' UO9.out U3.out), (UC.out.mono (by omega)).setRow _ _ (by omega), grownBy_setRow UG.out _ (by omega) _⟩
                case measure => simp [intOf]; omega
    · have hj1 : j = 0 := by omega
      subst hj1
      go_wp2_with fail
      refine (c_one c _ 30 _ hc5 (by omega) (by omega) (by omega)).mono ?_
      rintro e w6 ⟨b, rfl, hc6, hg6⟩
      replace R3 := Row.grownBy R3 hg6 (by (try simp); omega)
      replace R0 := Row.grownBy R0 hg6 (by (try simp); omega)
      replace HO := own_up HO hg6 (by omega)
      replace G := grownBy_trans G hg6
      clear hg6 hc5
      cases b with
      | false =>
        have HC := Lib.hid hc6; have HG := Lib.hid G; have H3 := Lib.hid HO
        clear hc6 G HO
        go_wp2_with (first
          | (refine wl_loadS rfl _ rfl g3 f k l (.slice vg nz vc) R3 rfl ?_)
          | (refine wl_storeS rfl _ _ rfl w.heap.size f k l (.slice vg nz vc) _ _ _ _ R0 rfl rfl rfl ?_))
        exact bodyPost_ret (res_row Tryd.results66 (Row.put R0 (c4 f k l (.slice vg nz vc))) rfl Tryd.underlying27 rfl info_span) rfl ⟨f, k, l, _, zs, HSB.out, rfl, Own.put H3.out _ _ (own_row_ne' H3.out R0), (HC.out.mono (by omega)).setRow _ _ hcl, grownBy_setRow HG.out _ (Nat.le_refl _) _⟩
      | true =>
        go_wp2_with fail
        have ho : Own (w6.alloc (.cells #[.int .i64 (-1), .int .i64 24, .int .i64 31, .int .i64 32] 3)) (c + 1) (.slice (some ⟨w6.heap.size, 0, none⟩) 4 4) [-1, 24, 31, 32] :=
          ⟨rfl, .inr ⟨w6.heap.size, 4, _, rfl, hc6.lt, heap_alloc_new _ _, Nat.le_refl _, by decide, rfl, rfl⟩⟩
        refine (c_among c _ _ [-1, 24, 31, 32] (-1) 32 _ (hc6.kept (fun k hk => Below.heap_alloc _ _ _ (by have := hc6.lt; omega))) (by omega) ho (by simp) (by simp) (by intro z hz; simp at hz; omega)).mono ?_
        rintro e w7 ⟨x7, hx7, rfl, hc7, hg7⟩
        replace R3 := Row.grownBy (Row.alloc R3 _) hg7 (by (try simp); omega)
        replace R0 := Row.grownBy (Row.alloc R0 _) hg7 (by (try simp); omega)
        replace HO := own_up (HO.below ((Below.refl _ _).alloc (Nat.le_refl _) _)) hg7 (by omega)
        replace G := grownBy_trans (grownBy_alloc' G _) hg7
        clear ho hg7 hc6
        have hw3 : w.heap.size ≠ g3 := by omega
        have hw3' : w.heap.size ≤ g3 := by omega
        have hc3' : c < g3 := by omega
        have q0 := RowS.c0 R3
        have f0 := Row.frozen R3 0
        have hon := own_row_ne' HO R3
        have X3 : RowS (w7.setCell ⟨g3, 0, none⟩ (.int .i64 x7)) g3 x7 k l (.slice vg nz vc) := (Row.set R3 0 _).trans rfl
        have X0 := Row.other R0 ⟨g3, 0, none⟩ hw3 (.int .i64 x7)
        have HC := Lib.hid (hc7.set1 g3 0 (.int .i64 x7) hc3')
        have HG := Lib.hid (grownBy_setNew G ⟨g3, 0, none⟩ hw3' (.int .i64 x7))
        have H3 : Hid (Own (w7.setCell ⟨g3, 0, none⟩ (.int .i64 x7)) w.heap.size (.slice vg nz vc) zs) := own_set1 HO g3 0 (.int .i64 x7) hon
        have RX3 := Lib.hid X3; have RX0 := Lib.hid X0
        clear R3 R0 HO hc7 G X3 X0 hon
        go_wp2_with (first
          | (refine wl_loadS rfl _ rfl g3 x7 k l (.slice vg nz vc) RX3.out rfl ?_)
          | (refine wl_storeS rfl _ _ rfl w.heap.size x7 k l (.slice vg nz vc) _ _ _ _ RX0.out rfl rfl rfl ?_))
        exact bodyPost_ret (res_row Tryd.results66 (Row.put RX0.out (c4 x7 k l (.slice vg nz vc))) rfl Tryd.underlying27 rfl info_span) rfl ⟨x7, k, l, _, zs, ⟨hx7, HSB.out.2⟩, rfl, Own.put H3.out _ _ (own_row_ne' H3.out RX0.out), (HC.out.mono (by omega)).setRow _ _ hcl, grownBy_setRow HG.out _ (Nat.le_refl _) _⟩

end Go.Proofs.YtcelebblcjhpaaaDoor
