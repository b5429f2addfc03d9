/- What the laws rest on, part 5. -/
import Derived.Test.YtkkigoamphkalaaQF4
namespace Go.Proofs.Ytkkigoamphkalaa
open Go.RowKit Ph

set_option maxRecDepth 100000 in
set_option maxHeartbeats 12800000 in
theorem c_heap (c n : Nat) (w : World) (hc : CurIs w c n) (hn : n ≤ 999980000) :
    Calls Try.prog 120 #[(.pointer (some ⟨c, 0, none⟩))] w fun e w' => ∃ a b cc h, e = .returned (hv a b cc) ∧ Sh h ∧ 1 ≤ h.f.length ∧ OwnH w' w.heap.size w'.heap.size a b cc h ∧ CurIs w' c (n + 200) ∧ w.grownBy w' (some c) := by
  have H0 := Lib.hid (hd_start hc)
  have hcw := hc.lt
  clear hc
  go_enter Try.func120, Try.ntmps120
  go_wp2_with fail
  refine (c_pick c n 9 _ H0.out.dv.1 (by omega) (by omega) (by omega)).mono ?_
  rintro e w2 ⟨x2, hx2, rfl, hc2, hg2⟩
  obtain ⟨k2, rfl⟩ : ∃ k : Nat, x2 = k := ⟨x2.toNat, by omega⟩
  have H2 : Hid (Hd w c (n + 20 - 2 * (k2 + 1)) w2 w.heap.size (w.heap.size + 1 + 1) (.slice none 0 0) (.slice none 0 0) (.slice (some ⟨w.heap.size + 1, 0, none⟩) 2 2) ⟨[], [], [-1, -1]⟩) := (H0.out.cur (Nat.le_refl _) (by omega) hc2 hg2).mono (by omega)
  have hk2 : k2 + 1 ≤ 9 := by omega
  have hw1 : IntKind.i64.wrap (1 + (k2 : Int)) = ((k2 + 1 : Nat) : Int) := by rw [IntWalk.i64_in _ (by omega)]; omega
  clear hc2 hg2 H0 hx2
  go_wp2_with fail
  clear hw1
  go_loopw [4] (fun i wr => ∃ (k : Nat) (a b cc : Value) (h : H), i = .int .i64 (k : Int) ∧ k ≤ 9 ∧ Hid (Hd w c (n + 20 - 2 * k) wr w.heap.size (w.heap.size + 1 + 1) a b cc h) ∧ Hid (Sh h) ∧ Hid (1 ≤ k ∨ 1 ≤ h.f.length)) (fun i _ => (intOf i).toNat)
  case atStart => exact ⟨k2 + 1, _, _, _, _, by go_num, hk2, H2, sh_start, .inl (by omega)⟩
  case round =>
    obtain ⟨k, a, b, cc, h, rfl, hk9, hHd, hSh, hne⟩ := hrel
    by_cases hk0 : 1 ≤ k
    · have k0 : (0 : Int) < (k : Int) := by omega
      have HN := Lib.hid (fun (m : Nat) (hm : m ≤ 3) => hSh.out.newS hm)
      have hwk : IntKind.i64.wrap ((k : Int) - 1) = ((k - 1 : Nat) : Int) := by rw [IntWalk.i64_in _ (by omega)]; omega
      have hk9' : k - 1 ≤ 9 := by omega
      go_wp2_with fail
      have HD := Lib.hid (hHd.out.below (below_drew (Below.refl wr.heap.size wr)))
      have d0 := HD.out.v.c0
      have d1 := HD.out.v.c1
      have d2 := HD.out.v.c2
      refine wp_region_held_drew (S := (fun w' => w'.cell? ⟨w.heap.size + 1 + 1, 0, none⟩ = some a ∧ w'.cell? ⟨w.heap.size + 1 + 1, 1, none⟩ = some b ∧ w'.cell? ⟨w.heap.size + 1 + 1, 2, none⟩ = some cc)) (by kernel_rfl) (⟨d0, d1, d2⟩) (fun hHeld => ?_)
      refine wpAnyH_take (i := 0) (v := ?va0x1) rfl (by kernel_rfl) (by kernel_rfl) (by kernel_rfl) (fun _ _ _ h => h) (Or.inl ⟨by rfl, ?hy0x1⟩) (by assumption) ?rest0x1
      case hy0x1 => (intro w hSw; (try dsimp only at hSw); go_simp; try with_reducible rfl)
      (try simp only [Act.put, List.getElem_toArray, List.getElem_cons_zero, List.setIfInBounds_toArray, List.set_cons_zero, List.set_cons_succ])
      refine wpAnyH_take (i := 1) (v := ?va1x2) rfl (by kernel_rfl) (by kernel_rfl) (by kernel_rfl) (fun _ _ _ h => h) (Or.inl ⟨by rfl, ?hy1x2⟩) (by assumption) ?rest1x2
      case hy1x2 => (intro w hSw; (try dsimp only at hSw); go_simp; try with_reducible rfl)
      (try simp only [Act.put, List.getElem_toArray, List.getElem_cons_zero, List.getElem_cons_succ, List.setIfInBounds_toArray, List.set_cons_zero, List.set_cons_succ])
      generalize wr.drew = wd at *
      clear d0 d1 d2
      refine wpAnyH_ready (rs := [2, 7]) (by kernel_rfl) (by simp) ?_
      refine AllReadyH.cons rfl (fun K hK => ?_) (AllReadyH.cons rfl (fun K hK => ?_) AllReadyH.nil)
      · skip
        go_simp
        refine (c_pick c (n + 20 - 2 * k) (4) _ HD.out.dv.1 (by omega) (by omega) (by omega)).mono ?_
        rintro e wp1 ⟨x2, hx2, rfl, hc', hg'⟩
        have H3 := Lib.hid (HD.out.cur (Nat.le_refl _) (by omega) hc' hg')
        clear hc' hg'
        refine hK.out _ _ ⟨H3.out.v.c0, H3.out.v.c1, H3.out.v.c2⟩ (fun hHeld => ?_)
        clear hK K
        (try simp only [Act.put, List.getElem_toArray, List.getElem_cons_zero, List.getElem_cons_succ, List.setIfInBounds_toArray, List.set_cons_zero, List.set_cons_succ])
        obtain ⟨x2n, rfl⟩ : ∃ k : Nat, x2 = k := ⟨x2.toNat, by omega⟩
        refine wpAnyH_ready (rs := [3, 7]) (by kernel_rfl) (by simp) ?_
        refine AllReadyH.cons rfl (fun K hK => ?_) (AllReadyH.cons rfl (fun K hK => ?_) AllReadyH.nil)
        · skip
          go_simp
          refine (s_l5New a b cc h x2n w.heap.size _ _ H3.out.own H3.out.dv.size (Nat.le_refl _) hSh.out.n hSh.out.ll (by omega)).mono ?_
          rintro e wn4 ⟨aq7, bq7, cq7, rfl, ho', hb', hr'⟩
          have Dwn4 := Lib.hid (H3.out.dv.low hb')
          have Vwn4 := Lib.hid (show RowH _ _ _ _ _ from hr' _ _ H3.out.v)
          have Rwn4 := Lib.hid (show zrow _ _ from hr' _ _ H3.out.r)
          have Swn4 := Lib.hid (HN.out x2n (by omega))
          obtain ⟨⟨pa, qa, rfl⟩, ⟨pb, qb, rfl⟩, ⟨pc, qc, rfl⟩⟩ := ho'.shapes
          have O6 := Lib.hid ho'
          clear hb' hr' ho'
          refine hK.out _ _ ⟨Vwn4.out.c0, Vwn4.out.c1, Vwn4.out.c2⟩ (fun hHeld => ?_)
          clear hK K
          (try simp only [Act.put, List.getElem_toArray, List.getElem_cons_zero, List.getElem_cons_succ, List.setIfInBounds_toArray, List.set_cons_zero, List.set_cons_succ])
          generalize (newS h x2n).1 = hN at *
          generalize (newS h x2n).2 = zN at *
          refine wpAnyH_take (i := 4) (v := ?va4x3) rfl (by kernel_rfl) (by kernel_rfl) (by kernel_rfl) (fun _ _ _ h => h) (Or.inl ⟨by rfl, ?hy4x3⟩) (by assumption) ?rest4x3
          case hy4x3 => (intro w hSw; (try dsimp only at hSw); go_simp; try with_reducible rfl)
          (try simp only [Act.put, List.getElem_toArray, List.getElem_cons_zero, List.getElem_cons_succ, List.setIfInBounds_toArray, List.set_cons_zero, List.set_cons_succ])
          refine wpAnyH_take (i := 5) (v := ?va5x4) rfl (by kernel_rfl) (by kernel_rfl) (by kernel_rfl) (fun _ _ _ h => h) (Or.inl ⟨by rfl, ?hy5x4⟩) (by assumption) ?rest5x4
          case hy5x4 => (intro w hSw; (try dsimp only at hSw); go_simp; try with_reducible rfl)
          (try simp only [Act.put, List.getElem_toArray, List.getElem_cons_zero, List.getElem_cons_succ, List.setIfInBounds_toArray, List.set_cons_zero, List.set_cons_succ])
          refine wpAnyH_take (i := 6) (v := ?va6x5) rfl (by kernel_rfl) (by kernel_rfl) (by kernel_rfl) (fun _ _ _ h => h) (Or.inl ⟨by rfl, ?hy6x5⟩) (by assumption) ?rest6x5
          case hy6x5 => (intro w hSw; (try dsimp only at hSw); go_simp; try with_reducible rfl)
          (try simp only [Act.put, List.getElem_toArray, List.getElem_cons_zero, List.getElem_cons_succ, List.setIfInBounds_toArray, List.set_cons_zero, List.set_cons_succ])
          refine wpAnyH_ready (rs := [7]) (by kernel_rfl) (by simp) ?_
          refine AllReadyH.cons rfl (fun K hK => ?_) AllReadyH.nil
          have V7 := Lib.hid (show RowH _ _ _ _ _ from Row.alloc Vwn4.out (.cells (c3 (.slice none 0 0) (.slice none 0 0) (.slice none 0 0)) 30))
          go_simp
          refine hK.out _ _ ⟨V7.out.c0, V7.out.c1, V7.out.c2⟩ (fun hHeld => ?_)
          clear hK K
          (try simp only [Act.put, List.getElem_toArray, List.getElem_cons_zero, List.getElem_cons_succ, List.setIfInBounds_toArray, List.set_cons_zero, List.set_cons_succ])
          have hbx := below1 wn4 (.cells (c3 (.slice pa hN.f.length qa) (.slice pb hN.l.length qb) (.slice pc hN.r.length qc)) 30)
          have VX := Lib.hid (show RowH _ _ _ _ _ from Row.alloc Vwn4.out (.cells (c3 (.slice pa hN.f.length qa) (.slice pb hN.l.length qb) (.slice pc hN.r.length qc)) 30))
          have RX := Lib.hid (show zrow _ _ from Row.alloc Rwn4.out (.cells (c3 (.slice pa hN.f.length qa) (.slice pb hN.l.length qb) (.slice pc hN.r.length qc)) 30))
          have DX := Lib.hid (Dwn4.out.low (hbx.mono Dwn4.out.size))
          have OX := Lib.hid ((O6.out.below hbx).wide (Nat.le_refl _) hbx.size)
          have ZX := Lib.hid (show RowH _ _ _ _ _ from Row.new wn4 30 (c3 (.slice pa hN.f.length qa) (.slice pb hN.l.length qb) (.slice pc hN.r.length qc)))
          have LX : Hid (w.heap.size ≤ wn4.heap.size ∧ wn4.heap.size ≠ w.heap.size ∧ wn4.heap.size ≠ (w.heap.size + 1 + 1)) := ⟨Dwn4.out.size, by have := Rwn4.out.lt; omega, by have := Vwn4.out.lt; omega⟩
          refine wpAnyH_ready (rs := [8]) (by kernel_rfl) (by simp) ?_
          refine AllReadyH.cons rfl (fun K hK => ?_) AllReadyH.nil
          go_simp
          refine hK.out _ _ ⟨VX.out.c0, VX.out.c1, VX.out.c2⟩ (fun hHeld => ?_)
          clear hK K hbx
          (try simp only [Act.put, List.getElem_toArray, List.getElem_cons_zero, List.getElem_cons_succ, List.setIfInBounds_toArray, List.set_cons_zero, List.set_cons_succ])
          generalize wn4.heap.size = gx at *
          generalize wn4.alloc (.cells (c3 (.slice pa hN.f.length qa) (.slice pb hN.l.length qb) (.slice pc hN.r.length qc)) 30) = wx at *
          refine wpAnyH_take (i := 9) (v := ?va9x6) rfl (by kernel_rfl) (by kernel_rfl) (by kernel_rfl) (fun _ _ _ h => h) (Or.inl ⟨by rfl, ?hy9x6⟩) (by assumption) ?rest9x6
          case hy9x6 => (intro w hSw; (try dsimp only at hSw); go_simp; try with_reducible rfl)
          (try simp only [Act.put, List.getElem_toArray, List.getElem_cons_zero, List.getElem_cons_succ, List.setIfInBounds_toArray, List.set_cons_zero, List.set_cons_succ])
          refine wpAnyH_done (by kernel_rfl) ?_ _
          clear hHeld
          have HP : Hid (Hd w c (n + 20 - 2 * (k - 1)) (wx.setRow (w.heap.size + 1 + 1) (c3 (.slice pa hN.f.length qa) (.slice pb hN.l.length qb) (.slice pc hN.r.length qc))) w.heap.size (w.heap.size + 1 + 1) (.slice pa hN.f.length qa) (.slice pb hN.l.length qb) (.slice pc hN.r.length qc) hN) := (hd_put DX.out VX.out RX.out (by omega) (by omega) OX.out).mono (by omega)
          have SX := Lib.hid Swn4.out.1; have NX : Hid (∀ X : H, X = hN → (1 ≤ k - 1 ∨ 1 ≤ X.f.length)) := fun X e => .inr (by rw [e]; exact Swn4.out.2)
          generalize hN.f.length = nf at *
          generalize hN.l.length = nl at *
          generalize hN.r.length = nr at *
          go_wp2_with (first
            | (refine wl_loadH rfl _ rfl gx _ _ _ ZX.out rfl ?_)
            | (refine wl_storeH rfl _ _ rfl (w.heap.size + 1 + 1) (.slice pa nf qa) (.slice pb nl qb) (.slice pc nr qc) _ _ _ VX.out rfl rfl rfl rfl rfl ?_))
          go_roundw
          case rel => exact ⟨k - 1, _, _, _, hN, by go_num, hk9', HP, SX, NX.out _ rfl⟩
          case measure => simp [intOf]; omega
        · skip
          have hbz := below1 wp1 (.cells (c3 (.slice none 0 0) (.slice none 0 0) (.slice none 0 0)) 30)
          have H11 := Lib.hid (H3.out.below hbz)
          have Z10 := Lib.hid (show zrow _ _ from Row.new wp1 30 (c3 (.slice none 0 0) (.slice none 0 0) (.slice none 0 0)))
          have Lgz9 : Hid (w.heap.size ≤ wp1.heap.size ∧ wp1.heap.size ≠ w.heap.size ∧ wp1.heap.size ≠ (w.heap.size + 1 + 1)) := ⟨H3.out.dv.size, by have := H3.out.r.lt; omega, by have := H3.out.v.lt; omega⟩
          go_simp
          refine hK.out _ _ ⟨H11.out.v.c0, H11.out.v.c1, H11.out.v.c2⟩ (fun hHeld => ?_)
          clear hK K
          (try simp only [Act.put, List.getElem_toArray, List.getElem_cons_zero, List.getElem_cons_succ, List.setIfInBounds_toArray, List.set_cons_zero, List.set_cons_succ])
          clear hbz
          generalize wp1.heap.size = gz9 at *
          generalize wp1.alloc (.cells (c3 (.slice none 0 0) (.slice none 0 0) (.slice none 0 0)) 30) = wz8 at *
          refine wpAnyH_ready (rs := [3]) (by kernel_rfl) (by simp) ?_
          refine AllReadyH.cons rfl (fun K hK => ?_) AllReadyH.nil
          go_simp
          refine (s_l5New a b cc h x2n w.heap.size _ _ H11.out.own H11.out.dv.size (Nat.le_refl _) hSh.out.n hSh.out.ll (by omega)).mono ?_
          rintro e wn12 ⟨aq15, bq15, cq15, rfl, ho', hb', hr'⟩
          have Dwn12 := Lib.hid (H11.out.dv.low hb')
          have Vwn12 := Lib.hid (show RowH _ _ _ _ _ from hr' _ _ H11.out.v)
          have Rwn12 := Lib.hid (show zrow _ _ from hr' _ _ H11.out.r)
          have Swn12 := Lib.hid (HN.out x2n (by omega))
          obtain ⟨⟨pa, qa, rfl⟩, ⟨pb, qb, rfl⟩, ⟨pc, qc, rfl⟩⟩ := ho'.shapes
          have O14 := Lib.hid ho'
          replace Z10 := Lib.hid (show zrow _ _ from hr' _ _ Z10.out)
          clear hb' hr' ho'
          refine hK.out _ _ ⟨Vwn12.out.c0, Vwn12.out.c1, Vwn12.out.c2⟩ (fun hHeld => ?_)
          clear hK K
          (try simp only [Act.put, List.getElem_toArray, List.getElem_cons_zero, List.getElem_cons_succ, List.setIfInBounds_toArray, List.set_cons_zero, List.set_cons_succ])
          generalize (newS h x2n).1 = hN at *
          generalize (newS h x2n).2 = zN at *
          refine wpAnyH_take (i := 4) (v := ?va4x7) rfl (by kernel_rfl) (by kernel_rfl) (by kernel_rfl) (fun _ _ _ h => h) (Or.inl ⟨by rfl, ?hy4x7⟩) (by assumption) ?rest4x7
          case hy4x7 => (intro w hSw; (try dsimp only at hSw); go_simp; try with_reducible rfl)
          (try simp only [Act.put, List.getElem_toArray, List.getElem_cons_zero, List.getElem_cons_succ, List.setIfInBounds_toArray, List.set_cons_zero, List.set_cons_succ])
          refine wpAnyH_take (i := 5) (v := ?va5x8) rfl (by kernel_rfl) (by kernel_rfl) (by kernel_rfl) (fun _ _ _ h => h) (Or.inl ⟨by rfl, ?hy5x8⟩) (by assumption) ?rest5x8
          case hy5x8 => (intro w hSw; (try dsimp only at hSw); go_simp; try with_reducible rfl)
          (try simp only [Act.put, List.getElem_toArray, List.getElem_cons_zero, List.getElem_cons_succ, List.setIfInBounds_toArray, List.set_cons_zero, List.set_cons_succ])
          refine wpAnyH_take (i := 6) (v := ?va6x9) rfl (by kernel_rfl) (by kernel_rfl) (by kernel_rfl) (fun _ _ _ h => h) (Or.inl ⟨by rfl, ?hy6x9⟩) (by assumption) ?rest6x9
          case hy6x9 => (intro w hSw; (try dsimp only at hSw); go_simp; try with_reducible rfl)
          (try simp only [Act.put, List.getElem_toArray, List.getElem_cons_zero, List.getElem_cons_succ, List.setIfInBounds_toArray, List.set_cons_zero, List.set_cons_succ])
          refine wpAnyH_ready (rs := [8]) (by kernel_rfl) (by simp) ?_
          refine AllReadyH.cons rfl (fun K hK => ?_) AllReadyH.nil
          refine wp_store_row 30 _ _ rfl gz9 (c3 (.slice pa hN.f.length qa) (.slice pb hN.l.length qb) (.slice pc hN.r.length qc)) rfl rfl 30 _ Z10.out info_heap rfl (by simp [Value.oneCell']) ?_
          have VX := Lib.hid (show RowH _ _ _ _ _ from Row.putOther (g' := gz9) Vwn12.out (c3 (.slice pa hN.f.length qa) (.slice pb hN.l.length qb) (.slice pc hN.r.length qc)) (by have := Lgz9.out; omega))
          have RX := Lib.hid (show zrow _ _ from Row.putOther (g' := gz9) Rwn12.out (c3 (.slice pa hN.f.length qa) (.slice pb hN.l.length qb) (.slice pc hN.r.length qc)) (by have := Lgz9.out; omega))
          have DX := Lib.hid (Dwn12.out.low (below_setRow (g := gz9) (Below.refl w.heap.size wn12) (by have := Lgz9.out; omega) (c3 (.slice pa hN.f.length qa) (.slice pb hN.l.length qb) (.slice pc hN.r.length qc))))
          have OX := Lib.hid ((O14.out.wholeRow Z10.out (c3 (.slice pa hN.f.length qa) (.slice pb hN.l.length qb) (.slice pc hN.r.length qc))).wide (Nat.le_refl _) (show wn12.heap.size ≤ (wn12.setRow gz9 (c3 (.slice pa hN.f.length qa) (.slice pb hN.l.length qb) (.slice pc hN.r.length qc))).heap.size by rw [size_setRow]; exact Nat.le_refl _))
          have ZX := Lib.hid (show RowH _ _ _ _ _ from Row.put Z10.out (c3 (.slice pa hN.f.length qa) (.slice pb hN.l.length qb) (.slice pc hN.r.length qc)))
          refine hK.out _ _ ⟨VX.out.c0, VX.out.c1, VX.out.c2⟩ (fun hHeld => ?_)
          clear hK K
          (try simp only [Act.put, List.getElem_toArray, List.getElem_cons_zero, List.getElem_cons_succ])
          generalize wn12.setRow gz9 (c3 (.slice pa hN.f.length qa) (.slice pb hN.l.length qb) (.slice pc hN.r.length qc)) = wx at *
          have LX := Lgz9
          refine wpAnyH_take (i := 9) (v := ?va9x10) rfl (by kernel_rfl) (by kernel_rfl) (by kernel_rfl) (fun _ _ _ h => h) (Or.inl ⟨by rfl, ?hy9x10⟩) (by assumption) ?rest9x10
          case hy9x10 => (intro w hSw; (try dsimp only at hSw); go_simp; try with_reducible rfl)
          (try simp only [Act.put, List.getElem_toArray, List.getElem_cons_zero, List.getElem_cons_succ, List.setIfInBounds_toArray, List.set_cons_zero, List.set_cons_succ])
          refine wpAnyH_done (by kernel_rfl) ?_ _
          clear hHeld
          have HP : Hid (Hd w c (n + 20 - 2 * (k - 1)) (wx.setRow (w.heap.size + 1 + 1) (c3 (.slice pa hN.f.length qa) (.slice pb hN.l.length qb) (.slice pc hN.r.length qc))) w.heap.size (w.heap.size + 1 + 1) (.slice pa hN.f.length qa) (.slice pb hN.l.length qb) (.slice pc hN.r.length qc) hN) := (hd_put DX.out VX.out RX.out (by omega) (by omega) OX.out).mono (by omega)
          have SX := Lib.hid Swn12.out.1; have NX : Hid (∀ X : H, X = hN → (1 ≤ k - 1 ∨ 1 ≤ X.f.length)) := fun X e => .inr (by rw [e]; exact Swn12.out.2)
          generalize hN.f.length = nf at *
          generalize hN.l.length = nl at *
          generalize hN.r.length = nr at *
          go_wp2_with (first
            | (refine wl_loadH rfl _ rfl gz9 _ _ _ ZX.out rfl ?_)
            | (refine wl_storeH rfl _ _ rfl (w.heap.size + 1 + 1) (.slice pa nf qa) (.slice pb nl qb) (.slice pc nr qc) _ _ _ VX.out rfl rfl rfl rfl rfl ?_))
          go_roundw
          case rel => exact ⟨k - 1, _, _, _, hN, by go_num, hk9', HP, SX, NX.out _ rfl⟩
          case measure => simp [intOf]; omega
      · skip
        have hbz := below1 wd (.cells (c3 (.slice none 0 0) (.slice none 0 0) (.slice none 0 0)) 30)
        have H19 := Lib.hid (HD.out.below hbz)
        have Z18 := Lib.hid (show zrow _ _ from Row.new wd 30 (c3 (.slice none 0 0) (.slice none 0 0) (.slice none 0 0)))
        have Lgz17 : Hid (w.heap.size ≤ wd.heap.size ∧ wd.heap.size ≠ w.heap.size ∧ wd.heap.size ≠ (w.heap.size + 1 + 1)) := ⟨HD.out.dv.size, by have := HD.out.r.lt; omega, by have := HD.out.v.lt; omega⟩
        go_simp
        refine hK.out _ _ ⟨H19.out.v.c0, H19.out.v.c1, H19.out.v.c2⟩ (fun hHeld => ?_)
        clear hK K
        (try simp only [Act.put, List.getElem_toArray, List.getElem_cons_zero, List.getElem_cons_succ, List.setIfInBounds_toArray, List.set_cons_zero, List.set_cons_succ])
        clear hbz
        generalize wd.heap.size = gz17 at *
        generalize wd.alloc (.cells (c3 (.slice none 0 0) (.slice none 0 0) (.slice none 0 0)) 30) = wz16 at *
        refine wpAnyH_ready (rs := [2]) (by kernel_rfl) (by simp) ?_
        refine AllReadyH.cons rfl (fun K hK => ?_) AllReadyH.nil
        go_simp
        refine (c_pick c (n + 20 - 2 * k) (4) _ H19.out.dv.1 (by omega) (by omega) (by omega)).mono ?_
        rintro e wp20 ⟨x21, hx21, rfl, hc', hg'⟩
        have H22 := Lib.hid (H19.out.cur (Nat.le_refl _) (by omega) hc' hg')
        replace Z18 := Lib.hid (show zrow _ _ from Row.chg Z18.out (chgC hg') (.inr (by have := Lgz17.out; omega)))
        clear hc' hg'
        refine hK.out _ _ ⟨H22.out.v.c0, H22.out.v.c1, H22.out.v.c2⟩ (fun hHeld => ?_)
        clear hK K
        (try simp only [Act.put, List.getElem_toArray, List.getElem_cons_zero, List.getElem_cons_succ, List.setIfInBounds_toArray, List.set_cons_zero, List.set_cons_succ])
        obtain ⟨x21n, rfl⟩ : ∃ k : Nat, x21 = k := ⟨x21.toNat, by omega⟩
        refine wpAnyH_ready (rs := [3]) (by kernel_rfl) (by simp) ?_
        refine AllReadyH.cons rfl (fun K hK => ?_) AllReadyH.nil
        go_simp
        refine (s_l5New a b cc h x21n w.heap.size _ _ H22.out.own H22.out.dv.size (Nat.le_refl _) hSh.out.n hSh.out.ll (by omega)).mono ?_
        rintro e wn23 ⟨aq26, bq26, cq26, rfl, ho', hb', hr'⟩
        have Dwn23 := Lib.hid (H22.out.dv.low hb')
        have Vwn23 := Lib.hid (show RowH _ _ _ _ _ from hr' _ _ H22.out.v)
        have Rwn23 := Lib.hid (show zrow _ _ from hr' _ _ H22.out.r)
        have Swn23 := Lib.hid (HN.out x21n (by omega))
        obtain ⟨⟨pa, qa, rfl⟩, ⟨pb, qb, rfl⟩, ⟨pc, qc, rfl⟩⟩ := ho'.shapes
        have O25 := Lib.hid ho'
        replace Z18 := Lib.hid (show zrow _ _ from hr' _ _ Z18.out)
        clear hb' hr' ho'
        refine hK.out _ _ ⟨Vwn23.out.c0, Vwn23.out.c1, Vwn23.out.c2⟩ (fun hHeld => ?_)
        clear hK K
        (try simp only [Act.put, List.getElem_toArray, List.getElem_cons_zero, List.getElem_cons_succ, List.setIfInBounds_toArray, List.set_cons_zero, List.set_cons_succ])
        generalize (newS h x21n).1 = hN at *
        generalize (newS h x21n).2 = zN at *
        refine wpAnyH_take (i := 4) (v := ?va4x11) rfl (by kernel_rfl) (by kernel_rfl) (by kernel_rfl) (fun _ _ _ h => h) (Or.inl ⟨by rfl, ?hy4x11⟩) (by assumption) ?rest4x11
        case hy4x11 => (intro w hSw; (try dsimp only at hSw); go_simp; try with_reducible rfl)
        (try simp only [Act.put, List.getElem_toArray, List.getElem_cons_zero, List.getElem_cons_succ, List.setIfInBounds_toArray, List.set_cons_zero, List.set_cons_succ])
        refine wpAnyH_take (i := 5) (v := ?va5x12) rfl (by kernel_rfl) (by kernel_rfl) (by kernel_rfl) (fun _ _ _ h => h) (Or.inl ⟨by rfl, ?hy5x12⟩) (by assumption) ?rest5x12
        case hy5x12 => (intro w hSw; (try dsimp only at hSw); go_simp; try with_reducible rfl)
        (try simp only [Act.put, List.getElem_toArray, List.getElem_cons_zero, List.getElem_cons_succ, List.setIfInBounds_toArray, List.set_cons_zero, List.set_cons_succ])
        refine wpAnyH_take (i := 6) (v := ?va6x13) rfl (by kernel_rfl) (by kernel_rfl) (by kernel_rfl) (fun _ _ _ h => h) (Or.inl ⟨by rfl, ?hy6x13⟩) (by assumption) ?rest6x13
        case hy6x13 => (intro w hSw; (try dsimp only at hSw); go_simp; try with_reducible rfl)
        (try simp only [Act.put, List.getElem_toArray, List.getElem_cons_zero, List.getElem_cons_succ, List.setIfInBounds_toArray, List.set_cons_zero, List.set_cons_succ])
        refine wpAnyH_ready (rs := [8]) (by kernel_rfl) (by simp) ?_
        refine AllReadyH.cons rfl (fun K hK => ?_) AllReadyH.nil
        refine wp_store_row 30 _ _ rfl gz17 (c3 (.slice pa hN.f.length qa) (.slice pb hN.l.length qb) (.slice pc hN.r.length qc)) rfl rfl 30 _ Z18.out info_heap rfl (by simp [Value.oneCell']) ?_
        have VX := Lib.hid (show RowH _ _ _ _ _ from Row.putOther (g' := gz17) Vwn23.out (c3 (.slice pa hN.f.length qa) (.slice pb hN.l.length qb) (.slice pc hN.r.length qc)) (by have := Lgz17.out; omega))
        have RX := Lib.hid (show zrow _ _ from Row.putOther (g' := gz17) Rwn23.out (c3 (.slice pa hN.f.length qa) (.slice pb hN.l.length qb) (.slice pc hN.r.length qc)) (by have := Lgz17.out; omega))
        have DX := Lib.hid (Dwn23.out.low (below_setRow (g := gz17) (Below.refl w.heap.size wn23) (by have := Lgz17.out; omega) (c3 (.slice pa hN.f.length qa) (.slice pb hN.l.length qb) (.slice pc hN.r.length qc))))
        have OX := Lib.hid ((O25.out.wholeRow Z18.out (c3 (.slice pa hN.f.length qa) (.slice pb hN.l.length qb) (.slice pc hN.r.length qc))).wide (Nat.le_refl _) (show wn23.heap.size ≤ (wn23.setRow gz17 (c3 (.slice pa hN.f.length qa) (.slice pb hN.l.length qb) (.slice pc hN.r.length qc))).heap.size by rw [size_setRow]; exact Nat.le_refl _))
        have ZX := Lib.hid (show RowH _ _ _ _ _ from Row.put Z18.out (c3 (.slice pa hN.f.length qa) (.slice pb hN.l.length qb) (.slice pc hN.r.length qc)))
        refine hK.out _ _ ⟨VX.out.c0, VX.out.c1, VX.out.c2⟩ (fun hHeld => ?_)
        clear hK K
        (try simp only [Act.put, List.getElem_toArray, List.getElem_cons_zero, List.getElem_cons_succ])
        generalize wn23.setRow gz17 (c3 (.slice pa hN.f.length qa) (.slice pb hN.l.length qb) (.slice pc hN.r.length qc)) = wx at *
        have LX := Lgz17
        refine wpAnyH_take (i := 9) (v := ?va9x14) rfl (by kernel_rfl) (by kernel_rfl) (by kernel_rfl) (fun _ _ _ h => h) (Or.inl ⟨by rfl, ?hy9x14⟩) (by assumption) ?rest9x14
        case hy9x14 => (intro w hSw; (try dsimp only at hSw); go_simp; try with_reducible rfl)
        (try simp only [Act.put, List.getElem_toArray, List.getElem_cons_zero, List.getElem_cons_succ, List.setIfInBounds_toArray, List.set_cons_zero, List.set_cons_succ])
        refine wpAnyH_done (by kernel_rfl) ?_ _
        clear hHeld
        have HP : Hid (Hd w c (n + 20 - 2 * (k - 1)) (wx.setRow (w.heap.size + 1 + 1) (c3 (.slice pa hN.f.length qa) (.slice pb hN.l.length qb) (.slice pc hN.r.length qc))) w.heap.size (w.heap.size + 1 + 1) (.slice pa hN.f.length qa) (.slice pb hN.l.length qb) (.slice pc hN.r.length qc) hN) := (hd_put DX.out VX.out RX.out (by omega) (by omega) OX.out).mono (by omega)
        have SX := Lib.hid Swn23.out.1; have NX : Hid (∀ X : H, X = hN → (1 ≤ k - 1 ∨ 1 ≤ X.f.length)) := fun X e => .inr (by rw [e]; exact Swn23.out.2)
        generalize hN.f.length = nf at *
        generalize hN.l.length = nl at *
        generalize hN.r.length = nr at *
        go_wp2_with (first
          | (refine wl_loadH rfl _ rfl gz17 _ _ _ ZX.out rfl ?_)
          | (refine wl_storeH rfl _ _ rfl (w.heap.size + 1 + 1) (.slice pa nf qa) (.slice pb nl qb) (.slice pc nr qc) _ _ _ VX.out rfl rfl rfl rfl rfl ?_))
        go_roundw
        case rel => exact ⟨k - 1, _, _, _, hN, by go_num, hk9', HP, SX, NX.out _ rfl⟩
        case measure => simp [intOf]; omega
    · obtain rfl : k = 0 := by omega
      have hk0' : ¬ (0 : Int) < ((0 : Nat) : Int) := by omega
      have hnf1 : Hid (1 ≤ h.f.length) := by unfold Hid; rcases hne.out with q | q <;> omega
      have HA : Hid (Hd w c (n + 20) wr w.heap.size (w.heap.size + 1 + 1) a b cc h) := hHd.out.mono (by omega)
      clear hne hHd
      go_wp2_with fail
      refine (c_pick c (n + 20) 16 _ HA.out.dv.1 (by omega) (by omega) (by omega)).mono ?_
      rintro e w7 ⟨x7, hx7, rfl, hc7, hg7⟩
      obtain ⟨k7, rfl⟩ : ∃ k : Nat, x7 = k := ⟨x7.toNat, by omega⟩
      have HB : Hid (Hd w c (n + 112 - 6 * k7) w7 w.heap.size (w.heap.size + 1 + 1) a b cc h) := (HA.out.cur (Nat.le_refl _) (by omega) hc7 hg7).mono (by omega)
      have hk7 : k7 ≤ 15 := by omega
      clear hc7 hg7 HA hx7
      go_wp2_with fail
      go_loopw [7] (fun i wr => ∃ (k : Nat) (a b cc : Value) (h : H), i = .int .i64 (k : Int) ∧ k ≤ 15 ∧ Hid (Hd w c (n + 112 - 6 * k) wr w.heap.size (w.heap.size + 1 + 1) a b cc h) ∧ Hid (Sh h) ∧ Hid (1 ≤ h.f.length)) (fun i _ => (intOf i).toNat)
      case atStart => exact ⟨k7, _, _, _, _, rfl, hk7, HB, hSh, hnf1⟩
      case round =>
        clear HB hSh hnf1 hk7
        obtain ⟨k, a, b, cc, h, rfl, hk15, hHd, hSh, hne⟩ := hrel
        by_cases hk0 : 1 ≤ k
        · have k0 : (0 : Int) < (k : Int) := by omega
          have hwk : IntKind.i64.wrap ((k : Int) - 1) = ((k - 1 : Nat) : Int) := by rw [IntWalk.i64_in _ (by omega)]; omega
          have hk15' : k - 1 ≤ 15 := by omega
          obtain ⟨⟨pa, qa, rfl⟩, ⟨pb, qb, rfl⟩, ⟨pc, qc, rfl⟩⟩ := hHd.out.own.shapes
          have hn12 := hSh.out.n
          have hn1 := hne.out
          have HSF := Lib.hid (fun (t f z : Int) (q : setFOk h t f z = true) => hSh.out.setF q)
          have HNE : Hid (∀ X : H, X = h → 1 ≤ X.f.length) := fun X e => by rw [e]; exact hne.out
          have HNF : Hid (∀ X : H, X.f.length = h.f.length → 1 ≤ X.f.length) := fun X e => by rw [e]; exact hne.out
          clear hne
          generalize h.f.length = nf at *
          generalize h.l.length = nl at *
          generalize h.r.length = nr at *
          have hwn : IntKind.i64.wrap ((nf : Int) + 1) = (nf : Int) + 1 := IntWalk.i64_in _ (by omega)
          have d0 := hHd.out.v.c0
          go_wp2_with fail
          refine (c_pick c (n + 112 - 6 * k) (nf : Int) _ hHd.out.dv.1 (by omega) (by omega) (by omega)).mono ?_
          rintro e w8 ⟨x8, hx8, rfl, hc8, hg8⟩
          have H8 := Lib.hid (hHd.out.cur (Nat.le_refl _) (by omega) hc8 hg8)
          clear hc8 hg8 d0
          go_wp2_with fail
          have HD := Lib.hid (H8.out.below (below_drew (Below.refl w8.heap.size w8)))
          have d0 := HD.out.v.c0
          have d1 := HD.out.v.c1
          have d2 := HD.out.v.c2
          refine wp_region_held_drew (S := (fun w' => w'.cell? ⟨w.heap.size + 1 + 1, 0, none⟩ = some (.slice pa nf qa) ∧ w'.cell? ⟨w.heap.size + 1 + 1, 1, none⟩ = some (.slice pb nl qb) ∧ w'.cell? ⟨w.heap.size + 1 + 1, 2, none⟩ = some (.slice pc nr qc))) (by kernel_rfl) (⟨d0, d1, d2⟩) (fun hHeld => ?_)
          refine wpAnyH_take (i := 0) (v := ?va0x15) rfl (by kernel_rfl) (by kernel_rfl) (by kernel_rfl) (fun _ _ _ h => h) (Or.inl ⟨by rfl, ?hy0x15⟩) (by assumption) ?rest0x15
          case hy0x15 => (intro w hSw; (try dsimp only at hSw); go_simp; try with_reducible rfl)
          (try simp only [Act.put, List.getElem_toArray, List.getElem_cons_zero, List.setIfInBounds_toArray, List.set_cons_zero, List.set_cons_succ])
          refine wpAnyH_take (i := 1) (v := ?va1x16) rfl (by kernel_rfl) (by kernel_rfl) (by kernel_rfl) (fun _ _ _ h => h) (Or.inl ⟨by rfl, ?hy1x16⟩) (by assumption) ?rest1x16
          case hy1x16 => (intro w hSw; (try dsimp only at hSw); go_simp; try with_reducible rfl)
          (try simp only [Act.put, List.getElem_toArray, List.getElem_cons_zero, List.getElem_cons_succ, List.setIfInBounds_toArray, List.set_cons_zero, List.set_cons_succ])
          refine wpAnyH_take (i := 2) (v := ?va2x17) rfl (by kernel_rfl) (by kernel_rfl) (by kernel_rfl) (fun _ _ _ h => h) (Or.inl ⟨by rfl, ?hy2x17⟩) (by assumption) ?rest2x17
          case hy2x17 => (intro w hSw; (try dsimp only at hSw); go_simp; try with_reducible rfl)
          (try simp only [Act.put, List.getElem_toArray, List.getElem_cons_zero, List.getElem_cons_succ, List.setIfInBounds_toArray, List.set_cons_zero, List.set_cons_succ])
          refine wpAnyH_take (i := 4) (v := ?va4x18) rfl (by kernel_rfl) (by kernel_rfl) (by kernel_rfl) (fun _ _ _ h => h) (Or.inl ⟨by rfl, ?hy4x18⟩) (by assumption) ?rest4x18
          case hy4x18 => (intro w hSw; (try dsimp only at hSw); go_simp; try with_reducible rfl)
          (try simp only [Act.put, List.getElem_toArray, List.getElem_cons_zero, List.getElem_cons_succ, List.setIfInBounds_toArray, List.set_cons_zero, List.set_cons_succ])
          refine wpAnyH_take (i := 5) (v := ?va5x19) rfl (by kernel_rfl) (by kernel_rfl) (by kernel_rfl) (fun _ _ _ h => h) (Or.inl ⟨by rfl, ?hy5x19⟩) (by assumption) ?rest5x19
          case hy5x19 => (intro w hSw; (try dsimp only at hSw); go_simp; try with_reducible rfl)
          (try simp only [Act.put, List.getElem_toArray, List.getElem_cons_zero, List.getElem_cons_succ, List.setIfInBounds_toArray, List.set_cons_zero, List.set_cons_succ])
          refine wpAnyH_take (i := 6) (v := ?va6x20) rfl (by kernel_rfl) (by kernel_rfl) (by kernel_rfl) (fun _ _ _ h => h) (Or.inl ⟨by rfl, ?hy6x20⟩) (by assumption) ?rest6x20
          case hy6x20 => (intro w hSw; (try dsimp only at hSw); go_simp; try with_reducible rfl)
          (try simp only [Act.put, List.getElem_toArray, List.getElem_cons_zero, List.getElem_cons_succ, List.setIfInBounds_toArray, List.set_cons_zero, List.set_cons_succ])
          refine wpAnyH_take (i := 7) (v := ?va7x21) rfl (by kernel_rfl) (by kernel_rfl) (by kernel_rfl) (fun _ _ _ h => h) (Or.inl ⟨by rfl, ?hy7x21⟩) (by assumption) ?rest7x21
          case hy7x21 => (intro w hSw; (try dsimp only at hSw); go_simp; try with_reducible rfl)
          (try simp only [Act.put, List.getElem_toArray, List.getElem_cons_zero, List.getElem_cons_succ, List.setIfInBounds_toArray, List.set_cons_zero, List.set_cons_succ])
          refine wpAnyH_take (i := 8) (v := ?va8x22) rfl (by kernel_rfl) (by kernel_rfl) (by kernel_rfl) (fun _ _ _ h => h) (Or.inl ⟨by rfl, ?hy8x22⟩) (by assumption) ?rest8x22
          case hy8x22 => (intro w hSw; (try dsimp only at hSw); go_simp; try with_reducible rfl)
          (try simp only [Act.put, List.getElem_toArray, List.getElem_cons_zero, List.getElem_cons_succ, List.setIfInBounds_toArray, List.set_cons_zero, List.set_cons_succ])
          generalize w8.drew = wd at *
          clear d0 d1 d2
          refine wpAnyH_ready (rs := [3, 15]) (by kernel_rfl) (by simp) ?_
          refine AllReadyH.cons rfl (fun K hK => ?_) (AllReadyH.cons rfl (fun K hK => ?_) AllReadyH.nil)
          · skip
            go_simp
            refine (c_pick c (n + 112 - 6 * k + 2) (3) _ HD.out.dv.1 (by omega) (by omega) (by omega)).mono ?_
            rintro e wp27 ⟨x28, hx28, rfl, hc', hg'⟩
            have H29 := Lib.hid (HD.out.cur (Nat.le_refl _) (by omega) hc' hg')
            clear hc' hg'
            refine hK.out _ _ ⟨H29.out.v.c0, H29.out.v.c1, H29.out.v.c2⟩ (fun hHeld => ?_)
            clear hK K
            (try simp only [Act.put, List.getElem_toArray, List.getElem_cons_zero, List.getElem_cons_succ, List.setIfInBounds_toArray, List.set_cons_zero, List.set_cons_succ])
            refine wpAnyH_ready (rs := [9, 15]) (by kernel_rfl) (by simp) ?_
            refine AllReadyH.cons rfl (fun K hK => ?_) (AllReadyH.cons rfl (fun K hK => ?_) AllReadyH.nil)
            · skip
              go_simp
              refine (c_pick c (n + 112 - 6 * k + 2 + 2) ((nf : Int) + 1) _ H29.out.dv.1 (by omega) (by omega) (by omega)).mono ?_
              rintro e wp30 ⟨x31, hx31, rfl, hc', hg'⟩
              have H32 := Lib.hid (H29.out.cur (Nat.le_refl _) (by omega) hc' hg')
              clear hc' hg'
              refine hK.out _ _ ⟨H32.out.v.c0, H32.out.v.c1, H32.out.v.c2⟩ (fun hHeld => ?_)
              clear hK K
              (try simp only [Act.put, List.getElem_toArray, List.getElem_cons_zero, List.getElem_cons_succ, List.setIfInBounds_toArray, List.set_cons_zero, List.set_cons_succ])
              have hwx : IntKind.i64.wrap (x31 - 1) = x31 - 1 := IntWalk.i64_in _ (by omega)
              refine wpAnyH_take (i := 10) (v := ?va10x23) rfl (by kernel_rfl) (by kernel_rfl) (by kernel_rfl) (fun _ _ _ h => h) (Or.inl ⟨by rfl, ?hy10x23⟩) (by assumption) ?rest10x23
              case hy10x23 => (intro w hSw; (try dsimp only at hSw); go_simp; try with_reducible rfl)
              (try simp only [Act.put, List.getElem_toArray, List.getElem_cons_zero, List.getElem_cons_succ, List.setIfInBounds_toArray, List.set_cons_zero, List.set_cons_succ])
              refine wpAnyH_ready (rs := [11, 15]) (by kernel_rfl) (by simp) ?_
              refine AllReadyH.cons rfl (fun K hK => ?_) (AllReadyH.cons rfl (fun K hK => ?_) AllReadyH.nil)
              · skip
                go_simp
                refine (s_SetField (.slice pa nf qa) (.slice pb nl qb) (.slice pc nr qc) h x8 x28 (x31 - 1) _ H32.out.own.reads).mono ?_
                rintro e ws33 ⟨aq36, bq36, cq36, rfl, ho', hb'⟩
                have H34 := Lib.hid (H32.out.below hb')
                have Sws33 := Lib.hid (HSF.out x8 x28 (x31 - 1))
                have O35 := Lib.hid (ho'.wide H32.out.dv.size (Nat.le_refl _))
                obtain ⟨⟨pa', qa', rfl⟩, ⟨pb', qb', rfl⟩, ⟨pc', qc', rfl⟩⟩ := ho'.shapes
                clear hb' ho'
                refine hK.out _ _ ⟨H34.out.v.c0, H34.out.v.c1, H34.out.v.c2⟩ (fun hHeld => ?_)
                clear hK K
                (try simp only [Act.put, List.getElem_toArray, List.getElem_cons_zero, List.getElem_cons_succ, List.setIfInBounds_toArray, List.set_cons_zero, List.set_cons_succ])
                generalize setF h x8 x28 (x31 - 1) = hN at *
                generalize setFOk h x8 x28 (x31 - 1) = ok at *
                refine wpAnyH_take (i := 12) (v := ?va12x24) rfl (by kernel_rfl) (by kernel_rfl) (by kernel_rfl) (fun _ _ _ h => h) (Or.inl ⟨by rfl, ?hy12x24⟩) (by assumption) ?rest12x24
                case hy12x24 => (intro w hSw; (try dsimp only at hSw); go_simp; try with_reducible rfl)
                (try simp only [Act.put, List.getElem_toArray, List.getElem_cons_zero, List.getElem_cons_succ, List.setIfInBounds_toArray, List.set_cons_zero, List.set_cons_succ])
                refine wpAnyH_take (i := 13) (v := ?va13x25) rfl (by kernel_rfl) (by kernel_rfl) (by kernel_rfl) (fun _ _ _ h => h) (Or.inl ⟨by rfl, ?hy13x25⟩) (by assumption) ?rest13x25
                case hy13x25 => (intro w hSw; (try dsimp only at hSw); go_simp; try with_reducible rfl)
                (try simp only [Act.put, List.getElem_toArray, List.getElem_cons_zero, List.getElem_cons_succ, List.setIfInBounds_toArray, List.set_cons_zero, List.set_cons_succ])
                refine wpAnyH_take (i := 14) (v := ?va14x26) rfl (by kernel_rfl) (by kernel_rfl) (by kernel_rfl) (fun _ _ _ h => h) (Or.inl ⟨by rfl, ?hy14x26⟩) (by assumption) ?rest14x26
                case hy14x26 => (intro w hSw; (try dsimp only at hSw); go_simp; try with_reducible rfl)
                (try simp only [Act.put, List.getElem_toArray, List.getElem_cons_zero, List.getElem_cons_succ, List.setIfInBounds_toArray, List.set_cons_zero, List.set_cons_succ])
                refine wpAnyH_ready (rs := [15]) (by kernel_rfl) (by simp) ?_
                refine AllReadyH.cons rfl (fun K hK => ?_) AllReadyH.nil
                have H7 := Lib.hid (H34.out.below (below1 ws33 (.cells (c3 (.slice none 0 0) (.slice none 0 0) (.slice none 0 0)) 30)))
                go_simp
                refine hK.out _ _ ⟨H7.out.v.c0, H7.out.v.c1, H7.out.v.c2⟩ (fun hHeld => ?_)
                clear hK K
                (try simp only [Act.put, List.getElem_toArray, List.getElem_cons_zero, List.getElem_cons_succ, List.setIfInBounds_toArray, List.set_cons_zero, List.set_cons_succ])
                have hbx := below1 ws33 (.cells (c3 (.slice pa' hN.f.length qa') (.slice pb' hN.l.length qb') (.slice pc' hN.r.length qc')) 30)
                have HX := Lib.hid (H34.out.below hbx)
                have OX := Lib.hid ((O35.out.below hbx).wide (Nat.le_refl _) hbx.size)
                have ZX := Lib.hid (show RowH _ _ _ _ _ from Row.new ws33 30 (c3 (.slice pa' hN.f.length qa') (.slice pb' hN.l.length qb') (.slice pc' hN.r.length qc')))
                refine wpAnyH_ready (rs := [16]) (by kernel_rfl) (by simp) ?_
                refine AllReadyH.cons rfl (fun K hK => ?_) AllReadyH.nil
                go_simp
                refine hK.out _ _ ⟨HX.out.v.c0, HX.out.v.c1, HX.out.v.c2⟩ (fun hHeld => ?_)
                clear hK K
                (try simp only [Act.put, List.getElem_toArray, List.getElem_cons_zero, List.getElem_cons_succ, List.setIfInBounds_toArray, List.set_cons_zero, List.set_cons_succ])
                clear hbx H7
                generalize ws33.heap.size = gx at *
                generalize ws33.alloc (.cells (c3 (.slice pa' hN.f.length qa') (.slice pb' hN.l.length qb') (.slice pc' hN.r.length qc')) 30) = wx at *
                refine wpAnyH_take (i := 17) (v := ?va17x27) rfl (by kernel_rfl) (by kernel_rfl) (by kernel_rfl) (fun _ _ _ h => h) (Or.inl ⟨by rfl, ?hy17x27⟩) (by assumption) ?rest17x27
                case hy17x27 => (intro w hSw; (try dsimp only at hSw); go_simp; try with_reducible rfl)
                (try simp only [Act.put, List.getElem_toArray, List.getElem_cons_zero, List.getElem_cons_succ, List.setIfInBounds_toArray, List.set_cons_zero, List.set_cons_succ])
                refine wpAnyH_done (by kernel_rfl) ?_ _
                clear hHeld
                have HP : Hid (Hd w c (n + 112 - 6 * (k - 1)) (wx.setRow (w.heap.size + 1 + 1) (c3 (.slice pa' hN.f.length qa') (.slice pb' hN.l.length qb') (.slice pc' hN.r.length qc'))) w.heap.size (w.heap.size + 1 + 1) (.slice pa' hN.f.length qa') (.slice pb' hN.l.length qb') (.slice pc' hN.r.length qc') hN) := (HX.out.put (by omega) (by omega) OX.out).mono (by omega)
                have HQ : Hid (Hd w c (n + 112 - 6 * (k - 1)) wx w.heap.size (w.heap.size + 1 + 1) (.slice pa nf qa) (.slice pb nl qb) (.slice pc nr qc) h) := HX.out.mono (by omega)
                have SX : Hid (ok = true → ∀ X : H, X = hN → Sh X ∧ X.f.length = nf) := fun q X e => by rw [e]; exact Sws33.out q
                have hv' := HX.out.v
                have VX := Lib.hid hv'
                clear hv'
                generalize hN.f.length = nf' at *
                generalize hN.l.length = nl' at *
                generalize hN.r.length = nr' at *
                cases ok
                · go_wp2_with fail
                  go_roundw
                  case rel => exact ⟨k - 1, _, _, _, h, by go_num, hk15', HQ, hSh, HNE.out _ rfl⟩
                  case measure => simp [intOf]; omega
                · have SX' := Lib.hid (SX.out rfl)
                  clear SX
                  go_wp2_with (first
                    | (refine wl_loadH rfl _ rfl gx _ _ _ ZX.out rfl ?_)
                    | (refine wl_storeH rfl _ _ rfl (w.heap.size + 1 + 1) (.slice pa' nf' qa') (.slice pb' nl' qb') (.slice pc' nr' qc') _ _ _ VX.out rfl rfl rfl rfl rfl ?_))
                  go_roundw
                  case rel => exact ⟨k - 1, _, _, _, hN, by go_num, hk15', HP, (SX'.out _ rfl).1, HNF.out _ (SX'.out _ rfl).2⟩
                  case measure => simp [intOf]; omega
              · skip
                have hbz := below1 wp30 (.cells (c3 (.slice none 0 0) (.slice none 0 0) (.slice none 0 0)) 30)
                have H40 := Lib.hid (H32.out.below hbz)
                have Z39 := Lib.hid (show zrow _ _ from Row.new wp30 30 (c3 (.slice none 0 0) (.slice none 0 0) (.slice none 0 0)))
                have Lgz38 : Hid (w.heap.size ≤ wp30.heap.size ∧ wp30.heap.size ≠ w.heap.size ∧ wp30.heap.size ≠ (w.heap.size + 1 + 1)) := ⟨H32.out.dv.size, by have := H32.out.r.lt; omega, by have := H32.out.v.lt; omega⟩
                go_simp
                refine hK.out _ _ ⟨H40.out.v.c0, H40.out.v.c1, H40.out.v.c2⟩ (fun hHeld => ?_)
                clear hK K
                (try simp only [Act.put, List.getElem_toArray, List.getElem_cons_zero, List.getElem_cons_succ, List.setIfInBounds_toArray, List.set_cons_zero, List.set_cons_succ])
                clear hbz
                generalize wp30.heap.size = gz38 at *
                generalize wp30.alloc (.cells (c3 (.slice none 0 0) (.slice none 0 0) (.slice none 0 0)) 30) = wz37 at *
                refine wpAnyH_ready (rs := [11]) (by kernel_rfl) (by simp) ?_
                refine AllReadyH.cons rfl (fun K hK => ?_) AllReadyH.nil
                go_simp
                refine (s_SetField (.slice pa nf qa) (.slice pb nl qb) (.slice pc nr qc) h x8 x28 (x31 - 1) _ H40.out.own.reads).mono ?_
                rintro e ws41 ⟨aq44, bq44, cq44, rfl, ho', hb'⟩
                have H42 := Lib.hid (H40.out.below hb')
                have Sws41 := Lib.hid (HSF.out x8 x28 (x31 - 1))
                have O43 := Lib.hid (ho'.wide H40.out.dv.size (Nat.le_refl _))
                obtain ⟨⟨pa', qa', rfl⟩, ⟨pb', qb', rfl⟩, ⟨pc', qc', rfl⟩⟩ := ho'.shapes
                replace Z39 := Lib.hid (show zrow _ _ from Z39.out.below hb')
                clear hb' ho'
                refine hK.out _ _ ⟨H42.out.v.c0, H42.out.v.c1, H42.out.v.c2⟩ (fun hHeld => ?_)
                clear hK K
                (try simp only [Act.put, List.getElem_toArray, List.getElem_cons_zero, List.getElem_cons_succ, List.setIfInBounds_toArray, List.set_cons_zero, List.set_cons_succ])
                generalize setF h x8 x28 (x31 - 1) = hN at *
                generalize setFOk h x8 x28 (x31 - 1) = ok at *
                refine wpAnyH_take (i := 12) (v := ?va12x28) rfl (by kernel_rfl) (by kernel_rfl) (by kernel_rfl) (fun _ _ _ h => h) (Or.inl ⟨by rfl, ?hy12x28⟩) (by assumption) ?rest12x28
                case hy12x28 => (intro w hSw; (try dsimp only at hSw); go_simp; try with_reducible rfl)
                (try simp only [Act.put, List.getElem_toArray, List.getElem_cons_zero, List.getElem_cons_succ, List.setIfInBounds_toArray, List.set_cons_zero, List.set_cons_succ])
                refine wpAnyH_take (i := 13) (v := ?va13x29) rfl (by kernel_rfl) (by kernel_rfl) (by kernel_rfl) (fun _ _ _ h => h) (Or.inl ⟨by rfl, ?hy13x29⟩) (by assumption) ?rest13x29
                case hy13x29 => (intro w hSw; (try dsimp only at hSw); go_simp; try with_reducible rfl)
                (try simp only [Act.put, List.getElem_toArray, List.getElem_cons_zero, List.getElem_cons_succ, List.setIfInBounds_toArray, List.set_cons_zero, List.set_cons_succ])
                refine wpAnyH_take (i := 14) (v := ?va14x30) rfl (by kernel_rfl) (by kernel_rfl) (by kernel_rfl) (fun _ _ _ h => h) (Or.inl ⟨by rfl, ?hy14x30⟩) (by assumption) ?rest14x30
                case hy14x30 => (intro w hSw; (try dsimp only at hSw); go_simp; try with_reducible rfl)
                (try simp only [Act.put, List.getElem_toArray, List.getElem_cons_zero, List.getElem_cons_succ, List.setIfInBounds_toArray, List.set_cons_zero, List.set_cons_succ])
                refine wpAnyH_ready (rs := [16]) (by kernel_rfl) (by simp) ?_
                refine AllReadyH.cons rfl (fun K hK => ?_) AllReadyH.nil
                refine wp_store_row 30 _ _ rfl gz38 (c3 (.slice pa' hN.f.length qa') (.slice pb' hN.l.length qb') (.slice pc' hN.r.length qc')) rfl rfl 30 _ Z39.out info_heap rfl (by simp [Value.oneCell']) ?_
                have HX := Lib.hid (H42.out.side Z39.out (by have := Lgz38.out; omega) (by have := Lgz38.out; omega) (by have := Lgz38.out; omega) (c3 (.slice pa' hN.f.length qa') (.slice pb' hN.l.length qb') (.slice pc' hN.r.length qc')))
                have OX := Lib.hid ((O43.out.wholeRow Z39.out (c3 (.slice pa' hN.f.length qa') (.slice pb' hN.l.length qb') (.slice pc' hN.r.length qc'))).wide (Nat.le_refl _) (show ws41.heap.size ≤ (ws41.setRow gz38 (c3 (.slice pa' hN.f.length qa') (.slice pb' hN.l.length qb') (.slice pc' hN.r.length qc'))).heap.size by rw [size_setRow]; exact Nat.le_refl _))
                have ZX := Lib.hid (show RowH _ _ _ _ _ from Row.put Z39.out (c3 (.slice pa' hN.f.length qa') (.slice pb' hN.l.length qb') (.slice pc' hN.r.length qc')))
                refine hK.out _ _ ⟨HX.out.v.c0, HX.out.v.c1, HX.out.v.c2⟩ (fun hHeld => ?_)
                clear hK K
                (try simp only [Act.put, List.getElem_toArray, List.getElem_cons_zero, List.getElem_cons_succ])
                generalize ws41.setRow gz38 (c3 (.slice pa' hN.f.length qa') (.slice pb' hN.l.length qb') (.slice pc' hN.r.length qc')) = wx at *
                refine wpAnyH_take (i := 17) (v := ?va17x31) rfl (by kernel_rfl) (by kernel_rfl) (by kernel_rfl) (fun _ _ _ h => h) (Or.inl ⟨by rfl, ?hy17x31⟩) (by assumption) ?rest17x31
                case hy17x31 => (intro w hSw; (try dsimp only at hSw); go_simp; try with_reducible rfl)
                (try simp only [Act.put, List.getElem_toArray, List.getElem_cons_zero, List.getElem_cons_succ, List.setIfInBounds_toArray, List.set_cons_zero, List.set_cons_succ])
                refine wpAnyH_done (by kernel_rfl) ?_ _
                clear hHeld
                have HP : Hid (Hd w c (n + 112 - 6 * (k - 1)) (wx.setRow (w.heap.size + 1 + 1) (c3 (.slice pa' hN.f.length qa') (.slice pb' hN.l.length qb') (.slice pc' hN.r.length qc'))) w.heap.size (w.heap.size + 1 + 1) (.slice pa' hN.f.length qa') (.slice pb' hN.l.length qb') (.slice pc' hN.r.length qc') hN) := (HX.out.put (by omega) (by omega) OX.out).mono (by omega)
                have HQ : Hid (Hd w c (n + 112 - 6 * (k - 1)) wx w.heap.size (w.heap.size + 1 + 1) (.slice pa nf qa) (.slice pb nl qb) (.slice pc nr qc) h) := HX.out.mono (by omega)
                have SX : Hid (ok = true → ∀ X : H, X = hN → Sh X ∧ X.f.length = nf) := fun q X e => by rw [e]; exact Sws41.out q
                have hv' := HX.out.v
                have VX := Lib.hid hv'
                clear hv'
                generalize hN.f.length = nf' at *
                generalize hN.l.length = nl' at *
                generalize hN.r.length = nr' at *
                cases ok
                · go_wp2_with fail
                  go_roundw
                  case rel => exact ⟨k - 1, _, _, _, h, by go_num, hk15', HQ, hSh, HNE.out _ rfl⟩
                  case measure => simp [intOf]; omega
                · have SX' := Lib.hid (SX.out rfl)
                  clear SX
                  go_wp2_with (first
                    | (refine wl_loadH rfl _ rfl gz38 _ _ _ ZX.out rfl ?_)
                    | (refine wl_storeH rfl _ _ rfl (w.heap.size + 1 + 1) (.slice pa' nf' qa') (.slice pb' nl' qb') (.slice pc' nr' qc') _ _ _ VX.out rfl rfl rfl rfl rfl ?_))
                  go_roundw
                  case rel => exact ⟨k - 1, _, _, _, hN, by go_num, hk15', HP, (SX'.out _ rfl).1, HNF.out _ (SX'.out _ rfl).2⟩
                  case measure => simp [intOf]; omega
            · skip
              have hbz := below1 wp27 (.cells (c3 (.slice none 0 0) (.slice none 0 0) (.slice none 0 0)) 30)
              have H48 := Lib.hid (H29.out.below hbz)
              have Z47 := Lib.hid (show zrow _ _ from Row.new wp27 30 (c3 (.slice none 0 0) (.slice none 0 0) (.slice none 0 0)))
              have Lgz46 : Hid (w.heap.size ≤ wp27.heap.size ∧ wp27.heap.size ≠ w.heap.size ∧ wp27.heap.size ≠ (w.heap.size + 1 + 1)) := ⟨H29.out.dv.size, by have := H29.out.r.lt; omega, by have := H29.out.v.lt; omega⟩
              go_simp
              refine hK.out _ _ ⟨H48.out.v.c0, H48.out.v.c1, H48.out.v.c2⟩ (fun hHeld => ?_)
              clear hK K
              (try simp only [Act.put, List.getElem_toArray, List.getElem_cons_zero, List.getElem_cons_succ, List.setIfInBounds_toArray, List.set_cons_zero, List.set_cons_succ])
              clear hbz
              generalize wp27.heap.size = gz46 at *
              generalize wp27.alloc (.cells (c3 (.slice none 0 0) (.slice none 0 0) (.slice none 0 0)) 30) = wz45 at *
              refine wpAnyH_ready (rs := [9]) (by kernel_rfl) (by simp) ?_
              refine AllReadyH.cons rfl (fun K hK => ?_) AllReadyH.nil
              go_simp
              refine (c_pick c (n + 112 - 6 * k + 2 + 2) ((nf : Int) + 1) _ H48.out.dv.1 (by omega) (by omega) (by omega)).mono ?_
              rintro e wp49 ⟨x50, hx50, rfl, hc', hg'⟩
              have H51 := Lib.hid (H48.out.cur (Nat.le_refl _) (by omega) hc' hg')
              replace Z47 := Lib.hid (show zrow _ _ from Row.chg Z47.out (chgC hg') (.inr (by have := Lgz46.out; omega)))
              clear hc' hg'
              refine hK.out _ _ ⟨H51.out.v.c0, H51.out.v.c1, H51.out.v.c2⟩ (fun hHeld => ?_)
              clear hK K
              (try simp only [Act.put, List.getElem_toArray, List.getElem_cons_zero, List.getElem_cons_succ, List.setIfInBounds_toArray, List.set_cons_zero, List.set_cons_succ])
              have hwx : IntKind.i64.wrap (x50 - 1) = x50 - 1 := IntWalk.i64_in _ (by omega)
              refine wpAnyH_take (i := 10) (v := ?va10x32) rfl (by kernel_rfl) (by kernel_rfl) (by kernel_rfl) (fun _ _ _ h => h) (Or.inl ⟨by rfl, ?hy10x32⟩) (by assumption) ?rest10x32
              case hy10x32 => (intro w hSw; (try dsimp only at hSw); go_simp; try with_reducible rfl)
              (try simp only [Act.put, List.getElem_toArray, List.getElem_cons_zero, List.getElem_cons_succ, List.setIfInBounds_toArray, List.set_cons_zero, List.set_cons_succ])
              refine wpAnyH_ready (rs := [11]) (by kernel_rfl) (by simp) ?_
              refine AllReadyH.cons rfl (fun K hK => ?_) AllReadyH.nil
              go_simp
              refine (s_SetField (.slice pa nf qa) (.slice pb nl qb) (.slice pc nr qc) h x8 x28 (x50 - 1) _ H51.out.own.reads).mono ?_
              rintro e ws52 ⟨aq55, bq55, cq55, rfl, ho', hb'⟩
              have H53 := Lib.hid (H51.out.below hb')
              have Sws52 := Lib.hid (HSF.out x8 x28 (x50 - 1))
              have O54 := Lib.hid (ho'.wide H51.out.dv.size (Nat.le_refl _))
              obtain ⟨⟨pa', qa', rfl⟩, ⟨pb', qb', rfl⟩, ⟨pc', qc', rfl⟩⟩ := ho'.shapes
              replace Z47 := Lib.hid (show zrow _ _ from Z47.out.below hb')
              clear hb' ho'
              refine hK.out _ _ ⟨H53.out.v.c0, H53.out.v.c1, H53.out.v.c2⟩ (fun hHeld => ?_)
              clear hK K
              (try simp only [Act.put, List.getElem_toArray, List.getElem_cons_zero, List.getElem_cons_succ, List.setIfInBounds_toArray, List.set_cons_zero, List.set_cons_succ])
              generalize setF h x8 x28 (x50 - 1) = hN at *
              generalize setFOk h x8 x28 (x50 - 1) = ok at *
              refine wpAnyH_take (i := 12) (v := ?va12x33) rfl (by kernel_rfl) (by kernel_rfl) (by kernel_rfl) (fun _ _ _ h => h) (Or.inl ⟨by rfl, ?hy12x33⟩) (by assumption) ?rest12x33
              case hy12x33 => (intro w hSw; (try dsimp only at hSw); go_simp; try with_reducible rfl)
              (try simp only [Act.put, List.getElem_toArray, List.getElem_cons_zero, List.getElem_cons_succ, List.setIfInBounds_toArray, List.set_cons_zero, List.set_cons_succ])
              refine wpAnyH_take (i := 13) (v := ?va13x34) rfl (by kernel_rfl) (by kernel_rfl) (by kernel_rfl) (fun _ _ _ h => h) (Or.inl ⟨by rfl, ?hy13x34⟩) (by assumption) ?rest13x34
              case hy13x34 => (intro w hSw; (try dsimp only at hSw); go_simp; try with_reducible rfl)
              (try simp only [Act.put, List.getElem_toArray, List.getElem_cons_zero, List.getElem_cons_succ, List.setIfInBounds_toArray, List.set_cons_zero, List.set_cons_succ])
              refine wpAnyH_take (i := 14) (v := ?va14x35) rfl (by kernel_rfl) (by kernel_rfl) (by kernel_rfl) (fun _ _ _ h => h) (Or.inl ⟨by rfl, ?hy14x35⟩) (by assumption) ?rest14x35
              case hy14x35 => (intro w hSw; (try dsimp only at hSw); go_simp; try with_reducible rfl)
              (try simp only [Act.put, List.getElem_toArray, List.getElem_cons_zero, List.getElem_cons_succ, List.setIfInBounds_toArray, List.set_cons_zero, List.set_cons_succ])
              refine wpAnyH_ready (rs := [16]) (by kernel_rfl) (by simp) ?_
              refine AllReadyH.cons rfl (fun K hK => ?_) AllReadyH.nil
              refine wp_store_row 30 _ _ rfl gz46 (c3 (.slice pa' hN.f.length qa') (.slice pb' hN.l.length qb') (.slice pc' hN.r.length qc')) rfl rfl 30 _ Z47.out info_heap rfl (by simp [Value.oneCell']) ?_
              have HX := Lib.hid (H53.out.side Z47.out (by have := Lgz46.out; omega) (by have := Lgz46.out; omega) (by have := Lgz46.out; omega) (c3 (.slice pa' hN.f.length qa') (.slice pb' hN.l.length qb') (.slice pc' hN.r.length qc')))
              have OX := Lib.hid ((O54.out.wholeRow Z47.out (c3 (.slice pa' hN.f.length qa') (.slice pb' hN.l.length qb') (.slice pc' hN.r.length qc'))).wide (Nat.le_refl _) (show ws52.heap.size ≤ (ws52.setRow gz46 (c3 (.slice pa' hN.f.length qa') (.slice pb' hN.l.length qb') (.slice pc' hN.r.length qc'))).heap.size by rw [size_setRow]; exact Nat.le_refl _))
              have ZX := Lib.hid (show RowH _ _ _ _ _ from Row.put Z47.out (c3 (.slice pa' hN.f.length qa') (.slice pb' hN.l.length qb') (.slice pc' hN.r.length qc')))
              refine hK.out _ _ ⟨HX.out.v.c0, HX.out.v.c1, HX.out.v.c2⟩ (fun hHeld => ?_)
              clear hK K
              (try simp only [Act.put, List.getElem_toArray, List.getElem_cons_zero, List.getElem_cons_succ])
              generalize ws52.setRow gz46 (c3 (.slice pa' hN.f.length qa') (.slice pb' hN.l.length qb') (.slice pc' hN.r.length qc')) = wx at *
              refine wpAnyH_take (i := 17) (v := ?va17x36) rfl (by kernel_rfl) (by kernel_rfl) (by kernel_rfl) (fun _ _ _ h => h) (Or.inl ⟨by rfl, ?hy17x36⟩) (by assumption) ?rest17x36
              case hy17x36 => (intro w hSw; (try dsimp only at hSw); go_simp; try with_reducible rfl)
              (try simp only [Act.put, List.getElem_toArray, List.getElem_cons_zero, List.getElem_cons_succ, List.setIfInBounds_toArray, List.set_cons_zero, List.set_cons_succ])
              refine wpAnyH_done (by kernel_rfl) ?_ _
              clear hHeld
              have HP : Hid (Hd w c (n + 112 - 6 * (k - 1)) (wx.setRow (w.heap.size + 1 + 1) (c3 (.slice pa' hN.f.length qa') (.slice pb' hN.l.length qb') (.slice pc' hN.r.length qc'))) w.heap.size (w.heap.size + 1 + 1) (.slice pa' hN.f.length qa') (.slice pb' hN.l.length qb') (.slice pc' hN.r.length qc') hN) := (HX.out.put (by omega) (by omega) OX.out).mono (by omega)
              have HQ : Hid (Hd w c (n + 112 - 6 * (k - 1)) wx w.heap.size (w.heap.size + 1 + 1) (.slice pa nf qa) (.slice pb nl qb) (.slice pc nr qc) h) := HX.out.mono (by omega)
              have SX : Hid (ok = true → ∀ X : H, X = hN → Sh X ∧ X.f.length = nf) := fun q X e => by rw [e]; exact Sws52.out q
              have hv' := HX.out.v
              have VX := Lib.hid hv'
              clear hv'
              generalize hN.f.length = nf' at *
              generalize hN.l.length = nl' at *
              generalize hN.r.length = nr' at *
              cases ok
              · go_wp2_with fail
                go_roundw
                case rel => exact ⟨k - 1, _, _, _, h, by go_num, hk15', HQ, hSh, HNE.out _ rfl⟩
                case measure => simp [intOf]; omega
              · have SX' := Lib.hid (SX.out rfl)
                clear SX
                go_wp2_with (first
                  | (refine wl_loadH rfl _ rfl gz46 _ _ _ ZX.out rfl ?_)
                  | (refine wl_storeH rfl _ _ rfl (w.heap.size + 1 + 1) (.slice pa' nf' qa') (.slice pb' nl' qb') (.slice pc' nr' qc') _ _ _ VX.out rfl rfl rfl rfl rfl ?_))
                go_roundw
                case rel => exact ⟨k - 1, _, _, _, hN, by go_num, hk15', HP, (SX'.out _ rfl).1, HNF.out _ (SX'.out _ rfl).2⟩
                case measure => simp [intOf]; omega
          · skip
            have hbz := below1 wd (.cells (c3 (.slice none 0 0) (.slice none 0 0) (.slice none 0 0)) 30)
            have H59 := Lib.hid (HD.out.below hbz)
            have Z58 := Lib.hid (show zrow _ _ from Row.new wd 30 (c3 (.slice none 0 0) (.slice none 0 0) (.slice none 0 0)))
            have Lgz57 : Hid (w.heap.size ≤ wd.heap.size ∧ wd.heap.size ≠ w.heap.size ∧ wd.heap.size ≠ (w.heap.size + 1 + 1)) := ⟨HD.out.dv.size, by have := HD.out.r.lt; omega, by have := HD.out.v.lt; omega⟩
            go_simp
            refine hK.out _ _ ⟨H59.out.v.c0, H59.out.v.c1, H59.out.v.c2⟩ (fun hHeld => ?_)
            clear hK K
            (try simp only [Act.put, List.getElem_toArray, List.getElem_cons_zero, List.getElem_cons_succ, List.setIfInBounds_toArray, List.set_cons_zero, List.set_cons_succ])
            clear hbz
            generalize wd.heap.size = gz57 at *
            generalize wd.alloc (.cells (c3 (.slice none 0 0) (.slice none 0 0) (.slice none 0 0)) 30) = wz56 at *
            refine wpAnyH_ready (rs := [3]) (by kernel_rfl) (by simp) ?_
            refine AllReadyH.cons rfl (fun K hK => ?_) AllReadyH.nil
            go_simp
            refine (c_pick c (n + 112 - 6 * k + 2) (3) _ H59.out.dv.1 (by omega) (by omega) (by omega)).mono ?_
            rintro e wp60 ⟨x61, hx61, rfl, hc', hg'⟩
            have H62 := Lib.hid (H59.out.cur (Nat.le_refl _) (by omega) hc' hg')
            replace Z58 := Lib.hid (show zrow _ _ from Row.chg Z58.out (chgC hg') (.inr (by have := Lgz57.out; omega)))
            clear hc' hg'
            refine hK.out _ _ ⟨H62.out.v.c0, H62.out.v.c1, H62.out.v.c2⟩ (fun hHeld => ?_)
            clear hK K
            (try simp only [Act.put, List.getElem_toArray, List.getElem_cons_zero, List.getElem_cons_succ, List.setIfInBounds_toArray, List.set_cons_zero, List.set_cons_succ])
            refine wpAnyH_ready (rs := [9]) (by kernel_rfl) (by simp) ?_
            refine AllReadyH.cons rfl (fun K hK => ?_) AllReadyH.nil
            go_simp
            refine (c_pick c (n + 112 - 6 * k + 2 + 2) ((nf : Int) + 1) _ H62.out.dv.1 (by omega) (by omega) (by omega)).mono ?_
            rintro e wp63 ⟨x64, hx64, rfl, hc', hg'⟩
            have H65 := Lib.hid (H62.out.cur (Nat.le_refl _) (by omega) hc' hg')
            replace Z58 := Lib.hid (show zrow _ _ from Row.chg Z58.out (chgC hg') (.inr (by have := Lgz57.out; omega)))
            clear hc' hg'
            refine hK.out _ _ ⟨H65.out.v.c0, H65.out.v.c1, H65.out.v.c2⟩ (fun hHeld => ?_)
            clear hK K
            (try simp only [Act.put, List.getElem_toArray, List.getElem_cons_zero, List.getElem_cons_succ, List.setIfInBounds_toArray, List.set_cons_zero, List.set_cons_succ])
            have hwx : IntKind.i64.wrap (x64 - 1) = x64 - 1 := IntWalk.i64_in _ (by omega)
            refine wpAnyH_take (i := 10) (v := ?va10x37) rfl (by kernel_rfl) (by kernel_rfl) (by kernel_rfl) (fun _ _ _ h => h) (Or.inl ⟨by rfl, ?hy10x37⟩) (by assumption) ?rest10x37
            case hy10x37 => (intro w hSw; (try dsimp only at hSw); go_simp; try with_reducible rfl)
            (try simp only [Act.put, List.getElem_toArray, List.getElem_cons_zero, List.getElem_cons_succ, List.setIfInBounds_toArray, List.set_cons_zero, List.set_cons_succ])
            refine wpAnyH_ready (rs := [11]) (by kernel_rfl) (by simp) ?_
            refine AllReadyH.cons rfl (fun K hK => ?_) AllReadyH.nil
            go_simp
            refine (s_SetField (.slice pa nf qa) (.slice pb nl qb) (.slice pc nr qc) h x8 x61 (x64 - 1) _ H65.out.own.reads).mono ?_
            rintro e ws66 ⟨aq69, bq69, cq69, rfl, ho', hb'⟩
            have H67 := Lib.hid (H65.out.below hb')
            have Sws66 := Lib.hid (HSF.out x8 x61 (x64 - 1))
            have O68 := Lib.hid (ho'.wide H65.out.dv.size (Nat.le_refl _))
            obtain ⟨⟨pa', qa', rfl⟩, ⟨pb', qb', rfl⟩, ⟨pc', qc', rfl⟩⟩ := ho'.shapes
            replace Z58 := Lib.hid (show zrow _ _ from Z58.out.below hb')
            clear hb' ho'
            refine hK.out _ _ ⟨H67.out.v.c0, H67.out.v.c1, H67.out.v.c2⟩ (fun hHeld => ?_)
            clear hK K
            (try simp only [Act.put, List.getElem_toArray, List.getElem_cons_zero, List.getElem_cons_succ, List.setIfInBounds_toArray, List.set_cons_zero, List.set_cons_succ])
            generalize setF h x8 x61 (x64 - 1) = hN at *
            generalize setFOk h x8 x61 (x64 - 1) = ok at *
            refine wpAnyH_take (i := 12) (v := ?va12x38) rfl (by kernel_rfl) (by kernel_rfl) (by kernel_rfl) (fun _ _ _ h => h) (Or.inl ⟨by rfl, ?hy12x38⟩) (by assumption) ?rest12x38
            case hy12x38 => (intro w hSw; (try dsimp only at hSw); go_simp; try with_reducible rfl)
            (try simp only [Act.put, List.getElem_toArray, List.getElem_cons_zero, List.getElem_cons_succ, List.setIfInBounds_toArray, List.set_cons_zero, List.set_cons_succ])
            refine wpAnyH_take (i := 13) (v := ?va13x39) rfl (by kernel_rfl) (by kernel_rfl) (by kernel_rfl) (fun _ _ _ h => h) (Or.inl ⟨by rfl, ?hy13x39⟩) (by assumption) ?rest13x39
            case hy13x39 => (intro w hSw; (try dsimp only at hSw); go_simp; try with_reducible rfl)
            (try simp only [Act.put, List.getElem_toArray, List.getElem_cons_zero, List.getElem_cons_succ, List.setIfInBounds_toArray, List.set_cons_zero, List.set_cons_succ])
            refine wpAnyH_take (i := 14) (v := ?va14x40) rfl (by kernel_rfl) (by kernel_rfl) (by kernel_rfl) (fun _ _ _ h => h) (Or.inl ⟨by rfl, ?hy14x40⟩) (by assumption) ?rest14x40
            case hy14x40 => (intro w hSw; (try dsimp only at hSw); go_simp; try with_reducible rfl)
            (try simp only [Act.put, List.getElem_toArray, List.getElem_cons_zero, List.getElem_cons_succ, List.setIfInBounds_toArray, List.set_cons_zero, List.set_cons_succ])
            refine wpAnyH_ready (rs := [16]) (by kernel_rfl) (by simp) ?_
            refine AllReadyH.cons rfl (fun K hK => ?_) AllReadyH.nil
            refine wp_store_row 30 _ _ rfl gz57 (c3 (.slice pa' hN.f.length qa') (.slice pb' hN.l.length qb') (.slice pc' hN.r.length qc')) rfl rfl 30 _ Z58.out info_heap rfl (by simp [Value.oneCell']) ?_
            have HX := Lib.hid (H67.out.side Z58.out (by have := Lgz57.out; omega) (by have := Lgz57.out; omega) (by have := Lgz57.out; omega) (c3 (.slice pa' hN.f.length qa') (.slice pb' hN.l.length qb') (.slice pc' hN.r.length qc')))
            have OX := Lib.hid ((O68.out.wholeRow Z58.out (c3 (.slice pa' hN.f.length qa') (.slice pb' hN.l.length qb') (.slice pc' hN.r.length qc'))).wide (Nat.le_refl _) (show ws66.heap.size ≤ (ws66.setRow gz57 (c3 (.slice pa' hN.f.length qa') (.slice pb' hN.l.length qb') (.slice pc' hN.r.length qc'))).heap.size by rw [size_setRow]; exact Nat.le_refl _))
            have ZX := Lib.hid (show RowH _ _ _ _ _ from Row.put Z58.out (c3 (.slice pa' hN.f.length qa') (.slice pb' hN.l.length qb') (.slice pc' hN.r.length qc')))
            refine hK.out _ _ ⟨HX.out.v.c0, HX.out.v.c1, HX.out.v.c2⟩ (fun hHeld => ?_)
            clear hK K
            (try simp only [Act.put, List.getElem_toArray, List.getElem_cons_zero, List.getElem_cons_succ])
            generalize ws66.setRow gz57 (c3 (.slice pa' hN.f.length qa') (.slice pb' hN.l.length qb') (.slice pc' hN.r.length qc')) = wx at *
            refine wpAnyH_take (i := 17) (v := ?va17x41) rfl (by kernel_rfl) (by kernel_rfl) (by kernel_rfl) (fun _ _ _ h => h) (Or.inl ⟨by rfl, ?hy17x41⟩) (by assumption) ?rest17x41
            case hy17x41 => (intro w hSw; (try dsimp only at hSw); go_simp; try with_reducible rfl)
            (try simp only [Act.put, List.getElem_toArray, List.getElem_cons_zero, List.getElem_cons_succ, List.setIfInBounds_toArray, List.set_cons_zero, List.set_cons_succ])
            refine wpAnyH_done (by kernel_rfl) ?_ _
            clear hHeld
            have HP : Hid (Hd w c (n + 112 - 6 * (k - 1)) (wx.setRow (w.heap.size + 1 + 1) (c3 (.slice pa' hN.f.length qa') (.slice pb' hN.l.length qb') (.slice pc' hN.r.length qc'))) w.heap.size (w.heap.size + 1 + 1) (.slice pa' hN.f.length qa') (.slice pb' hN.l.length qb') (.slice pc' hN.r.length qc') hN) := (HX.out.put (by omega) (by omega) OX.out).mono (by omega)
            have HQ : Hid (Hd w c (n + 112 - 6 * (k - 1)) wx w.heap.size (w.heap.size + 1 + 1) (.slice pa nf qa) (.slice pb nl qb) (.slice pc nr qc) h) := HX.out.mono (by omega)
            have SX : Hid (ok = true → ∀ X : H, X = hN → Sh X ∧ X.f.length = nf) := fun q X e => by rw [e]; exact Sws66.out q
            have hv' := HX.out.v
            have VX := Lib.hid hv'
            clear hv'
            generalize hN.f.length = nf' at *
            generalize hN.l.length = nl' at *
            generalize hN.r.length = nr' at *
            cases ok
            · go_wp2_with fail
              go_roundw
              case rel => exact ⟨k - 1, _, _, _, h, by go_num, hk15', HQ, hSh, HNE.out _ rfl⟩
              case measure => simp [intOf]; omega
            · have SX' := Lib.hid (SX.out rfl)
              clear SX
              go_wp2_with (first
                | (refine wl_loadH rfl _ rfl gz57 _ _ _ ZX.out rfl ?_)
                | (refine wl_storeH rfl _ _ rfl (w.heap.size + 1 + 1) (.slice pa' nf' qa') (.slice pb' nl' qb') (.slice pc' nr' qc') _ _ _ VX.out rfl rfl rfl rfl rfl ?_))
              go_roundw
              case rel => exact ⟨k - 1, _, _, _, hN, by go_num, hk15', HP, (SX'.out _ rfl).1, HNF.out _ (SX'.out _ rfl).2⟩
              case measure => simp [intOf]; omega
        · obtain rfl : k = 0 := by omega
          have hk0' : ¬ (0 : Int) < ((0 : Nat) : Int) := by omega
          obtain ⟨⟨pa, qa, rfl⟩, ⟨pb, qb, rfl⟩, ⟨pc, qc, rfl⟩⟩ := hHd.out.own.shapes
          have HA : Hid (Hd w c (n + 112 + 2 * 0) wr w.heap.size (w.heap.size + 1 + 1) (.slice pa h.f.length qa) (.slice pb h.l.length qb) (.slice pc h.r.length qc) h) := hHd.out.mono (by omega)
          have hrr := hSh.out.rr
          have hn12 := hSh.out.n
          have hn1 := hne.out
          have HLL := Lib.hid hSh.out.ll
          rw [hrr] at HA
          clear hHd hrr hk0
          have HSH : Hid (∀ f l, f = h.f → l = h.l → ∀ r : List Int, r.length = 2 → Sh ⟨f, l, r⟩) := fun f l e1 e2 r hr => by subst e1; subst e2; exact ⟨hSh.out.n, hSh.out.ll, hSh.out.row, hr⟩
          have d2 := HA.out.v.c2
          generalize hnf : h.f.length = nf at *
          generalize hnl : h.l.length = nl at *
          have HNF := Lib.hid hnf; have HNL := Lib.hid hnl
          clear hnf hnl
          have hwn : IntKind.i64.wrap ((nf : Int) + 1) = (nf : Int) + 1 := IntWalk.i64_in _ (by omega)
          go_wp2_with fail
          clear d2
          go_loopw [63] (fun i wr => ∃ (j : Nat) (rs : List Int), j ≤ 2 ∧ i = .int .i64 (j : Int) ∧ Hid (rs.length = 2) ∧ Hid (Hd w c (n + 112 + 2 * j) wr w.heap.size (w.heap.size + 1 + 1) (.slice pa nf qa) (.slice pb nl qb) (.slice pc 2 qc) ⟨h.f, h.l, rs⟩)) (fun i _ => 2 - (intOf i).toNat)
          case atStart => exact ⟨0, h.r, by omega, rfl, hSh.out.rr, HA⟩
          case round =>
            clear HA
            obtain ⟨j, rs, hj2, rfl, hrs, hHd⟩ := hrel
            by_cases hjl : j < 2
            · have j1 : (j : Int) < 2 := by omega
              have j0 : (0 : Int) ≤ (j : Int) := by omega
              have hj2' : j < (2 : Nat) := hjl
              go_wp2_with fail
              have HD := Lib.hid (hHd.out.below (below_drew (Below.refl wr.heap.size wr)))
              have d0 := HD.out.v.c0
              have d2 := HD.out.v.c2
              refine wp_region_held_drew (S := (fun w' => w'.cell? ⟨w.heap.size + 1 + 1, 0, none⟩ = some (.slice pa nf qa) ∧ w'.cell? ⟨w.heap.size + 1 + 1, 2, none⟩ = some (.slice pc 2 qc))) (by kernel_rfl) (⟨d0, d2⟩) (fun hHeld => ?_)
              refine wpAnyH_take (i := 0) (v := ?va0x42) rfl (by kernel_rfl) (by kernel_rfl) (by kernel_rfl) (fun _ _ _ h => h) (Or.inl ⟨by rfl, ?hy0x42⟩) (by assumption) ?rest0x42
              case hy0x42 => (intro w hSw; (try dsimp only at hSw); go_simp; try with_reducible rfl)
              (try simp only [Act.put, List.getElem_toArray, List.getElem_cons_zero, List.setIfInBounds_toArray, List.set_cons_zero, List.set_cons_succ])
              refine wpAnyH_take (i := 1) (v := ?va1x43) rfl (by kernel_rfl) (by kernel_rfl) (by kernel_rfl) (fun _ _ _ h => h) (Or.inl ⟨by rfl, ?hy1x43⟩) (by assumption) ?rest1x43
              case hy1x43 => (intro w hSw; (try dsimp only at hSw); go_simp; try with_reducible rfl)
              (try simp only [Act.put, List.getElem_toArray, List.getElem_cons_zero, List.getElem_cons_succ, List.setIfInBounds_toArray, List.set_cons_zero, List.set_cons_succ])
              refine wpAnyH_take (i := 2) (v := ?va2x44) rfl (by kernel_rfl) (by kernel_rfl) (by kernel_rfl) (fun _ _ _ h => h) (Or.inl ⟨by rfl, ?hy2x44⟩) (by assumption) ?rest2x44
              case hy2x44 => (intro w hSw; (try dsimp only at hSw); go_simp; try with_reducible rfl)
              (try simp only [Act.put, List.getElem_toArray, List.getElem_cons_zero, List.getElem_cons_succ, List.setIfInBounds_toArray, List.set_cons_zero, List.set_cons_succ])
              refine wpAnyH_take (i := 3) (v := ?va3x45) rfl (by kernel_rfl) (by kernel_rfl) (by kernel_rfl) (fun _ _ _ h => h) (Or.inl ⟨by rfl, ?hy3x45⟩) (by assumption) ?rest3x45
              case hy3x45 => (intro w hSw; (try dsimp only at hSw); go_simp; try with_reducible rfl)
              (try simp only [Act.put, List.getElem_toArray, List.getElem_cons_zero, List.getElem_cons_succ, List.setIfInBounds_toArray, List.set_cons_zero, List.set_cons_succ])
              refine wpAnyH_take (i := 4) (v := ?va4x46) rfl (by kernel_rfl) (by kernel_rfl) (by kernel_rfl) (fun _ _ _ h => h) (Or.inl ⟨by rfl, ?hy4x46⟩) (by assumption) ?rest4x46
              case hy4x46 => (intro w hSw; (try dsimp only at hSw); go_simp; try with_reducible rfl)
              (try simp only [Act.put, List.getElem_toArray, List.getElem_cons_zero, List.getElem_cons_succ, List.setIfInBounds_toArray, List.set_cons_zero, List.set_cons_succ])
              refine wpAnyH_take (i := 5) (v := ?va5x47) rfl (by kernel_rfl) (by kernel_rfl) (by kernel_rfl) (fun _ _ _ h => h) (Or.inl ⟨by rfl, ?hy5x47⟩) (by assumption) ?rest5x47
              case hy5x47 => (intro w hSw; (try dsimp only at hSw); go_simp; try with_reducible rfl)
              (try simp only [Act.put, List.getElem_toArray, List.getElem_cons_zero, List.getElem_cons_succ, List.setIfInBounds_toArray, List.set_cons_zero, List.set_cons_succ])
              refine wpAnyH_take (i := 6) (v := ?va6x48) rfl (by kernel_rfl) (by kernel_rfl) (by kernel_rfl) (fun _ _ _ h => h) (Or.inl ⟨by rfl, ?hy6x48⟩) (by assumption) ?rest6x48
              case hy6x48 => (intro w hSw; (try dsimp only at hSw); go_simp; try with_reducible rfl)
              (try simp only [Act.put, List.getElem_toArray, List.getElem_cons_zero, List.getElem_cons_succ, List.setIfInBounds_toArray, List.set_cons_zero, List.set_cons_succ])
              refine wpAnyH_take (i := 7) (v := ?va7x49) rfl (by kernel_rfl) (by kernel_rfl) (by kernel_rfl) (fun _ _ _ h => h) (Or.inl ⟨by rfl, ?hy7x49⟩) (by assumption) ?rest7x49
              case hy7x49 => (intro w hSw; (try dsimp only at hSw); go_simp; try with_reducible rfl)
              (try simp only [Act.put, List.getElem_toArray, List.getElem_cons_zero, List.getElem_cons_succ, List.setIfInBounds_toArray, List.set_cons_zero, List.set_cons_succ])
              generalize wr.drew = wd at *
              clear d0 d2
              refine wpAnyH_ready (rs := [8]) (by kernel_rfl) (by simp) ?_
              refine AllReadyH.cons rfl (fun K hK => ?_) AllReadyH.nil
              go_simp
              refine (c_pick c (n + 112 + 2 * j) ((nf : Int) + 1) _ HD.out.dv.1 (by omega) (by omega) (by omega)).mono ?_
              rintro e wp70 ⟨x71, hx71, rfl, hc', hg'⟩
              have H72 := Lib.hid (HD.out.cur (Nat.le_refl _) (by omega) hc' hg')
              clear hc' hg'
              refine hK.out _ _ ⟨H72.out.v.c0, H72.out.v.c2⟩ (fun hHeld => ?_)
              clear hK K
              (try simp only [Act.put, List.getElem_toArray, List.getElem_cons_zero, List.getElem_cons_succ, List.setIfInBounds_toArray, List.set_cons_zero, List.set_cons_succ])
              have hwx : IntKind.i64.wrap (x71 - 1) = x71 - 1 := IntWalk.i64_in _ (by omega)
              obtain ⟨gc, qc', hcv, cv, fv, ov, hlo, hrow⟩ := H72.out.own.putRoot (j := j) (by rw [hrs.out]; exact hjl) (x71 - 1)
              simp only [hrs.out] at hcv
              cases hcv
              refine wpAnyH_take (i := 9) (v := ?va9x50) rfl (by kernel_rfl) (by kernel_rfl) (by kernel_rfl) (fun _ _ _ h => h) (Or.inl ⟨by rfl, ?hy9x50⟩) (by assumption) ?rest9x50
              case hy9x50 => (intro w hSw; (try dsimp only at hSw); go_simp; try with_reducible rfl)
              (try simp only [Act.put, List.getElem_toArray, List.getElem_cons_zero, List.getElem_cons_succ, List.setIfInBounds_toArray, List.set_cons_zero, List.set_cons_succ])
              refine wpAnyH_take (i := 10) (v := ?va10x51) rfl (by kernel_rfl) (by kernel_rfl) (by kernel_rfl) (fun _ _ _ h => h) (Or.inl ⟨by rfl, ?hy10x51⟩) (by assumption) ?rest10x51
              case hy10x51 => (intro w hSw; (try dsimp only at hSw); go_simp; try with_reducible rfl)
              (try simp only [Act.put, List.getElem_toArray, List.getElem_cons_zero, List.getElem_cons_succ, List.setIfInBounds_toArray, List.set_cons_zero, List.set_cons_succ])
              have HX := Lib.hid (H72.out.cell hlo (hrow _ _ H72.out.r) (hrow _ _ H72.out.v) ov)
              clear ov hrow
              refine wpAnyH_ready (rs := [11]) (by kernel_rfl) (by simp) ?_
              refine AllReadyH.cons rfl (fun K hK => ?_) AllReadyH.nil
              go_simp
              refine hK.out _ _ ⟨HX.out.v.c0, HX.out.v.c2⟩ (fun hHeld => ?_)
              clear hK K
              (try simp only [Act.put, List.getElem_toArray, List.getElem_cons_zero, List.getElem_cons_succ])
              refine wpAnyH_done (by kernel_rfl) ?_ _
              clear hHeld cv fv
              have HY : Hid (Hd w c (n + 112 + 2 * (j + 1)) _ w.heap.size (w.heap.size + 1 + 1) (.slice pa nf qa) (.slice pb nl qb) (.slice (some ⟨gc, 0, none⟩) 2 qc) ⟨h.f, h.l, rs.set j (x71 - 1)⟩) := HX.out.mono (by omega)
              go_wp2_with fail
              go_roundw
              case rel => exact ⟨j + 1, rs.set j (x71 - 1), by omega, by go_num, by unfold Hid; rw [List.length_set]; exact hrs.out, HY⟩
              case measure => simp [intOf]; omega
            · obtain rfl : j = 2 := by omega
              have jn : ¬ ((2 : Nat) : Int) < 2 := by omega
              have HSX : Hid (Sh ⟨h.f, h.l, rs⟩) := HSH.out _ _ rfl rfl rs hrs.out
              have HN1 : Hid (1 ≤ (⟨h.f, h.l, rs⟩ : H).f.length) := by unfold Hid; simp only; rw [HNF.out]; exact hn1
              generalize (⟨h.f, h.l, rs⟩ : H) = hh at *
              have HCL := Lib.hid (fun (q : good hh = true) => HSX.out.clean q)
              clear HSH hrs
              go_wp2_with (refine wl_loadH rfl _ rfl (w.heap.size + 1 + 1) _ _ _ hHd.out.v rfl ?_)
              refine (s_CleanHeap _ _ _ hh _ hHd.out.own.reads).mono ?_
              rintro e w9 ⟨a9, b9, c9, rfl, ho9, hb9⟩
              have H9 := Lib.hid (hHd.out.below hb9)
              have O9 := Lib.hid (ho9.wide hHd.out.dv.size (Nat.le_refl _))
              obtain ⟨⟨pa', qa', rfl⟩, ⟨pb', qb', rfl⟩, ⟨pc', qc', rfl⟩⟩ := ho9.shapes
              clear ho9 hb9 hHd
              have HCS : Hid (good hh = true → ∀ X : H, X = (cleanP hh).1 → Sh X ∧ 1 ≤ X.f.length) := fun q X e => by rw [e]; exact ⟨(HCL.out q).1, by rw [(HCL.out q).2]; exact HN1.out⟩
              clear HCL
              generalize (cleanP hh).1 = hN at *
              generalize (cleanP hh).2 = kN at *
              generalize good hh = ok at *
              generalize hN.f.length = nf' at *
              generalize hN.l.length = nl' at *
              generalize hN.r.length = nr' at *
              have hbx := below1 w9 (.cells (c3 (.slice pa' nf' qa') (.slice pb' nl' qb') (.slice pc' nr' qc')) 30)
              have HX := Lib.hid (H9.out.below hbx)
              have OX := Lib.hid ((O9.out.below hbx).wide (Nat.le_refl _) hbx.size)
              have ZX := Lib.hid (show RowH _ _ _ _ _ from Row.new w9 30 (c3 (.slice pa' nf' qa') (.slice pb' nl' qb') (.slice pc' nr' qc')))
              have LX : Hid (w.heap.size ≤ w9.heap.size ∧ w9.heap.size ≠ w.heap.size ∧ w9.heap.size ≠ (w.heap.size + 1 + 1)) := ⟨H9.out.dv.size, by have := H9.out.r.lt; omega, by have := H9.out.v.lt; omega⟩
              have hf12 : Hid (hh.f.length ≤ 12) := HSX.out.n
              clear H9 O9 hbx
              cases ok
              · skip
                go_wp2_with fail
                refine (c_pick c (n + 112 + 2 * 2) 30 _ HX.out.dv.1 (by omega) (by omega) (by omega)).mono ?_
                rintro e wt73 ⟨x74, hx74, rfl, hc', hg'⟩
                have H75 := Lib.hid (HX.out.cur (Nat.le_refl _) (by omega) hc' hg')
                clear hc' hg'
                by_cases hq0 : x74 = 0
                · subst hq0
                  go_wp2_with fail
                  have HD := Lib.hid (H75.out.below (below_drew (Below.refl wt73.heap.size wt73)))
                  have d2 := HD.out.v.c2
                  refine wp_region_held_drew (S := (fun w' => w'.cell? ⟨w.heap.size + 1 + 1, 2, none⟩ = some (.slice pc 2 qc))) (by kernel_rfl) (d2) (fun hHeld => ?_)
                  refine wpAnyH_take (i := 0) (v := ?va0x52) rfl (by kernel_rfl) (by kernel_rfl) (by kernel_rfl) (fun _ _ _ h => h) (Or.inl ⟨by rfl, ?hy0x52⟩) (by assumption) ?rest0x52
                  case hy0x52 => (intro w hSw; (try dsimp only at hSw); go_simp; try with_reducible rfl)
                  (try simp only [Act.put, List.getElem_toArray, List.getElem_cons_zero, List.setIfInBounds_toArray, List.set_cons_zero, List.set_cons_succ])
                  refine wpAnyH_take (i := 1) (v := ?va1x53) rfl (by kernel_rfl) (by kernel_rfl) (by kernel_rfl) (fun _ _ _ h => h) (Or.inl ⟨by rfl, ?hy1x53⟩) (by assumption) ?rest1x53
                  case hy1x53 => (intro w hSw; (try dsimp only at hSw); go_simp; try with_reducible rfl)
                  (try simp only [Act.put, List.getElem_toArray, List.getElem_cons_zero, List.getElem_cons_succ, List.setIfInBounds_toArray, List.set_cons_zero, List.set_cons_succ])
                  refine wpAnyH_take (i := 2) (v := ?va2x54) rfl (by kernel_rfl) (by kernel_rfl) (by kernel_rfl) (fun _ _ _ h => h) (Or.inl ⟨by rfl, ?hy2x54⟩) (by assumption) ?rest2x54
                  case hy2x54 => (intro w hSw; (try dsimp only at hSw); go_simp; try with_reducible rfl)
                  (try simp only [Act.put, List.getElem_toArray, List.getElem_cons_zero, List.getElem_cons_succ, List.setIfInBounds_toArray, List.set_cons_zero, List.set_cons_succ])
                  generalize wt73.drew = wd at *
                  clear d2
                  refine wpAnyH_ready (rs := [3]) (by kernel_rfl) (by simp) ?_
                  refine AllReadyH.cons rfl (fun K hK => ?_) AllReadyH.nil
                  have HI := Lib.hid (HD.out.below (below1 wd (.cells #[.int .i64 (-2), .int .i64 11, .int .i64 12] 3)))
                  have OI := Lib.hid (own_ints3 wd (c + 1) (by have := HD.out.dv.size; omega))
                  go_simp
                  refine hK.out _ _ HI.out.v.c2 (fun hHeld => ?_)
                  clear hK K
                  (try simp only [Act.put, List.getElem_toArray, List.getElem_cons_zero, List.getElem_cons_succ, List.setIfInBounds_toArray, List.set_cons_zero, List.set_cons_succ])
                  generalize wd.heap.size = gi at *
                  generalize wd.alloc (.cells #[.int .i64 (-2), .int .i64 11, .int .i64 12] 3) = wi at *
                  refine wpAnyH_ready (rs := [4]) (by kernel_rfl) (by simp) ?_
                  refine AllReadyH.cons rfl (fun K hK => ?_) AllReadyH.nil
                  go_simp
                  refine (c_among c (n + 112 + 2 * 2 + 2) _ _ (-2) 12 _ HI.out.dv.1 (by omega) OI.out (by decide) (by decide) (by decide)).mono ?_
                  rintro e wj ⟨xj, hxj, rfl, hc', hg'⟩
                  have HJ := Lib.hid (HI.out.cur (Nat.le_refl _) (by omega) hc' hg')
                  clear hc' hg'
                  refine hK.out _ _ HJ.out.v.c2 (fun hHeld => ?_)
                  clear hK K
                  (try simp only [Act.put, List.getElem_toArray, List.getElem_cons_zero, List.getElem_cons_succ, List.setIfInBounds_toArray, List.set_cons_zero, List.set_cons_succ])
                  obtain ⟨gc, qc2, hcv, cv, fv, ov, hlo, hrow⟩ := HJ.out.own.putRoot (j := 0) (by rw [HSX.out.rr]; omega) xj
                  have hcv2 : (Value.slice pc 2 qc) = .slice (some ⟨gc, 0, none⟩) hh.r.length qc2 := hcv
                  have hl2 : 0 < hh.r.length := by rw [HSX.out.rr]; omega
                  generalize hh.r.length = rl at *
                  cases hcv2
                  clear hcv
                  have i00 : (0 : Int) < ((2 : Nat) : Int) := by omega
                  refine wpAnyH_take (i := 5) (v := ?va5x55) rfl (by kernel_rfl) (by kernel_rfl) (by kernel_rfl) (fun _ _ _ h => h) (Or.inl ⟨by rfl, ?hy5x55⟩) (by assumption) ?rest5x55
                  case hy5x55 => (intro w hSw; (try dsimp only at hSw); go_simp; try with_reducible rfl)
                  (try simp only [Act.put, List.getElem_toArray, List.getElem_cons_zero, List.getElem_cons_succ, List.setIfInBounds_toArray, List.set_cons_zero, List.set_cons_succ])
                  have HK := Lib.hid (HJ.out.cell hlo (hrow _ _ HJ.out.r) (hrow _ _ HJ.out.v) ov)
                  clear ov hrow
                  refine wpAnyH_ready (rs := [6]) (by kernel_rfl) (by simp) ?_
                  refine AllReadyH.cons rfl (fun K hK => ?_) AllReadyH.nil
                  go_simp
                  refine hK.out _ _ HK.out.v.c2 (fun hHeld => ?_)
                  clear hK K
                  (try simp only [Act.put, List.getElem_toArray, List.getElem_cons_zero, List.getElem_cons_succ])
                  refine wpAnyH_done (by kernel_rfl) ?_ _
                  clear hHeld cv fv
                  have VE := Lib.hid HK.out.v; have RE := Lib.hid HK.out.r
                  go_wp2_with (first
                    | (refine wl_loadH rfl _ rfl (w.heap.size + 1 + 1) _ _ _ VE.out rfl ?_)
                    | (refine wl_storeH rfl _ _ rfl w.heap.size (.slice pa nf qa) (.slice pb nl qb) (.slice (some ⟨gc, 0, none⟩) 2 qc) _ _ _ RE.out rfl rfl rfl rfl rfl ?_))
                  refine bodyPost_ret (res_row Try.results120 (Row.put RE.out (c3 (.slice pa nf qa) (.slice pb nl qb) (.slice (some ⟨gc, 0, none⟩) 2 qc))) rfl Try.underlying30 rfl info_heap) rfl ⟨_, _, _, _, rfl, HSX.out.roots 0 xj, HN1.out, (HK.out.own.wholeRow RE.out _).wide (Nat.le_refl _) (by rw [size_setRow]; exact Nat.le_refl _), ((HK.out.dv.low (below_setRow (Below.refl _ _) (Nat.le_refl _) _)).1).mono (by omega), (HK.out.dv.low (below_setRow (Below.refl _ _) (Nat.le_refl _) _)).2.1⟩
                · have hq0b : (x74 == 0) = false := by simpa using hq0
                  by_cases hq1 : x74 = 1
                  · subst hq1
                    go_wp2_with fail
                    have HD := Lib.hid (H75.out.below (below_drew (Below.refl wt73.heap.size wt73)))
                    have d1 := HD.out.v.c1
                    obtain ⟨gc, qc2, hcv, cv, fv, ov, hlo, hrow⟩ := HD.out.own.putLive (j := 0) (by rw [HSX.out.ll]; exact HN1.out) (!hh.l.getD 0 false)
                    have hcv2 : (Value.slice pb nl qb) = .slice (some ⟨gc, 0, none⟩) hh.l.length qc2 := hcv
                    have hl2 : 0 < hh.l.length := by rw [HSX.out.ll]; exact HN1.out
                    generalize hh.l.length = ll at *
                    cases hcv2
                    clear hcv
                    have i00 : (0 : Int) < ((nl : Nat) : Int) := by omega
                    have d1 := HD.out.v.c1
                    generalize hl0 : hh.l.getD 0 false = y0 at *
                    clear hl0
                    refine wp_region_held_drew (S := (fun w' => w'.cell? ⟨w.heap.size + 1 + 1, 1, none⟩ = some (.slice (some ⟨gc, 0, none⟩) nl qb))) (by kernel_rfl) (d1) (fun hHeld => ?_)
                    refine wpAnyH_take (i := 0) (v := ?va0x56) rfl (by kernel_rfl) (by kernel_rfl) (by kernel_rfl) (fun _ _ _ h => h) (Or.inl ⟨by rfl, ?hy0x56⟩) (by assumption) ?rest0x56
                    case hy0x56 => (intro w hSw; (try dsimp only at hSw); go_simp; try with_reducible rfl)
                    (try simp only [Act.put, List.getElem_toArray, List.getElem_cons_zero, List.setIfInBounds_toArray, List.set_cons_zero, List.set_cons_succ])
                    refine wpAnyH_take (i := 1) (v := ?va1x57) rfl (by kernel_rfl) (by kernel_rfl) (by kernel_rfl) (fun _ _ _ h => h) (Or.inl ⟨by rfl, ?hy1x57⟩) (by assumption) ?rest1x57
                    case hy1x57 => (intro w hSw; (try dsimp only at hSw); go_simp; try with_reducible rfl)
                    (try simp only [Act.put, List.getElem_toArray, List.getElem_cons_zero, List.getElem_cons_succ, List.setIfInBounds_toArray, List.set_cons_zero, List.set_cons_succ])
                    refine wpAnyH_take (i := 2) (v := ?va2x58) rfl (by kernel_rfl) (by kernel_rfl) (by kernel_rfl) (fun _ _ _ h => h) (Or.inl ⟨by rfl, ?hy2x58⟩) (by assumption) ?rest2x58
                    case hy2x58 => (intro w hSw; (try dsimp only at hSw); go_simp; try with_reducible rfl)
                    (try simp only [Act.put, List.getElem_toArray, List.getElem_cons_zero, List.getElem_cons_succ, List.setIfInBounds_toArray, List.set_cons_zero, List.set_cons_succ])
                    refine wpAnyH_take (i := 3) (v := ?va3x59) rfl (by kernel_rfl) (by kernel_rfl) (by kernel_rfl) (fun _ _ _ h => h) (Or.inl ⟨by rfl, ?hy3x59⟩) (by assumption) ?rest3x59
                    case hy3x59 => (intro w hSw; (try dsimp only at hSw); go_simp; try with_reducible rfl)
                    (try simp only [Act.put, List.getElem_toArray, List.getElem_cons_zero, List.getElem_cons_succ, List.setIfInBounds_toArray, List.set_cons_zero, List.set_cons_succ])
                    refine wpAnyH_take (i := 4) (v := ?va4x60) rfl (by kernel_rfl) (by kernel_rfl) (by kernel_rfl) (fun _ _ _ h => h) (Or.inl ⟨by rfl, ?hy4x60⟩) (by assumption) ?rest4x60
                    case hy4x60 => (intro w hSw; (try dsimp only at hSw); go_simp; try with_reducible rfl)
                    (try simp only [Act.put, List.getElem_toArray, List.getElem_cons_zero, List.getElem_cons_succ, List.setIfInBounds_toArray, List.set_cons_zero, List.set_cons_succ])
                    refine wpAnyH_ready (rs := [5]) (by kernel_rfl) (by simp) ?_
                    refine AllReadyH.cons rfl (fun K hK => ?_) AllReadyH.nil
                    go_simp
                    refine hK.out _ _ (d1) (fun hHeld => ?_)
                    clear hK K
                    (try simp only [Act.put, List.getElem_toArray, List.getElem_cons_zero, List.getElem_cons_succ, List.setIfInBounds_toArray, List.set_cons_zero, List.set_cons_succ])
                    refine wpAnyH_take (i := 6) (v := ?va6x61) rfl (by kernel_rfl) (by kernel_rfl) (by kernel_rfl) (fun _ _ _ h => h) (Or.inl ⟨by rfl, ?hy6x61⟩) (by assumption) ?rest6x61
                    case hy6x61 => (intro w hSw; (try dsimp only at hSw); go_simp; try with_reducible rfl)
                    (try simp only [Act.put, List.getElem_toArray, List.getElem_cons_zero, List.getElem_cons_succ, List.setIfInBounds_toArray, List.set_cons_zero, List.set_cons_succ])
                    refine wpAnyH_take (i := 7) (v := ?va7x62) rfl (by kernel_rfl) (by kernel_rfl) (by kernel_rfl) (fun _ _ _ h => h) (Or.inl ⟨by rfl, ?hy7x62⟩) (by assumption) ?rest7x62
                    case hy7x62 => (intro w hSw; (try dsimp only at hSw); go_simp; try with_reducible rfl)
                    (try simp only [Act.put, List.getElem_toArray, List.getElem_cons_zero, List.getElem_cons_succ, List.setIfInBounds_toArray, List.set_cons_zero, List.set_cons_succ])
                    have HK := Lib.hid (HD.out.cell hlo (hrow _ _ HD.out.r) (hrow _ _ HD.out.v) ov)
                    clear ov hrow
                    refine wpAnyH_ready (rs := [8]) (by kernel_rfl) (by simp) ?_
                    refine AllReadyH.cons rfl (fun K hK => ?_) AllReadyH.nil
                    go_simp
                    refine hK.out _ _ HK.out.v.c1 (fun hHeld => ?_)
                    clear hK K
                    (try simp only [Act.put, List.getElem_toArray, List.getElem_cons_zero, List.getElem_cons_succ])
                    refine wpAnyH_done (by kernel_rfl) ?_ _
                    clear hHeld cv fv d1
                    have VE := Lib.hid HK.out.v; have RE := Lib.hid HK.out.r
                    go_wp2_with (first
                      | (refine wl_loadH rfl _ rfl (w.heap.size + 1 + 1) _ _ _ VE.out rfl ?_)
                      | (refine wl_storeH rfl _ _ rfl w.heap.size (.slice pa nf qa) (.slice (some ⟨gc, 0, none⟩) nl qb) (.slice pc 2 qc) _ _ _ RE.out rfl rfl rfl rfl rfl ?_))
                    refine bodyPost_ret (res_row Try.results120 (Row.put RE.out (c3 (.slice pa nf qa) (.slice (some ⟨gc, 0, none⟩) nl qb) (.slice pc 2 qc))) rfl Try.underlying30 rfl info_heap) rfl ⟨_, _, _, _, rfl, HSX.out.live 0 _, HN1.out, (HK.out.own.wholeRow RE.out _).wide (Nat.le_refl _) (by rw [size_setRow]; exact Nat.le_refl _), ((HK.out.dv.low (below_setRow (Below.refl _ _) (Nat.le_refl _) _)).1).mono (by omega), (HK.out.dv.low (below_setRow (Below.refl _ _) (Nat.le_refl _) _)).2.1⟩
                  · have hq1b : (x74 == 1) = false := by simpa using hq1
                    have VE := Lib.hid H75.out.v; have RE := Lib.hid H75.out.r
                    go_wp2_with (first
                      | (refine wl_loadH rfl _ rfl (w.heap.size + 1 + 1) _ _ _ VE.out rfl ?_)
                      | (refine wl_storeH rfl _ _ rfl w.heap.size (.slice pa nf qa) (.slice pb nl qb) (.slice pc 2 qc) _ _ _ RE.out rfl rfl rfl rfl rfl ?_))
                    refine bodyPost_ret (res_row Try.results120 (Row.put RE.out (c3 (.slice pa nf qa) (.slice pb nl qb) (.slice pc 2 qc))) rfl Try.underlying30 rfl info_heap) rfl ⟨_, _, _, _, rfl, HSX.out, HN1.out, (H75.out.own.wholeRow RE.out _).wide (Nat.le_refl _) (by rw [size_setRow]; exact Nat.le_refl _), ((H75.out.dv.low (below_setRow (Below.refl _ _) (Nat.le_refl _) _)).1).mono (by omega), (H75.out.dv.low (below_setRow (Below.refl _ _) (Nat.le_refl _) _)).2.1⟩
              · have HC2 := Lib.hid (HCS.out rfl)
                go_wp2_with fail
                refine (c_one c (n + 112 + 2 * 2) 4 _ HX.out.dv.1 (by omega) (by omega) (by omega)).mono ?_
                rintro e wo ⟨bo, rfl, hco, hgo⟩
                have HO := Lib.hid (HX.out.cur (Nat.le_refl _) (by omega) hco hgo)
                have OO := Lib.hid ((OX.out.chg (chgC hgo) (.inr (by omega))).wide (Nat.le_refl _) hgo.size)
                have ZO := Lib.hid (show RowH _ _ _ _ _ from Row.chg ZX.out (chgC hgo) (.inr (by have := LX.out; omega)))
                clear hco hgo HX OX ZX
                cases bo
                · skip
                  go_wp2_with fail
                  refine (c_pick c (n + 112 + 2 * 2 + 2) 30 _ HO.out.dv.1 (by omega) (by omega) (by omega)).mono ?_
                  rintro e wt76 ⟨x77, hx77, rfl, hc', hg'⟩
                  have H78 := Lib.hid (HO.out.cur (Nat.le_refl _) (by omega) hc' hg')
                  clear hc' hg'
                  by_cases hq0 : x77 = 0
                  · subst hq0
                    go_wp2_with fail
                    have HD := Lib.hid (H78.out.below (below_drew (Below.refl wt76.heap.size wt76)))
                    have d2 := HD.out.v.c2
                    refine wp_region_held_drew (S := (fun w' => w'.cell? ⟨w.heap.size + 1 + 1, 2, none⟩ = some (.slice pc 2 qc))) (by kernel_rfl) (d2) (fun hHeld => ?_)
                    refine wpAnyH_take (i := 0) (v := ?va0x63) rfl (by kernel_rfl) (by kernel_rfl) (by kernel_rfl) (fun _ _ _ h => h) (Or.inl ⟨by rfl, ?hy0x63⟩) (by assumption) ?rest0x63
                    case hy0x63 => (intro w hSw; (try dsimp only at hSw); go_simp; try with_reducible rfl)
                    (try simp only [Act.put, List.getElem_toArray, List.getElem_cons_zero, List.setIfInBounds_toArray, List.set_cons_zero, List.set_cons_succ])
                    refine wpAnyH_take (i := 1) (v := ?va1x64) rfl (by kernel_rfl) (by kernel_rfl) (by kernel_rfl) (fun _ _ _ h => h) (Or.inl ⟨by rfl, ?hy1x64⟩) (by assumption) ?rest1x64
                    case hy1x64 => (intro w hSw; (try dsimp only at hSw); go_simp; try with_reducible rfl)
                    (try simp only [Act.put, List.getElem_toArray, List.getElem_cons_zero, List.getElem_cons_succ, List.setIfInBounds_toArray, List.set_cons_zero, List.set_cons_succ])
                    refine wpAnyH_take (i := 2) (v := ?va2x65) rfl (by kernel_rfl) (by kernel_rfl) (by kernel_rfl) (fun _ _ _ h => h) (Or.inl ⟨by rfl, ?hy2x65⟩) (by assumption) ?rest2x65
                    case hy2x65 => (intro w hSw; (try dsimp only at hSw); go_simp; try with_reducible rfl)
                    (try simp only [Act.put, List.getElem_toArray, List.getElem_cons_zero, List.getElem_cons_succ, List.setIfInBounds_toArray, List.set_cons_zero, List.set_cons_succ])
                    generalize wt76.drew = wd at *
                    clear d2
                    refine wpAnyH_ready (rs := [3]) (by kernel_rfl) (by simp) ?_
                    refine AllReadyH.cons rfl (fun K hK => ?_) AllReadyH.nil
                    have HI := Lib.hid (HD.out.below (below1 wd (.cells #[.int .i64 (-2), .int .i64 11, .int .i64 12] 3)))
                    have OI := Lib.hid (own_ints3 wd (c + 1) (by have := HD.out.dv.size; omega))
                    go_simp
                    refine hK.out _ _ HI.out.v.c2 (fun hHeld => ?_)
                    clear hK K
                    (try simp only [Act.put, List.getElem_toArray, List.getElem_cons_zero, List.getElem_cons_succ, List.setIfInBounds_toArray, List.set_cons_zero, List.set_cons_succ])
                    generalize wd.heap.size = gi at *
                    generalize wd.alloc (.cells #[.int .i64 (-2), .int .i64 11, .int .i64 12] 3) = wi at *
                    refine wpAnyH_ready (rs := [4]) (by kernel_rfl) (by simp) ?_
                    refine AllReadyH.cons rfl (fun K hK => ?_) AllReadyH.nil
                    go_simp
                    refine (c_among c (n + 112 + 2 * 2 + 2 + 2) _ _ (-2) 12 _ HI.out.dv.1 (by omega) OI.out (by decide) (by decide) (by decide)).mono ?_
                    rintro e wj ⟨xj, hxj, rfl, hc', hg'⟩
                    have HJ := Lib.hid (HI.out.cur (Nat.le_refl _) (by omega) hc' hg')
                    clear hc' hg'
                    refine hK.out _ _ HJ.out.v.c2 (fun hHeld => ?_)
                    clear hK K
                    (try simp only [Act.put, List.getElem_toArray, List.getElem_cons_zero, List.getElem_cons_succ, List.setIfInBounds_toArray, List.set_cons_zero, List.set_cons_succ])
                    obtain ⟨gc, qc2, hcv, cv, fv, ov, hlo, hrow⟩ := HJ.out.own.putRoot (j := 0) (by rw [HSX.out.rr]; omega) xj
                    have hcv2 : (Value.slice pc 2 qc) = .slice (some ⟨gc, 0, none⟩) hh.r.length qc2 := hcv
                    have hl2 : 0 < hh.r.length := by rw [HSX.out.rr]; omega
                    generalize hh.r.length = rl at *
                    cases hcv2
                    clear hcv
                    have i00 : (0 : Int) < ((2 : Nat) : Int) := by omega
                    refine wpAnyH_take (i := 5) (v := ?va5x66) rfl (by kernel_rfl) (by kernel_rfl) (by kernel_rfl) (fun _ _ _ h => h) (Or.inl ⟨by rfl, ?hy5x66⟩) (by assumption) ?rest5x66
                    case hy5x66 => (intro w hSw; (try dsimp only at hSw); go_simp; try with_reducible rfl)
                    (try simp only [Act.put, List.getElem_toArray, List.getElem_cons_zero, List.getElem_cons_succ, List.setIfInBounds_toArray, List.set_cons_zero, List.set_cons_succ])
                    have HK := Lib.hid (HJ.out.cell hlo (hrow _ _ HJ.out.r) (hrow _ _ HJ.out.v) ov)
                    clear ov hrow
                    refine wpAnyH_ready (rs := [6]) (by kernel_rfl) (by simp) ?_
                    refine AllReadyH.cons rfl (fun K hK => ?_) AllReadyH.nil
                    go_simp
                    refine hK.out _ _ HK.out.v.c2 (fun hHeld => ?_)
                    clear hK K
                    (try simp only [Act.put, List.getElem_toArray, List.getElem_cons_zero, List.getElem_cons_succ])
                    refine wpAnyH_done (by kernel_rfl) ?_ _
                    clear hHeld cv fv
                    have VE := Lib.hid HK.out.v; have RE := Lib.hid HK.out.r
                    go_wp2_with (first
                      | (refine wl_loadH rfl _ rfl (w.heap.size + 1 + 1) _ _ _ VE.out rfl ?_)
                      | (refine wl_storeH rfl _ _ rfl w.heap.size (.slice pa nf qa) (.slice pb nl qb) (.slice (some ⟨gc, 0, none⟩) 2 qc) _ _ _ RE.out rfl rfl rfl rfl rfl ?_))
                    refine bodyPost_ret (res_row Try.results120 (Row.put RE.out (c3 (.slice pa nf qa) (.slice pb nl qb) (.slice (some ⟨gc, 0, none⟩) 2 qc))) rfl Try.underlying30 rfl info_heap) rfl ⟨_, _, _, _, rfl, HSX.out.roots 0 xj, HN1.out, (HK.out.own.wholeRow RE.out _).wide (Nat.le_refl _) (by rw [size_setRow]; exact Nat.le_refl _), ((HK.out.dv.low (below_setRow (Below.refl _ _) (Nat.le_refl _) _)).1).mono (by omega), (HK.out.dv.low (below_setRow (Below.refl _ _) (Nat.le_refl _) _)).2.1⟩
                  · have hq0b : (x77 == 0) = false := by simpa using hq0
                    by_cases hq1 : x77 = 1
                    · subst hq1
                      go_wp2_with fail
                      have HD := Lib.hid (H78.out.below (below_drew (Below.refl wt76.heap.size wt76)))
                      have d1 := HD.out.v.c1
                      obtain ⟨gc, qc2, hcv, cv, fv, ov, hlo, hrow⟩ := HD.out.own.putLive (j := 0) (by rw [HSX.out.ll]; exact HN1.out) (!hh.l.getD 0 false)
                      have hcv2 : (Value.slice pb nl qb) = .slice (some ⟨gc, 0, none⟩) hh.l.length qc2 := hcv
                      have hl2 : 0 < hh.l.length := by rw [HSX.out.ll]; exact HN1.out
                      generalize hh.l.length = ll at *
                      cases hcv2
                      clear hcv
                      have i00 : (0 : Int) < ((nl : Nat) : Int) := by omega
                      have d1 := HD.out.v.c1
                      generalize hl0 : hh.l.getD 0 false = y0 at *
                      clear hl0
                      refine wp_region_held_drew (S := (fun w' => w'.cell? ⟨w.heap.size + 1 + 1, 1, none⟩ = some (.slice (some ⟨gc, 0, none⟩) nl qb))) (by kernel_rfl) (d1) (fun hHeld => ?_)
                      refine wpAnyH_take (i := 0) (v := ?va0x67) rfl (by kernel_rfl) (by kernel_rfl) (by kernel_rfl) (fun _ _ _ h => h) (Or.inl ⟨by rfl, ?hy0x67⟩) (by assumption) ?rest0x67
                      case hy0x67 => (intro w hSw; (try dsimp only at hSw); go_simp; try with_reducible rfl)
                      (try simp only [Act.put, List.getElem_toArray, List.getElem_cons_zero, List.setIfInBounds_toArray, List.set_cons_zero, List.set_cons_succ])
                      refine wpAnyH_take (i := 1) (v := ?va1x68) rfl (by kernel_rfl) (by kernel_rfl) (by kernel_rfl) (fun _ _ _ h => h) (Or.inl ⟨by rfl, ?hy1x68⟩) (by assumption) ?rest1x68
                      case hy1x68 => (intro w hSw; (try dsimp only at hSw); go_simp; try with_reducible rfl)
                      (try simp only [Act.put, List.getElem_toArray, List.getElem_cons_zero, List.getElem_cons_succ, List.setIfInBounds_toArray, List.set_cons_zero, List.set_cons_succ])
                      refine wpAnyH_take (i := 2) (v := ?va2x69) rfl (by kernel_rfl) (by kernel_rfl) (by kernel_rfl) (fun _ _ _ h => h) (Or.inl ⟨by rfl, ?hy2x69⟩) (by assumption) ?rest2x69
                      case hy2x69 => (intro w hSw; (try dsimp only at hSw); go_simp; try with_reducible rfl)
                      (try simp only [Act.put, List.getElem_toArray, List.getElem_cons_zero, List.getElem_cons_succ, List.setIfInBounds_toArray, List.set_cons_zero, List.set_cons_succ])
                      refine wpAnyH_take (i := 3) (v := ?va3x70) rfl (by kernel_rfl) (by kernel_rfl) (by kernel_rfl) (fun _ _ _ h => h) (Or.inl ⟨by rfl, ?hy3x70⟩) (by assumption) ?rest3x70
                      case hy3x70 => (intro w hSw; (try dsimp only at hSw); go_simp; try with_reducible rfl)
                      (try simp only [Act.put, List.getElem_toArray, List.getElem_cons_zero, List.getElem_cons_succ, List.setIfInBounds_toArray, List.set_cons_zero, List.set_cons_succ])
                      refine wpAnyH_take (i := 4) (v := ?va4x71) rfl (by kernel_rfl) (by kernel_rfl) (by kernel_rfl) (fun _ _ _ h => h) (Or.inl ⟨by rfl, ?hy4x71⟩) (by assumption) ?rest4x71
                      case hy4x71 => (intro w hSw; (try dsimp only at hSw); go_simp; try with_reducible rfl)
                      (try simp only [Act.put, List.getElem_toArray, List.getElem_cons_zero, List.getElem_cons_succ, List.setIfInBounds_toArray, List.set_cons_zero, List.set_cons_succ])
                      refine wpAnyH_ready (rs := [5]) (by kernel_rfl) (by simp) ?_
                      refine AllReadyH.cons rfl (fun K hK => ?_) AllReadyH.nil
                      go_simp
                      refine hK.out _ _ (d1) (fun hHeld => ?_)
                      clear hK K
                      (try simp only [Act.put, List.getElem_toArray, List.getElem_cons_zero, List.getElem_cons_succ, List.setIfInBounds_toArray, List.set_cons_zero, List.set_cons_succ])
                      refine wpAnyH_take (i := 6) (v := ?va6x72) rfl (by kernel_rfl) (by kernel_rfl) (by kernel_rfl) (fun _ _ _ h => h) (Or.inl ⟨by rfl, ?hy6x72⟩) (by assumption) ?rest6x72
                      case hy6x72 => (intro w hSw; (try dsimp only at hSw); go_simp; try with_reducible rfl)
                      (try simp only [Act.put, List.getElem_toArray, List.getElem_cons_zero, List.getElem_cons_succ, List.setIfInBounds_toArray, List.set_cons_zero, List.set_cons_succ])
                      refine wpAnyH_take (i := 7) (v := ?va7x73) rfl (by kernel_rfl) (by kernel_rfl) (by kernel_rfl) (fun _ _ _ h => h) (Or.inl ⟨by rfl, ?hy7x73⟩) (by assumption) ?rest7x73
                      case hy7x73 => (intro w hSw; (try dsimp only at hSw); go_simp; try with_reducible rfl)
                      (try simp only [Act.put, List.getElem_toArray, List.getElem_cons_zero, List.getElem_cons_succ, List.setIfInBounds_toArray, List.set_cons_zero, List.set_cons_succ])
                      have HK := Lib.hid (HD.out.cell hlo (hrow _ _ HD.out.r) (hrow _ _ HD.out.v) ov)
                      clear ov hrow
                      refine wpAnyH_ready (rs := [8]) (by kernel_rfl) (by simp) ?_
                      refine AllReadyH.cons rfl (fun K hK => ?_) AllReadyH.nil
                      go_simp
                      refine hK.out _ _ HK.out.v.c1 (fun hHeld => ?_)
                      clear hK K
                      (try simp only [Act.put, List.getElem_toArray, List.getElem_cons_zero, List.getElem_cons_succ])
                      refine wpAnyH_done (by kernel_rfl) ?_ _
                      clear hHeld cv fv d1
                      have VE := Lib.hid HK.out.v; have RE := Lib.hid HK.out.r
                      go_wp2_with (first
                        | (refine wl_loadH rfl _ rfl (w.heap.size + 1 + 1) _ _ _ VE.out rfl ?_)
                        | (refine wl_storeH rfl _ _ rfl w.heap.size (.slice pa nf qa) (.slice (some ⟨gc, 0, none⟩) nl qb) (.slice pc 2 qc) _ _ _ RE.out rfl rfl rfl rfl rfl ?_))
                      refine bodyPost_ret (res_row Try.results120 (Row.put RE.out (c3 (.slice pa nf qa) (.slice (some ⟨gc, 0, none⟩) nl qb) (.slice pc 2 qc))) rfl Try.underlying30 rfl info_heap) rfl ⟨_, _, _, _, rfl, HSX.out.live 0 _, HN1.out, (HK.out.own.wholeRow RE.out _).wide (Nat.le_refl _) (by rw [size_setRow]; exact Nat.le_refl _), ((HK.out.dv.low (below_setRow (Below.refl _ _) (Nat.le_refl _) _)).1).mono (by omega), (HK.out.dv.low (below_setRow (Below.refl _ _) (Nat.le_refl _) _)).2.1⟩
                    · have hq1b : (x77 == 1) = false := by simpa using hq1
                      have VE := Lib.hid H78.out.v; have RE := Lib.hid H78.out.r
                      go_wp2_with (first
                        | (refine wl_loadH rfl _ rfl (w.heap.size + 1 + 1) _ _ _ VE.out rfl ?_)
                        | (refine wl_storeH rfl _ _ rfl w.heap.size (.slice pa nf qa) (.slice pb nl qb) (.slice pc 2 qc) _ _ _ RE.out rfl rfl rfl rfl rfl ?_))
                      refine bodyPost_ret (res_row Try.results120 (Row.put RE.out (c3 (.slice pa nf qa) (.slice pb nl qb) (.slice pc 2 qc))) rfl Try.underlying30 rfl info_heap) rfl ⟨_, _, _, _, rfl, HSX.out, HN1.out, (H78.out.own.wholeRow RE.out _).wide (Nat.le_refl _) (by rw [size_setRow]; exact Nat.le_refl _), ((H78.out.dv.low (below_setRow (Below.refl _ _) (Nat.le_refl _) _)).1).mono (by omega), (H78.out.dv.low (below_setRow (Below.refl _ _) (Nat.le_refl _) _)).2.1⟩
                · have VO := Lib.hid HO.out.v
                  have HP := Lib.hid (HO.out.put (by omega) (by omega) OO.out)
                  have HS2 : Hid (Sh hN) := (HC2.out _ rfl).1
                  have HN2 : Hid (1 ≤ hN.f.length) := (HC2.out _ rfl).2
                  go_wp2_with (first
                    | (refine wl_loadH rfl _ rfl w9.heap.size _ _ _ ZO.out rfl ?_)
                    | (refine wl_storeH rfl _ _ rfl (w.heap.size + 1 + 1) (.slice pa' nf' qa') (.slice pb' nl' qb') (.slice pc' nr' qc') _ _ _ VO.out rfl rfl rfl rfl rfl ?_)
                    | (go_at_call 122; fail))
                  generalize wo.setRow (w.heap.size + 1 + 1) (c3 (.slice pa' nf' qa') (.slice pb' nl' qb') (.slice pc' nr' qc')) = wq at *
                  go_wp2_with fail
                  refine (c_pick c (n + 112 + 2 * 2 + 2) 30 _ HP.out.dv.1 (by omega) (by omega) (by omega)).mono ?_
                  rintro e wt79 ⟨x80, hx80, rfl, hc', hg'⟩
                  have H81 := Lib.hid (HP.out.cur (Nat.le_refl _) (by omega) hc' hg')
                  clear hc' hg'
                  by_cases hq0 : x80 = 0
                  · subst hq0
                    go_wp2_with fail
                    have HD := Lib.hid (H81.out.below (below_drew (Below.refl wt79.heap.size wt79)))
                    have d2 := HD.out.v.c2
                    refine wp_region_held_drew (S := (fun w' => w'.cell? ⟨w.heap.size + 1 + 1, 2, none⟩ = some (.slice pc' nr' qc'))) (by kernel_rfl) (d2) (fun hHeld => ?_)
                    refine wpAnyH_take (i := 0) (v := ?va0x74) rfl (by kernel_rfl) (by kernel_rfl) (by kernel_rfl) (fun _ _ _ h => h) (Or.inl ⟨by rfl, ?hy0x74⟩) (by assumption) ?rest0x74
                    case hy0x74 => (intro w hSw; (try dsimp only at hSw); go_simp; try with_reducible rfl)
                    (try simp only [Act.put, List.getElem_toArray, List.getElem_cons_zero, List.setIfInBounds_toArray, List.set_cons_zero, List.set_cons_succ])
                    refine wpAnyH_take (i := 1) (v := ?va1x75) rfl (by kernel_rfl) (by kernel_rfl) (by kernel_rfl) (fun _ _ _ h => h) (Or.inl ⟨by rfl, ?hy1x75⟩) (by assumption) ?rest1x75
                    case hy1x75 => (intro w hSw; (try dsimp only at hSw); go_simp; try with_reducible rfl)
                    (try simp only [Act.put, List.getElem_toArray, List.getElem_cons_zero, List.getElem_cons_succ, List.setIfInBounds_toArray, List.set_cons_zero, List.set_cons_succ])
                    refine wpAnyH_take (i := 2) (v := ?va2x76) rfl (by kernel_rfl) (by kernel_rfl) (by kernel_rfl) (fun _ _ _ h => h) (Or.inl ⟨by rfl, ?hy2x76⟩) (by assumption) ?rest2x76
                    case hy2x76 => (intro w hSw; (try dsimp only at hSw); go_simp; try with_reducible rfl)
                    (try simp only [Act.put, List.getElem_toArray, List.getElem_cons_zero, List.getElem_cons_succ, List.setIfInBounds_toArray, List.set_cons_zero, List.set_cons_succ])
                    generalize wt79.drew = wd at *
                    clear d2
                    refine wpAnyH_ready (rs := [3]) (by kernel_rfl) (by simp) ?_
                    refine AllReadyH.cons rfl (fun K hK => ?_) AllReadyH.nil
                    have HI := Lib.hid (HD.out.below (below1 wd (.cells #[.int .i64 (-2), .int .i64 11, .int .i64 12] 3)))
                    have OI := Lib.hid (own_ints3 wd (c + 1) (by have := HD.out.dv.size; omega))
                    go_simp
                    refine hK.out _ _ HI.out.v.c2 (fun hHeld => ?_)
                    clear hK K
                    (try simp only [Act.put, List.getElem_toArray, List.getElem_cons_zero, List.getElem_cons_succ, List.setIfInBounds_toArray, List.set_cons_zero, List.set_cons_succ])
                    generalize wd.heap.size = gi at *
                    generalize wd.alloc (.cells #[.int .i64 (-2), .int .i64 11, .int .i64 12] 3) = wi at *
                    refine wpAnyH_ready (rs := [4]) (by kernel_rfl) (by simp) ?_
                    refine AllReadyH.cons rfl (fun K hK => ?_) AllReadyH.nil
                    go_simp
                    refine (c_among c (n + 112 + 2 * 2 + 2 + 2) _ _ (-2) 12 _ HI.out.dv.1 (by omega) OI.out (by decide) (by decide) (by decide)).mono ?_
                    rintro e wj ⟨xj, hxj, rfl, hc', hg'⟩
                    have HJ := Lib.hid (HI.out.cur (Nat.le_refl _) (by omega) hc' hg')
                    clear hc' hg'
                    refine hK.out _ _ HJ.out.v.c2 (fun hHeld => ?_)
                    clear hK K
                    (try simp only [Act.put, List.getElem_toArray, List.getElem_cons_zero, List.getElem_cons_succ, List.setIfInBounds_toArray, List.set_cons_zero, List.set_cons_succ])
                    obtain ⟨gc, qc2, hcv, cv, fv, ov, hlo, hrow⟩ := HJ.out.own.putRoot (j := 0) (by rw [HS2.out.rr]; omega) xj
                    have hcv2 : (Value.slice pc' nr' qc') = .slice (some ⟨gc, 0, none⟩) hN.r.length qc2 := hcv
                    have hl2 : 0 < hN.r.length := by rw [HS2.out.rr]; omega
                    generalize hN.r.length = rl at *
                    cases hcv2
                    clear hcv
                    have i00 : (0 : Int) < ((nr' : Nat) : Int) := by omega
                    refine wpAnyH_take (i := 5) (v := ?va5x77) rfl (by kernel_rfl) (by kernel_rfl) (by kernel_rfl) (fun _ _ _ h => h) (Or.inl ⟨by rfl, ?hy5x77⟩) (by assumption) ?rest5x77
                    case hy5x77 => (intro w hSw; (try dsimp only at hSw); go_simp; try with_reducible rfl)
                    (try simp only [Act.put, List.getElem_toArray, List.getElem_cons_zero, List.getElem_cons_succ, List.setIfInBounds_toArray, List.set_cons_zero, List.set_cons_succ])
                    have HK := Lib.hid (HJ.out.cell hlo (hrow _ _ HJ.out.r) (hrow _ _ HJ.out.v) ov)
                    clear ov hrow
                    refine wpAnyH_ready (rs := [6]) (by kernel_rfl) (by simp) ?_
                    refine AllReadyH.cons rfl (fun K hK => ?_) AllReadyH.nil
                    go_simp
                    refine hK.out _ _ HK.out.v.c2 (fun hHeld => ?_)
                    clear hK K
                    (try simp only [Act.put, List.getElem_toArray, List.getElem_cons_zero, List.getElem_cons_succ])
                    refine wpAnyH_done (by kernel_rfl) ?_ _
                    clear hHeld cv fv
                    have VE := Lib.hid HK.out.v; have RE := Lib.hid HK.out.r
                    go_wp2_with (first
                      | (refine wl_loadH rfl _ rfl (w.heap.size + 1 + 1) _ _ _ VE.out rfl ?_)
                      | (refine wl_storeH rfl _ _ rfl w.heap.size (.slice pa' nf' qa') (.slice pb' nl' qb') (.slice (some ⟨gc, 0, none⟩) nr' qc') _ _ _ RE.out rfl rfl rfl rfl rfl ?_))
                    refine bodyPost_ret (res_row Try.results120 (Row.put RE.out (c3 (.slice pa' nf' qa') (.slice pb' nl' qb') (.slice (some ⟨gc, 0, none⟩) nr' qc'))) rfl Try.underlying30 rfl info_heap) rfl ⟨_, _, _, _, rfl, HS2.out.roots 0 xj, HN2.out, (HK.out.own.wholeRow RE.out _).wide (Nat.le_refl _) (by rw [size_setRow]; exact Nat.le_refl _), ((HK.out.dv.low (below_setRow (Below.refl _ _) (Nat.le_refl _) _)).1).mono (by omega), (HK.out.dv.low (below_setRow (Below.refl _ _) (Nat.le_refl _) _)).2.1⟩
                  · have hq0b : (x80 == 0) = false := by simpa using hq0
                    by_cases hq1 : x80 = 1
                    · subst hq1
                      go_wp2_with fail
                      have HD := Lib.hid (H81.out.below (below_drew (Below.refl wt79.heap.size wt79)))
                      have d1 := HD.out.v.c1
                      obtain ⟨gc, qc2, hcv, cv, fv, ov, hlo, hrow⟩ := HD.out.own.putLive (j := 0) (by rw [HS2.out.ll]; exact HN2.out) (!hN.l.getD 0 false)
                      have hcv2 : (Value.slice pb' nl' qb') = .slice (some ⟨gc, 0, none⟩) hN.l.length qc2 := hcv
                      have hl2 : 0 < hN.l.length := by rw [HS2.out.ll]; exact HN2.out
                      generalize hN.l.length = ll at *
                      cases hcv2
                      clear hcv
                      have i00 : (0 : Int) < ((nl' : Nat) : Int) := by omega
                      have d1 := HD.out.v.c1
                      generalize hl0 : hN.l.getD 0 false = y0 at *
                      clear hl0
                      refine wp_region_held_drew (S := (fun w' => w'.cell? ⟨w.heap.size + 1 + 1, 1, none⟩ = some (.slice (some ⟨gc, 0, none⟩) nl' qb'))) (by kernel_rfl) (d1) (fun hHeld => ?_)
                      refine wpAnyH_take (i := 0) (v := ?va0x78) rfl (by kernel_rfl) (by kernel_rfl) (by kernel_rfl) (fun _ _ _ h => h) (Or.inl ⟨by rfl, ?hy0x78⟩) (by assumption) ?rest0x78
                      case hy0x78 => (intro w hSw; (try dsimp only at hSw); go_simp; try with_reducible rfl)
                      (try simp only [Act.put, List.getElem_toArray, List.getElem_cons_zero, List.setIfInBounds_toArray, List.set_cons_zero, List.set_cons_succ])
                      refine wpAnyH_take (i := 1) (v := ?va1x79) rfl (by kernel_rfl) (by kernel_rfl) (by kernel_rfl) (fun _ _ _ h => h) (Or.inl ⟨by rfl, ?hy1x79⟩) (by assumption) ?rest1x79
                      case hy1x79 => (intro w hSw; (try dsimp only at hSw); go_simp; try with_reducible rfl)
                      (try simp only [Act.put, List.getElem_toArray, List.getElem_cons_zero, List.getElem_cons_succ, List.setIfInBounds_toArray, List.set_cons_zero, List.set_cons_succ])
                      refine wpAnyH_take (i := 2) (v := ?va2x80) rfl (by kernel_rfl) (by kernel_rfl) (by kernel_rfl) (fun _ _ _ h => h) (Or.inl ⟨by rfl, ?hy2x80⟩) (by assumption) ?rest2x80
                      case hy2x80 => (intro w hSw; (try dsimp only at hSw); go_simp; try with_reducible rfl)
                      (try simp only [Act.put, List.getElem_toArray, List.getElem_cons_zero, List.getElem_cons_succ, List.setIfInBounds_toArray, List.set_cons_zero, List.set_cons_succ])
                      refine wpAnyH_take (i := 3) (v := ?va3x81) rfl (by kernel_rfl) (by kernel_rfl) (by kernel_rfl) (fun _ _ _ h => h) (Or.inl ⟨by rfl, ?hy3x81⟩) (by assumption) ?rest3x81
                      case hy3x81 => (intro w hSw; (try dsimp only at hSw); go_simp; try with_reducible rfl)
                      (try simp only [Act.put, List.getElem_toArray, List.getElem_cons_zero, List.getElem_cons_succ, List.setIfInBounds_toArray, List.set_cons_zero, List.set_cons_succ])
                      refine wpAnyH_take (i := 4) (v := ?va4x82) rfl (by kernel_rfl) (by kernel_rfl) (by kernel_rfl) (fun _ _ _ h => h) (Or.inl ⟨by rfl, ?hy4x82⟩) (by assumption) ?rest4x82
                      case hy4x82 => (intro w hSw; (try dsimp only at hSw); go_simp; try with_reducible rfl)
                      (try simp only [Act.put, List.getElem_toArray, List.getElem_cons_zero, List.getElem_cons_succ, List.setIfInBounds_toArray, List.set_cons_zero, List.set_cons_succ])
                      refine wpAnyH_ready (rs := [5]) (by kernel_rfl) (by simp) ?_
                      refine AllReadyH.cons rfl (fun K hK => ?_) AllReadyH.nil
                      go_simp
                      refine hK.out _ _ (d1) (fun hHeld => ?_)
                      clear hK K
                      (try simp only [Act.put, List.getElem_toArray, List.getElem_cons_zero, List.getElem_cons_succ, List.setIfInBounds_toArray, List.set_cons_zero, List.set_cons_succ])
                      refine wpAnyH_take (i := 6) (v := ?va6x83) rfl (by kernel_rfl) (by kernel_rfl) (by kernel_rfl) (fun _ _ _ h => h) (Or.inl ⟨by rfl, ?hy6x83⟩) (by assumption) ?rest6x83
                      case hy6x83 => (intro w hSw; (try dsimp only at hSw); go_simp; try with_reducible rfl)
                      (try simp only [Act.put, List.getElem_toArray, List.getElem_cons_zero, List.getElem_cons_succ, List.setIfInBounds_toArray, List.set_cons_zero, List.set_cons_succ])
                      refine wpAnyH_take (i := 7) (v := ?va7x84) rfl (by kernel_rfl) (by kernel_rfl) (by kernel_rfl) (fun _ _ _ h => h) (Or.inl ⟨by rfl, ?hy7x84⟩) (by assumption) ?rest7x84
                      case hy7x84 => (intro w hSw; (try dsimp only at hSw); go_simp; try with_reducible rfl)
                      (try simp only [Act.put, List.getElem_toArray, List.getElem_cons_zero, List.getElem_cons_succ, List.setIfInBounds_toArray, List.set_cons_zero, List.set_cons_succ])
                      have HK := Lib.hid (HD.out.cell hlo (hrow _ _ HD.out.r) (hrow _ _ HD.out.v) ov)
                      clear ov hrow
                      refine wpAnyH_ready (rs := [8]) (by kernel_rfl) (by simp) ?_
                      refine AllReadyH.cons rfl (fun K hK => ?_) AllReadyH.nil
                      go_simp
                      refine hK.out _ _ HK.out.v.c1 (fun hHeld => ?_)
                      clear hK K
                      (try simp only [Act.put, List.getElem_toArray, List.getElem_cons_zero, List.getElem_cons_succ])
                      refine wpAnyH_done (by kernel_rfl) ?_ _
                      clear hHeld cv fv d1
                      have VE := Lib.hid HK.out.v; have RE := Lib.hid HK.out.r
                      go_wp2_with (first
                        | (refine wl_loadH rfl _ rfl (w.heap.size + 1 + 1) _ _ _ VE.out rfl ?_)
                        | (refine wl_storeH rfl _ _ rfl w.heap.size (.slice pa' nf' qa') (.slice (some ⟨gc, 0, none⟩) nl' qb') (.slice pc' nr' qc') _ _ _ RE.out rfl rfl rfl rfl rfl ?_))
                      refine bodyPost_ret (res_row Try.results120 (Row.put RE.out (c3 (.slice pa' nf' qa') (.slice (some ⟨gc, 0, none⟩) nl' qb') (.slice pc' nr' qc'))) rfl Try.underlying30 rfl info_heap) rfl ⟨_, _, _, _, rfl, HS2.out.live 0 _, HN2.out, (HK.out.own.wholeRow RE.out _).wide (Nat.le_refl _) (by rw [size_setRow]; exact Nat.le_refl _), ((HK.out.dv.low (below_setRow (Below.refl _ _) (Nat.le_refl _) _)).1).mono (by omega), (HK.out.dv.low (below_setRow (Below.refl _ _) (Nat.le_refl _) _)).2.1⟩
                    · have hq1b : (x80 == 1) = false := by simpa using hq1
                      have VE := Lib.hid H81.out.v; have RE := Lib.hid H81.out.r
                      go_wp2_with (first
                        | (refine wl_loadH rfl _ rfl (w.heap.size + 1 + 1) _ _ _ VE.out rfl ?_)
                        | (refine wl_storeH rfl _ _ rfl w.heap.size (.slice pa' nf' qa') (.slice pb' nl' qb') (.slice pc' nr' qc') _ _ _ RE.out rfl rfl rfl rfl rfl ?_))
                      refine bodyPost_ret (res_row Try.results120 (Row.put RE.out (c3 (.slice pa' nf' qa') (.slice pb' nl' qb') (.slice pc' nr' qc'))) rfl Try.underlying30 rfl info_heap) rfl ⟨_, _, _, _, rfl, HS2.out, HN2.out, (H81.out.own.wholeRow RE.out _).wide (Nat.le_refl _) (by rw [size_setRow]; exact Nat.le_refl _), ((H81.out.dv.low (below_setRow (Below.refl _ _) (Nat.le_refl _) _)).1).mono (by omega), (H81.out.dv.low (below_setRow (Below.refl _ _) (Nat.le_refl _) _)).2.1⟩
end Go.Proofs.Ytkkigoamphkalaa
namespace Go.Proofs.Ytkkigoamphkalaa
open Go.RowKit Ph

set_option maxHeartbeats 1600000 in
theorem s_l6Both (a b c v : Value) (h : H) (cs : List Int) (w : World) (hA : HeapAt w a b c h) (hz : IntsAt w v cs) : Calls Try.prog 99 #[hv a b c, v] w fun e w' => e = .returned (.bool (bothB h cs)) ∧ Below w.heap.size w w' := by
  have hb0 := below1 w (.cells (c3 a b c) 30)
  have A0 := Lib.hid (hA.below hb0)
  have Z0 := Lib.hid (hz.below hb0)
  have HB := Lib.hid hb0
  have R0 := Lib.hid (show RowH _ _ a b c from Row.new w 30 (c3 a b c))
  obtain ⟨fa, fc, rfl⟩ := hA.f.shape
  obtain ⟨va, vc, rfl⟩ := hz.shape
  clear hA hb0 hz
  have HC := Lib.hid (s_GoodHeap _ _ _ h _ A0.out)
  have HCA : Hid (∀ w', IntsAt w' (.slice va cs.length vc) cs → Calls Try.prog 144 #[.slice va cs.length vc] w' fun e w'' => e = .returned (.bool (colsB cs)) ∧ w' = w'') := fun w' hh => s_l6Colours _ cs w' hh
  have hE := bothB_eq h cs
  generalize good h = x at *
  generalize colsB cs = y at *
  generalize bothB h cs = r at *
  generalize h.f.length = n at *
  generalize cs.length = m at *
  have c0 := R0.out.c0
  have c1 := R0.out.c1
  have c2 := R0.out.c2
  cases x
  · have HE : Hid (r = false) := by unfold Hid; rw [hE]; rfl
    clear hE
    go_enter Try.func99, Try.ntmps99
    go_wp2_with (go_at_call 80; refine HC.out.mono ?_; rintro e w1 ⟨rfl, hb1⟩; have B1 := Lib.hid (bst HB.out hb1 HB.out.size); clear hb1)
    go_ret
    exact ⟨r_b HE.out.symm, B1.out⟩
  cases y
  · have HE : Hid (r = false) := by unfold Hid; rw [hE]; rfl
    clear hE
    go_enter Try.func99, Try.ntmps99
    go_wp2_with (first
      | (go_at_call 80; refine HC.out.mono ?_; rintro e w1 ⟨rfl, hb1⟩; have B1 := Lib.hid (bst HB.out hb1 HB.out.size); have Z1 := Lib.hid (Z0.out.below hb1); clear hb1)
      | (go_at_call 144; refine (HCA.out _ Z1.out).mono ?_; rintro e w2 ⟨rfl, rfl⟩))
    go_ret
    exact ⟨r_b HE.out.symm, B1.out⟩
  · have hE2 : r = decide (m = n) := by rw [hE]; simp
    clear hE
    have hq : ((m : Int) == (n : Int)) = decide (m = n) := by
      by_cases e : m = n
      · subst e; simp
      · rw [decide_eq_false e]; simp; omega
    have HE := Lib.hid hE2
    clear hE2
    generalize decide (m = n) = z at *
    go_enter Try.func99, Try.ntmps99
    go_wp2_with (first
      | (go_at_call 80; refine HC.out.mono ?_; rintro e w1 ⟨rfl, hb1⟩; have B1 := Lib.hid (bst HB.out hb1 HB.out.size); have Z1 := Lib.hid (Z0.out.below hb1); have R1 := R0.out.below hb1; have d0 := R1.c0; clear hb1 R1)
      | (go_at_call 144; refine (HCA.out _ Z1.out).mono ?_; rintro e w2 ⟨rfl, rfl⟩))
    go_ret
    exact ⟨r_b HE.out.symm, B1.out⟩
set_option maxHeartbeats 1600000 in
theorem s_l6Scan (W : World) (a b c v : Value) (fs : List (List Int)) (cs : List Int) (k : Nat) (w : World) (hF : RowsAt W a fs) (hB : Below W.heap.size W w) (ho : Own w W.heap.size v cs) (hk : k < cs.length) (hkf : k < fs.length) (hr : ∀ z ∈ fs.getD k [], inR cs.length z) (hl : (fs.getD k []).length ≤ 3) :
    Calls Try.prog 138 #[hv a b c, v, .int .i64 k] w fun e w' => e = .returned (.tuple #[]) ∧ Own w' W.heap.size v (scan cs (fs.getD k []) k) ∧ w.grownBy w' v.ownBlock := by
  rcases ho.shape' with ⟨_, h0'⟩ | ⟨g, cap, rfl⟩
  · rw [h0'] at hk; simp at hk
  obtain ⟨fa, fc, rfl⟩ := hF.shape
  obtain ⟨fb, fo, rfl, hcf⟩ := hF.at' (by omega)
  obtain ⟨u, quf, huf⟩ := hcf k hkf
  obtain ⟨ua, uc, rfl⟩ := huf.shape
  have hgl : g < w.heap.size := (owns_lt ho rfl).2
  have HLO : Hid (∀ g', some g = some g' → W.heap.size ≤ g') := fun g' e => (owns_lt ho e).1
  obtain ⟨s1, s2, s3, s4⟩ := ho.store1 rfl hk 2
  have hba := below1 (w.setCell ⟨g, k, none⟩ (.int .i64 2)) (.cells (c3 (.slice (some ⟨fb, fo, none⟩) fs.length fc) b c) 30)
  have B1 := bst (hB.grown s2 hB.size HLO.out) hba (hB.grown s2 hB.size HLO.out).size
  have eu := cellBelow B1 (Nat.le_refl _) quf
  have BB1 := Lib.hid B1; have SS1 := Lib.hid (s1.below hba)
  have GG1 : Hid (w.grownBy ((w.setCell ⟨g, k, none⟩ (.int .i64 2)).alloc (.cells (c3 (.slice (some ⟨fb, fo, none⟩) fs.length fc) b c) 30)) (some g)) := grownBy_trans s2 ⟨rfl, rfl, rfl, by simp, fun i hi _ => hba.block i hi⟩
  have HU := Lib.hid huf; have HR := Lib.hid hr
  have HSC : Hid (scan cs (fs.getD k []) k = shades (cs.set k 2) (fs.getD k [])) := rfl
  have HLL : Hid ((cs.set k 2).length = cs.length) := List.length_set
  generalize scan cs (fs.getD k []) k = out at *
  clear ho hr hF hB hcf huf quf s1 s2 B1 hba
  generalize fs.getD k [] = row at *
  generalize hm : row.length = m at *
  have HM := Lib.hid hm; clear hm
  generalize cs.set k 2 = cs1 at *
  generalize cs.length = n at *
  generalize fs.length = fl at *
  have i1 : (k : Int) < (n : Int) := by omega
  have i2 : (k : Int) < (fl : Int) := by omega
  have i0 : (0 : Int) ≤ (k : Int) := by omega
  go_enter Try.func138, Try.ntmps138
  go_wp2_with fail
  generalize ((w.setCell ⟨g, k, none⟩ (.int .i64 2)).alloc (.cells (c3 (.slice (some ⟨fb, fo, none⟩) fl fc) b c) 30)) = w1 at *
  clear eu s3 s4
  go_loopw [17] (fun i wr => ∃ j : Nat, j ≤ m ∧ i = .int .i64 j ∧ Hid (Own wr W.heap.size (.slice (some ⟨g, 0, none⟩) n cap) (shades cs1 (row.take j))) ∧ Hid (w1.grownBy wr (some g))) (fun i _ => m - (intOf i).toNat)
  case atStart => exact ⟨0, Nat.zero_le _, rfl, by rw [List.take_zero, shades_nil]; exact SS1, World.grownBy.refl _ _⟩
  case round =>
    obtain ⟨j, hj, rfl, how, hgr⟩ := hrel
    by_cases hlt : j < m
    · obtain ⟨zb, zo, rfl, hcz⟩ := HU.out.at' (by omega)
      have BR : Below W.heap.size W wr := BB1.out.grown hgr.out BB1.out.size HLO.out
      have q := cellBelow BR (Nat.le_refl _) (hcz j hlt)
      have hjl : j < row.length := by rw [HM.out]; exact hlt
      have hin := HR.out (row.getD j 0) (by rw [List.getD, List.getElem?_eq_getElem hjl]; exact List.getElem_mem hjl)
      have HS := Lib.hid (shades_take_succ (cs := cs1) hjl)
      have HIN : Hid (row.getD j 0 < ((shades cs1 (row.take j)).length : Int)) := by unfold Hid; rw [shades_len, HLL.out]; rcases hin with h | h <;> omega
      have j1 : (j : Int) < (m : Int) := by omega
      clear hcz hjl hin BR
      generalize row.getD j 0 = z at *
      go_wp2_with fail
      refine (s_l6Shade _ _ z _ wr how.out HIN.out).mono ?_
      rintro e w6 ⟨rfl, ho6, hg6⟩
      have O6 := Lib.hid ho6
      have G6 : Hid (w1.grownBy w6 (some g)) := grownBy_trans hgr.out hg6
      clear ho6 hg6 q
      go_wp2_with fail
      go_roundw
      case rel => exact ⟨j + 1, by omega, by go_num, by rw [HS.out]; exact O6, G6⟩
      case measure => simp [intOf]; omega
    · obtain rfl : j = m := by omega
      have HE : Hid (row.take j = row) := List.take_of_length_le (by rw [HM.out]; exact Nat.le_refl _)
      go_wp2_with fail
      go_end0
      exact ⟨rfl, by rw [HSC.out, ← HE.out]; exact how.out, grownBy_trans GG1.out hgr.out⟩
end Go.Proofs.Ytkkigoamphkalaa
namespace Go.Proofs.Ytkkigoamphkalaa
open Go.RowKit Ph

theorem own_ints22 (w : World) (B : Nat) (hB : B ≤ w.heap.size) : Own (w.alloc (.cells #[.int .i64 (-1), .int .i64 3] 3)) B (.slice (some ⟨w.heap.size, 0, none⟩) 2 2) [-1, 3] :=
  ⟨rfl, .inr ⟨w.heap.size, 2, _, rfl, hB, heap_alloc_new _ _, Nat.le_refl _, by decide, rfl, rfl⟩⟩
set_option maxRecDepth 100000 in
set_option maxHeartbeats 3200000 in
theorem c_colours (c n many : Nat) (w : World) (hc : CurIs w c n) (hn : n ≤ 999990000) (hm : many ≤ 20) :
    Calls Try.prog 140 #[.pointer (some ⟨c, 0, none⟩), .int .i64 (many : Int)] w fun e w' => ∃ v l, e = .returned v ∧ l.length = many ∧ Own w' w.heap.size v l ∧ CurIs w' c (n + 100) ∧ w.grownBy w' (some c) := by
  obtain ⟨i0, hi, hz0, hz1, hz2⟩ := info_parts info_int
  have HD := Lib.hid (Dv.start hc)
  have hcw := hc.lt
  clear hc
  go_enter Try.func140, Try.ntmps140
  go_wp2_with fail
  go_loopw [5, 6] (fun t i wr => ∃ (j : Nat) (l : List Int), j ≤ many ∧ i = .int .i64 (j : Int) ∧ Hid (l.length = j) ∧ Hid (Own wr w.heap.size t l) ∧ Hid (Dv w c (n + 2 * j) wr)) (fun _ i _ => many - (intOf i).toNat)
  case atStart => exact ⟨0, [], Nat.zero_le _, rfl, rfl, Own.nil _ _, HD⟩
  case round =>
    obtain ⟨j, l, hj, rfl, hl, how, hD⟩ := hrel
    by_cases hlt : j < many
    · have i1 : (j : Int) < (many : Int) := by omega
      go_wp2_with fail
      refine (c_pick c (n + 2 * j) 3 _ hD.out.1 (by omega) (by omega) (by omega)).mono ?_
      rintro e w6 ⟨x, hx, rfl, hc6, hg6⟩
      have D6 := Lib.hid (hD.out.step hc6 hg6)
      have O6 : Own w6 w.heap.size u5 l := Own.chg how.out (chgC hg6) (fun g e => .inr (by have := (owns_lt how.out e).1; omega))
      have HO1 := Lib.hid (O6.below (below1 w6 (.cells #[.int .i64 x] 3)))
      have HB1 := Lib.hid ((Below.refl w.heap.size w6).alloc D6.out.size (.cells #[.int .i64 x] 3))
      have HS := Lib.hid (src_int w6 x)
      have HLN : Hid ((l.map (Value.int .i64)).length ≤ 20) := by unfold Hid; rw [List.length_map, hl.out]; omega
      have HL2 : Hid (l.length ≤ 20) := by unfold Hid; rw [hl.out]; omega
      have HWS : Hid (w.heap.size ≤ (w6.alloc (.cells #[.int .i64 x] 3)).heap.size) := by unfold Hid; have := D6.out.size; simp; omega
      clear hc6 hg6 O6
      go_wp2_with (at_builtin; refine wl_appOwn _ rfl _ _ 24 rfl w.heap.size 3 i0 (.int .i64 0) 8 Try.underlying24 hi hz0 hz1 hz2 rfl u5 _ _ rfl HO1.out _ _ rfl HS.out (by have := HL2.out; simp; unfold maxLen; omega) (by have := HL2.out; simp; omega) HWS.out ?_; intro v1 w1 ho1 hg1 hbl; have O1 : Hid (Own w1 w.heap.size v1 (l ++ [x])) := (by { unfold Hid Own; rw [List.map_append, List.length_append]; exact ho1 }); have D1 := Lib.hid (D6.out.low (HB1.out.grown hg1 HWS.out (fun g' hg' => (owns_lt HO1.out hg').1))); clear ho1 hg1 hbl)
      go_roundw
      case rel => exact ⟨j + 1, l ++ [x], by omega, by go_num, by unfold Hid; rw [List.length_append, hl.out]; rfl, O1, D1⟩
      case measure => simp [intOf]; omega
    · obtain rfl : j = many := by omega
      have i1 : ¬ (j : Int) < (j : Int) := by omega
      by_cases h0 : j = 0
      · subst h0
        obtain rfl : l = [] := List.eq_nil_of_length_eq_zero hl.out
        obtain ⟨pv, qv, hv⟩ := how.out.ints.shape
        subst hv
        have hnn : ¬ (0 : Int) < ((([] : List Int).length : Nat) : Int) := by simp
        go_wp2_with fail
        go_ret
        first | exact ⟨_, rfl, how.out, hD.out.1.mono (by omega), hD.out.2.1⟩ | exact ⟨_, [], rfl, rfl, how.out, hD.out.1.mono (by omega), hD.out.2.1⟩
      · rcases how.out.shape' with ⟨_, q⟩ | ⟨g, cap, hv⟩
        · rw [q] at hl; exact absurd hl.out.symm h0
        subst hv
        have hlj := hl.out
        rw [hlj] at how
        have h0' : (0 : Int) < (j : Int) := by omega
        rw [hlj]
        have HLJ := Lib.hid hlj
        clear hlj
        rw [← HLJ.out] at how
        rw [HLJ.out] at how
        go_wp2_with fail
        refine (c_one c (n + 2 * j) 30 _ hD.out.1 (by omega) (by omega) (by omega)).mono ?_
        rintro e w6 ⟨bo, rfl, hc6, hg6⟩
        have D6 := Lib.hid (hD.out.step hc6 hg6)
        have O6 := Lib.hid (Own.chg how.out (chgC hg6) (fun g e => .inr (by have := (owns_lt how.out e).1; omega)))
        clear hc6 hg6
        cases bo
        · go_wp2_with fail
          go_ret
          exact ⟨_, l, rfl, HLJ.out, O6.out, D6.out.1.mono (by omega), D6.out.2.1⟩
        · have hbI := below1 w6 (.cells #[.int .i64 (-1), .int .i64 3] 3)
          have OI := Lib.hid (own_ints22 w6 (c + 1) (by have := D6.out.size; omega))
          have D7 := Lib.hid (D6.out.low (hbI.mono D6.out.size))
          have O7 := Lib.hid (O6.out.below hbI)
          clear hbI
          go_wp2_with fail
          refine (c_among c (n + 2 * j + 2) _ _ (-1) 3 _ D7.out.1 (by omega) OI.out (by decide) (by decide) (by decide)).mono ?_
          rintro e w8 ⟨x, hx, rfl, hc8, hg8⟩
          have D8 := D7.out.step hc8 hg8
          have O8 := Own.chg O7.out (chgC hg8) (fun g e => .inr (by have := (owns_lt O7.out e).1; omega))
          obtain ⟨s1, s2, s3, s4⟩ := O8.store1 HLJ.out (z := 0) (by omega) x
          have hgW : w.heap.size ≤ g := (owns_lt O8 rfl).1
          have D9 := Lib.hid (D8.low ((Below.refl w.heap.size w8).setCell (p := ⟨g, 0, none⟩) hgW (.int .i64 x)))
          have S1 := Lib.hid s1
          clear hc8 hg8 D8 O8 s1 s2
          generalize l.getD 0 0 = y at *
          go_wp2_with fail
          go_ret
          exact ⟨_, l.set 0 x, rfl, by rw [List.length_set]; exact HLJ.out, S1.out, D9.out.1.mono (by omega), D9.out.2.1⟩
end Go.Proofs.Ytkkigoamphkalaa
namespace Go.Proofs.Ytkkigoamphkalaa
open Go.RowKit Ph

theorem dv_new {w : World} {v : Value} {zs : List Int} (h : BytesAt w v zs) : Dv (w.alloc (.cells #[v, .int .i64 0, .int .u64 0] 128)) w.heap.size 0 (w.alloc (.cells #[v, .int .i64 0, .int .u64 0] 128)) := Dv.start (cur_new h)
theorem dv_below {w X : World} {v : Value} {m : Nat} (h : Dv (w.alloc (.cells #[v, .int .i64 0, .int .u64 0] 128)) w.heap.size m X) : Below w.heap.size w X := below_of_cur h.2.1
theorem OwnH.stepC {X Y : World} {B c hi : Nat} {a b cc : Value} {h : H} (k : OwnH X B hi a b cc h) (hB : c < B) (hg : X.grownBy Y (some c)) : OwnH Y B hi a b cc h := k.chg (chgC hg) (.inr (by omega))
theorem row_stepC {X Y : World} {c g : Nat} {cs : Array Value} (h : Row X g 30 cs) (hn : g ≠ c) (hg : X.grownBy Y (some c)) : Row Y g 30 cs := Row.chg h (chgC hg) (by omega)
end Go.Proofs.Ytkkigoamphkalaa
namespace Go.Proofs.Ytkkigoamphkalaa.Ph
/-- None of the references zs names a White object. -/
def noWhite (cs zs : List Int) : Bool := zs.all fun x => !(decide (0 ≤ x) && decide (cs.getD x.toNat 0 = 0))
theorem noWhite_take_succ {cs zs : List Int} {j : Nat} (h : j < zs.length) : noWhite cs (zs.take (j + 1)) = (noWhite cs (zs.take j) && !(decide (0 ≤ zs.getD j 0) && decide (cs.getD (zs.getD j 0).toNat 0 = 0))) := by
  have e : zs.getD j 0 = zs[j] := by simp [List.getD, List.getElem?_eq_getElem h]
  unfold noWhite
  rw [List.take_succ_eq_append_getElem h, List.all_append, e]; simp
theorem noWhite_false {cs zs : List Int} {j : Nat} (h : j < zs.length) (h0 : 0 ≤ zs.getD j 0) (hw : cs.getD (zs.getD j 0).toNat 0 = 0) : noWhite cs zs = false := by
  cases hq : noWhite cs zs with
  | false => rfl
  | true =>
    have e : zs.getD j 0 = zs[j] := by simp [List.getD, List.getElem?_eq_getElem h]
    have := (List.all_eq_true.1 hq) zs[j] (List.getElem_mem h)
    rw [← e, decide_eq_true h0, decide_eq_true hw] at this
    cases this
theorem soundB_iff {h : H} {cs : List Int} : soundB h cs = true ↔ ∀ k, k < h.f.length → cs.getD k 0 = 2 → noWhite cs (h.f.getD k []) = true := by
  unfold soundB noWhite
  simp only [List.all_eq_true, List.mem_range, Bool.not_eq_true', Bool.and_eq_false_imp, Bool.and_eq_true, decide_eq_true_eq, decide_eq_false_iff_not, and_imp]
  exact ⟨fun q k hk h2 x hx h0 => q k hk x hx h0 h2, fun q k hk x hx h0 h2 => q k hk h2 x hx h0⟩
theorem soundB_false {h : H} {cs : List Int} {k : Nat} (hk : k < h.f.length) (h2 : cs.getD k 0 = 2) (hn : noWhite cs (h.f.getD k []) = false) : soundB h cs = false := by
  cases hq : soundB h cs with
  | false => rfl
  | true => have := soundB_iff.1 hq k hk h2; rw [hn] at this; cases this
end Go.Proofs.Ytkkigoamphkalaa.Ph
namespace Go.Proofs.Ytkkigoamphkalaa
open Go.RowKit Ph

theorem soundR_no {h : H} {cs : List Int} (k : bothB h cs = false) : soundR h cs = false := by unfold soundR; rw [k]; rfl
theorem soundR_yes {h : H} {cs : List Int} (k : bothB h cs = true) : soundR h cs = soundB h cs := by unfold soundR; rw [k]; rfl
theorem r_bb {a a' b b' : Bool} (h : a = a') (k : b = b') : Ending.returned (.tuple #[.bool a, .bool b]) = .returned (.tuple #[.bool a', .bool b']) := by rw [h, k]
set_option maxRecDepth 100000 in
set_option maxHeartbeats 3200000 in
theorem c_IsSound (a b c v : Value) (h : H) (cs : List Int) (w : World) (hA : HeapAt w a b c h) (hz : IntsAt w v cs) : Calls Try.prog 71 #[hv a b c, v] w fun e w' => e = .returned (.tuple #[.bool (soundR h cs), .bool (bothB h cs)]) ∧ Below w.heap.size w w' := by
  have hb0 := below1 w (.cells (c3 a b c) 30)
  have A0 := Lib.hid (hA.below hb0)
  have Z0 := Lib.hid (hz.below hb0)
  have HB := Lib.hid hb0
  have R0 := Lib.hid (show RowH _ _ a b c from Row.new w 30 (c3 a b c))
  have HF := Lib.hid hA.f
  have HZW := Lib.hid hz
  clear hA hb0
  have HC := Lib.hid (c_areColoursOf a b c v h cs _ A0.out Z0.out)
  have HE1 := Lib.hid (soundR_no (h := h) (cs := cs))
  have HE2 := Lib.hid (soundR_yes (h := h) (cs := cs))
  have HBB := Lib.hid (bothB_iff (h := h) (cs := cs)).1
  obtain ⟨va, vc, rfl⟩ := hz.shape
  clear hz
  generalize hx : bothB h cs = x at *
  have HX := Lib.hid hx; clear hx
  have c0 := R0.out.c0
  have c1 := R0.out.c1
  have c2 := R0.out.c2
  cases x
  · have HR := Lib.hid (HE1.out rfl)
    go_enter Try.func71, Try.ntmps71
    go_wp2_with (go_at_call 101; refine HC.out.mono ?_; rintro e w1 ⟨rfl, hb1⟩; have B1 := Lib.hid (bst HB.out hb1 HB.out.size); clear hb1)
    go_ret2
    exact ⟨r_bb HR.out.symm rfl, B1.out⟩
  have HR := Lib.hid (HE2.out rfl)
  obtain ⟨hG, hlen, hcol⟩ := HBB.out rfl
  have hn12 : cs.length ≤ 12 := by rw [hlen]; exact hG.n
  have HIN : Hid (∀ k, ∀ z ∈ h.f.getD k [], inR cs.length z) := fun k z hz => by rw [hlen]; exact (hG.field hz).imp id (fun h => ⟨h.1, h.2.1⟩)
  have HRL : Hid (∀ k, k < h.f.length → (h.f.getD k []).length ≤ 3) := fun k hk => (hG.row k hk).1
  have HSF : Hid (∀ k, k < cs.length → cs.getD k 0 = 2 → noWhite cs (h.f.getD k []) = false → soundB h cs = false) := fun k hk => soundB_false (by rw [← hlen]; exact hk)
  have HST : Hid ((∀ z ∈ ofC cs 2, noWhite cs (h.f.getD z.toNat []) = true) → soundB h cs = true) := fun q => soundB_iff.2 fun k hk h2 => q (k : Int) (mem_ofC.2 ⟨k, by rw [hlen]; exact hk, h2, rfl⟩)
  have HMC : Hid (∀ z ∈ ofC cs 2, ∃ k : Nat, z = k ∧ k < cs.length ∧ cs.getD k 0 = 2) := fun z hz => by obtain ⟨i, h1, h2, h3⟩ := mem_ofC.1 hz; exact ⟨i, h3, h1, h2⟩
  have HTL : Hid ((ofC cs 2).length ≤ 12) := Nat.le_trans (ofTo_len _ _ _) hn12
  obtain ⟨fa, fc, rfl⟩ := HF.out.shape
  clear hG hcol HBB
  rw [← hlen] at *
  clear hlen
  generalize hn : cs.length = n at *
  have HN := Lib.hid hn; clear hn
  go_enter Try.func71, Try.ntmps71
  go_wp2_with (go_at_call 101; refine HC.out.mono ?_; rintro e w1 ⟨rfl, hb1⟩; have B1 := Lib.hid (bst HB.out hb1 HB.out.size); have Z1 := Lib.hid (Z0.out.below hb1); have R1 := Lib.hid (R0.out.below hb1); have d0 := R1.out.c0; clear hb1)
  refine (c_thingsOf _ cs 2 _ Z1.out (by rw [HN.out]; exact hn12)).mono ?_
  rintro e w2 ⟨v2, rfl, ho2, hb2⟩
  have B2 := Lib.hid (bst B1.out hb2 B1.out.size)
  have R2 := Lib.hid (R1.out.below hb2)
  have T2 := Lib.hid ho2.ints
  have Z2 := Lib.hid (Z1.out.below hb2)
  obtain ⟨ta, tc, rfl⟩ := ho2.ints.shape
  clear ho2 hb2 d0 c0 c1 c2
  have d0 := R2.out.c0
  generalize ofC cs 2 = ts at *
  generalize hm : ts.length = m at *
  have HM := Lib.hid hm; clear hm
  have hm12 := HTL.out
  go_wp2_with fail
  go_loop [17] (fun i => ∃ j : Nat, j ≤ m ∧ i = .int .i64 j ∧ Hid (∀ z ∈ ts.take j, noWhite cs (h.f.getD z.toNat []) = true)) (fun i => m - (intOf i).toNat)
  case atStart => exact ⟨0, Nat.zero_le _, rfl, fun z hz => by simp at hz⟩
  case round =>
    obtain ⟨j, hj, rfl, hdone⟩ := hrel
    by_cases hlt : j < m
    · obtain ⟨tb, to, rfl, hct⟩ := T2.out.at' (by omega)
      have q := hct j hlt
      have hjl : j < ts.length := by rw [HM.out]; exact hlt
      obtain ⟨k, hzk, hkn, hk2⟩ := HMC.out (ts.getD j 0) (by rw [List.getD, List.getElem?_eq_getElem hjl]; exact List.getElem_mem hjl)
      have HTK := Lib.hid (mem_take_succ hjl)
      rw [hzk] at q
      have HZK := Lib.hid hzk
      obtain ⟨fb, fo, rfl, hcf⟩ := HF.out.at' (by omega)
      obtain ⟨u, quf, huf⟩ := hcf k hkn
      have HU := Lib.hid huf
      have qu := cellBelow B2.out (Nat.le_refl _) quf
      have HSN := Lib.hid (HSF.out k hkn hk2)
      have HINK := Lib.hid (HIN.out k)
      have hl3 := HRL.out k hkn
      obtain ⟨ua, uc, rfl⟩ := huf.shape
      have j1 : (j : Int) < (m : Int) := by omega
      have k1 : (k : Int) < (n : Int) := by omega
      have k0 : (0 : Int) ≤ (k : Int) := by omega
      clear hct hjl hzk hk2 hcf quf huf
      generalize hrow : h.f.getD k [] = row at *
      have HROW := Lib.hid hrow; clear hrow
      generalize hul : row.length = ul at *
      have HUL := Lib.hid hul; clear hul
      go_wp2_with fail
      go_loop [27] (fun i => ∃ p : Nat, p ≤ ul ∧ i = .int .i64 p ∧ Hid (noWhite cs (row.take p) = true)) (fun i => ul - (intOf i).toNat)
      case atStart => exact ⟨0, Nat.zero_le _, rfl, by rw [List.take_zero]; rfl⟩
      case round =>
        obtain ⟨p, hp, rfl, hnw⟩ := hrel
        by_cases hpl : p < ul
        · obtain ⟨zb, zo, rfl, hcz⟩ := HU.out.at' (by omega)
          have qz := cellBelow B2.out (Nat.le_refl _) (hcz p hpl)
          have hpr : p < row.length := by rw [HUL.out]; exact hpl
          have hin := HINK.out (row.getD p 0) (by rw [List.getD, List.getElem?_eq_getElem hpr]; exact List.getElem_mem hpr)
          have HNS := Lib.hid (noWhite_take_succ (cs := cs) hpr)
          have HNF := Lib.hid (noWhite_false (cs := cs) hpr)
          have p1 : (p : Int) < (ul : Int) := by omega
          clear hcz hpr
          generalize row.getD p 0 = z at *
          by_cases z1 : z = -1
          · subst z1
            have HE : Hid (noWhite cs (row.take (p + 1)) = true) := by unfold Hid; rw [HNS.out, hnw.out]; rfl
            clear hin HNS HNF
            go_wp2_with fail
            go_round
            case rel => exact ⟨p + 1, by omega, by go_num, HE⟩
            case measure => simp [intOf]; omega
          · obtain ⟨t, rfl⟩ : ∃ t : Nat, z = t := ⟨z.toNat, by rcases hin with h | h <;> omega⟩
            have htn : t < n := by rcases hin with h | h <;> omega
            have i2 : ((t : Int) == -1) = false := by simp
            obtain ⟨vb, vo, rfl, hcv⟩ := Z2.out.at' (by omega)
            have qv := hcv t htn
            have t1 : (t : Int) < (n : Int) := by omega
            have t0 : (0 : Int) ≤ (t : Int) := by omega
            rw [Int.toNat_natCast] at *
            clear hin z1 hcv
            generalize cs.getD t 0 = y at *
            by_cases hy : y = 0
            · subst hy
              have HE : Hid (soundB h cs = false) := HSN.out (HNF.out t0 rfl)
              have HR2 : Hid (soundR h cs = false) := HR.out.trans HE.out
              clear HNS HNF HE
              go_wp2_with fail
              go_ret2
              exact ⟨r_bb HR2.out.symm rfl, B2.out⟩
            · have HE : Hid (noWhite cs (row.take (p + 1)) = true) := by unfold Hid; rw [HNS.out, hnw.out, decide_eq_false hy]; simp
              have hy1 : (y == 0) = false := by simpa using hy
              clear HNS HNF hy
              go_wp2_with fail
              go_round
              case rel => exact ⟨p + 1, by omega, by go_num, HE⟩
              case measure => simp [intOf]; omega
        · have hpe : Hid (row.take p = row) := List.take_of_length_le (by rw [HUL.out]; omega)
          have HD : Hid (∀ z ∈ ts.take (j + 1), noWhite cs (h.f.getD z.toNat []) = true) := fun z hz => by
            rcases (HTK.out z).1 hz with e | e
            · exact hdone.out z e
            · rw [e, HZK.out, Int.toNat_natCast, HROW.out, ← hpe.out]; exact hnw.out
          go_wp2_with fail
          go_round
          case rel => exact ⟨j + 1, by omega, by go_num, HD⟩
          case measure => simp [intOf]; omega
    · have hje : Hid (ts.take j = ts) := List.take_of_length_le (by rw [HM.out]; omega)
      have HE : Hid (soundR h cs = true) := HR.out.trans (HST.out (by rw [← hje.out]; exact hdone.out))
      go_wp2_with fail
      go_ret2
      exact ⟨r_bb HE.out.symm rfl, B2.out⟩
end Go.Proofs.Ytkkigoamphkalaa
