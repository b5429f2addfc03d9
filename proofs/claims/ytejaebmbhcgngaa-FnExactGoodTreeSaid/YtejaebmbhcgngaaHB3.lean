/- What the laws rest on, part 3. -/
import Derived.Test.YtejaebmbhcgngaaHB2
import Derived.Deep.Cut
import Derived.Test.YtejaebmbhcgngaaRows
import Derived.Lib.SmallJoins
import Derived.WalkKit
import Derived.ProofKit
import Derived.OpenShut
import Derived.WalkSmall
import Derived.Deep.DeepHandedRow
import Derived.Lib.LaidTab
import Derived.Deep.Matrix
import Derived.Deep.Grids
namespace Go.Proofs.Ytejaebmbhcgngaa
open Go.RowKit Ph Tr
set_option maxHeartbeats 25600000 in
set_option maxRecDepth 100000 in
theorem s_GoodTree (a b c : Value) (x : T) (w : World) (hA : TreeAt w a b c x) (hm : wtT x ≤ 1048576) : Calls Try.prog 21 #[tv a b c x.t] w fun e w' => e = .returned (.bool (goodB x)) ∧ Below w.heap.size w w' := by
  obtain ⟨i0, hi, hz0, hz1, hz2⟩ := info_parts info_int
  obtain ⟨⟨pa, qa, rfl⟩, ⟨pb, qb, rfl⟩, ⟨pc, qc, rfl⟩⟩ := hA.shapes
  have b0 := below1 w (.cells (t4 (.slice pa x.k.length qa) (.slice pb x.l.length qb) (.slice pc x.r.length qc) x.t) 24)
  have A0 := Lib.hid (hA.below b0); have B0 := Lib.hid b0
  have R0 := Lib.hid (show RowTr _ _ (.slice pa x.k.length qa) (.slice pb x.l.length qb) (.slice pc x.r.length qc) x.t from Row.new w 24 (t4 (.slice pa x.k.length qa) (.slice pb x.l.length qb) (.slice pc x.r.length qc) x.t))
  have HNO := Lib.hid (fun h => not_good (x := x) h)
  have HYES := Lib.hid (fun h => (goodB_iff (x := x)).2 h)
  have HM : Hid (x.k.length ≤ 1048576 ∧ x.l.length ≤ 1048576 ∧ x.r.length ≤ 1048576) := by unfold Hid; unfold wtT at hm; omega
  clear hA b0 hm
  generalize goodB x = gb at *
  generalize hnk : x.k.length = nk at *
  generalize hnl : x.l.length = nl at *
  generalize hnr : x.r.length = nr at *
  have HNK := Lib.hid hnk; have HNL := Lib.hid hnl; have HNR := Lib.hid hnr
  clear hnk hnl hnr
  have c0 := R0.out.c0
  have c1 := R0.out.c1
  have c2 := R0.out.c2
  by_cases h20 : ¬ nk ≤ 20
  · have i1 : (nk : Int) > 20 := by omega
    have HE : Hid (gb = false) := HNO.out (fun g => by have := g.s.n; rw [HNK.out] at this; omega)
    go_enter Try.func21, Try.ntmps21
    go_wp2_with fail
    go_ret
    exact ⟨r_b HE.out.symm, B0.out⟩
  have i1 : ¬ (nk : Int) > 20 := by omega
  have hn20 : nk ≤ 20 := by omega
  clear h20
  by_cases hl : ¬ nl = nk
  · have i2 : ((nl : Int) != (nk : Int)) = true := by rw [bne_iff_ne]; omega
    have HE : Hid (gb = false) := HNO.out (fun g => by have := g.s.l; rw [HNK.out, HNL.out] at this; exact hl this)
    go_enter Try.func21, Try.ntmps21
    go_wp2_with fail
    go_ret
    exact ⟨r_b HE.out.symm, B0.out⟩
  obtain rfl : nl = nk := by omega
  have i2 : ((nl : Int) != (nl : Int)) = false := by simp
  clear hl
  by_cases hl : ¬ nr = nl
  · have i3 : ((nr : Int) != (nl : Int)) = true := by rw [bne_iff_ne]; omega
    have HE : Hid (gb = false) := HNO.out (fun g => by have := g.s.r; rw [HNK.out, HNR.out] at this; exact hl this)
    go_enter Try.func21, Try.ntmps21
    go_wp2_with fail
    go_ret
    exact ⟨r_b HE.out.symm, B0.out⟩
  obtain rfl : nr = nl := by omega
  clear hl
  have hwr : IntKind.i64.wrap ((nr : Int) - 1) = (nr : Int) - 1 := IntWalk.i64_in _ (by omega)
  generalize htt : x.t = tt at *
  have HTT := Lib.hid htt; clear htt
  have c3' := R0.out.c3
  go_enter Try.func21, Try.ntmps21
  go_wp2_with fail
  refine (s_l1All _ x.k 0 1000 _ A0.out.k (by rw [HNK.out]; omega)).mono ?_
  rintro e w1 ⟨rfl, rfl⟩
  generalize hk1 : x.k.all (inB 0 1000) = b1
  have HK1 := Lib.hid hk1; clear hk1
  cases b1
  · skip
    have HE : Hid (gb = false) := HNO.out (fun g => by have := g.s.kall; rw [HK1.out] at this; cases this)
    go_wp2_with fail
    go_ret
    exact ⟨r_b HE.out.symm, B0.out⟩
  go_wp2_with fail
  refine (s_l1All _ x.l (-1) ((nr : Int) - 1) _ A0.out.l (by rw [HNL.out]; omega)).mono ?_
  rintro e w1 ⟨rfl, rfl⟩
  generalize hk2 : x.l.all (inB (-1) ((nr : Int) - 1)) = b2
  have HK2 := Lib.hid hk2; clear hk2
  cases b2
  · skip
    have HE : Hid (gb = false) := HNO.out (fun g => by have := g.s.lall; rw [HNK.out, HK2.out] at this; cases this)
    go_wp2_with fail
    go_ret
    exact ⟨r_b HE.out.symm, B0.out⟩
  go_wp2_with fail
  refine (s_l1All _ x.r (-1) ((nr : Int) - 1) _ A0.out.r (by rw [HNR.out]; omega)).mono ?_
  rintro e w1 ⟨rfl, rfl⟩
  generalize hk3 : x.r.all (inB (-1) ((nr : Int) - 1)) = b3
  have HK3 := Lib.hid hk3; clear hk3
  cases b3
  · skip
    have HE : Hid (gb = false) := HNO.out (fun g => by have := g.s.rall; rw [HNK.out, HK3.out] at this; cases this)
    go_wp2_with fail
    go_ret
    exact ⟨r_b HE.out.symm, B0.out⟩
  go_wp2_with fail
  refine (s_l1In tt (-1) ((nr : Int) - 1) _).mono ?_
  rintro e w1 ⟨rfl, rfl⟩
  generalize hk4 : (decide (-1 ≤ tt) && decide (tt ≤ (nr : Int) - 1)) = b4
  have HK4 := Lib.hid hk4; clear hk4
  cases b4
  · skip
    have HE : Hid (gb = false) := HNO.out (fun g => by have := g.s.t; have h4 := HK4.out; rw [HTT.out, HNK.out] at this; rw [decide_eq_true this.1, decide_eq_true this.2] at h4; cases h4)
    go_wp2_with fail
    go_ret
    exact ⟨r_b HE.out.symm, B0.out⟩
  have ht4 : -1 ≤ tt ∧ tt ≤ (nr : Int) - 1 := by have h4 := HK4.out; rw [Bool.and_eq_true, decide_eq_true_eq, decide_eq_true_eq] at h4; exact h4
  have SHP : Hid (Shp x) := shp_of (by rw [HNK.out]; exact hn20) (by rw [HNK.out, HNL.out]) (by rw [HNK.out, HNR.out]) HK1.out (by rw [HNK.out]; exact HK2.out) (by rw [HNK.out]; exact HK3.out) (by rw [HTT.out, HNK.out]; exact ht4)
  have HT4 := Lib.hid ht4
  have HN20 := Lib.hid hn20
  clear HK1 HK2 HK3 HK4 ht4
  by_cases hd : ¬ (tt < 0 ↔ nr = 0)
  · have HE : Hid (gb = false) := HNO.out (fun g => by have := g.top; rw [HTT.out, HNK.out] at this; exact hd this)
    by_cases h1 : tt < 0
    · have j2 : ((nr : Int) == 0) = false := by simp; intro e; exact hd ⟨fun _ => e, fun _ => h1⟩
      clear hd
      go_wp2_with fail
      go_ret
      exact ⟨r_b HE.out.symm, B0.out⟩
    · have h0 : nr = 0 := by
        by_cases e : nr = 0
        · exact e
        · exact absurd ⟨fun h => absurd h h1, fun h => absurd h e⟩ hd
      exfalso; have := HT4.out; omega
  have e1 : ∃ q, decide (tt < 0) = q ∧ ((nr : Int) == 0) = q ∧ (q != q) = false := by
    refine ⟨decide (tt < 0), rfl, ?_, by simp⟩
    have hd' := Classical.not_not.1 hd
    by_cases h1 : tt < 0
    · have := hd'.1 h1; rw [decide_eq_true h1]; simp; exact this
    · rw [decide_eq_false h1]; simp; intro e; exact h1 (hd'.2 e)
  obtain ⟨q, e1, e2, e3⟩ := e1
  clear hd
  go_wp2_with fail
  clear e1 e2 e3 c0 c1 c2 c3'
  generalize w.alloc (.cells (t4 (.slice pa nr qa) (.slice pb nr qb) (.slice pc nr qc) tt) 24) = w0 at *
  go_loopw [69, 4] (fun i s wr => ∃ k : Nat, k ≤ nr ∧ i = .int .i64 k ∧ Hid (Own wr w0.heap.size s (nm x (2 * k))) ∧ Hid (∀ q, q < 2 * k → OkAt x q) ∧ Hid (Below w0.heap.size w0 wr)) (fun i _ _ => nr - (intOf i).toNat)
  case atStart => exact ⟨0, Nat.zero_le _, rfl, Own.nil _ _, fun q hq => by omega, Below.refl _ _⟩
  case round =>
    obtain ⟨k, hk, rfl, hs, hok, hb⟩ := hrel
    have BW := Lib.hid (B0.out.trans (hb.out.mono B0.out.size))
    have R1 : Hid (RowTr wr _ _ _ _ _) := RowTr.below R0.out hb.out
    have A1 := Lib.hid (A0.out.below hb.out)
    by_cases hlt : k < nr
    · obtain ⟨lb, lo, rfl, hcl⟩ := IntsAt.at' A1.out.l (by omega)
      obtain ⟨rb, ro, rfl, hcr⟩ := IntsAt.at' A1.out.r (by omega)
      obtain ⟨kb, ko, rfl, hck⟩ := IntsAt.at' A1.out.k (by omega)
      have ql := hcl k hlt
      have qr := hcr k hlt
      have HCK0 : Hid (∀ i, i < nr → w0.cell? ⟨kb, ko + i, none⟩ = some (.int .i64 (x.k.getD i 0))) := by
        obtain ⟨kb', ko', e, h⟩ := IntsAt.at' A0.out.k (by omega)
        cases e; exact h
      have HC0 : Hid (cd x (2 * k) = x.l.getD k 0) := cd_l x k
      have HC1 : Hid (cd x (2 * k + 1) = x.r.getD k 0) := cd_r x k
      have HZ : Hid (∀ p, p < 2 → -1 ≤ cd x (2 * k + p) ∧ cd x (2 * k + p) ≤ (nr : Int) - 1) := by
        intro p hp
        have h1 := SHP.out.ls k (by rw [HNK.out]; exact hlt)
        have h2 := SHP.out.rs k (by rw [HNK.out]; exact hlt)
        rw [HNK.out] at h1 h2
        have : p = 0 ∨ p = 1 := by omega
        rcases this with rfl | rfl
        · rw [Nat.add_zero, HC0.out]; exact h1
        · rw [HC1.out]; exact h2
      have c1 := R1.out.c1
      have c2 := R1.out.c2
      have i3 : (k : Int) < (nr : Int) := by omega
      have i4 : (0 : Int) ≤ (k : Int) := by omega
      clear hcl hcr hck
      generalize x.l.getD k 0 = zl at *
      generalize x.r.getD k 0 = zr at *
      go_upto_region 8 with fail
      refine wp_region_held_drew (S := (fun w' => w'.cell? ⟨w.heap.size, 1, none⟩ = some (.slice (some ⟨lb, lo, none⟩) nr qb) ∧ w'.cell? ⟨w.heap.size, 2, none⟩ = some (.slice (some ⟨rb, ro, none⟩) nr qc) ∧ w'.cell? ⟨lb, lo + k, none⟩ = some (.int .i64 zl) ∧ w'.cell? ⟨rb, ro + k, none⟩ = some (.int .i64 zr))) (by kernel_rfl) (⟨c1, c2, ql, qr⟩) (fun hHeld => ?_)
      refine wpAnyH_take (i := 0) (v := ?va0x1) rfl (by kernel_rfl) (by kernel_rfl) (by kernel_rfl) (fun _ _ _ h => h) (Or.inl ⟨by rfl, ?hy0x1⟩) (by assumption) ?rest0x1
      case hy0x1 => (intro w hSw; (try dsimp only at hSw); go_simp; try with_reducible rfl)
      (try simp only [Act.put, List.getElem_toArray, List.getElem_cons_zero, List.setIfInBounds_toArray, List.set_cons_zero, List.set_cons_succ])
      refine wpAnyH_take (i := 1) (v := ?va1x2) rfl (by kernel_rfl) (by kernel_rfl) (by kernel_rfl) (fun _ _ _ h => h) (Or.inl ⟨by rfl, ?hy1x2⟩) (by assumption) ?rest1x2
      case hy1x2 => (intro w hSw; (try dsimp only at hSw); go_simp; try with_reducible rfl)
      (try simp only [Act.put, List.getElem_toArray, List.getElem_cons_zero, List.getElem_cons_succ, List.setIfInBounds_toArray, List.set_cons_zero, List.set_cons_succ])
      refine wpAnyH_take (i := 2) (v := ?va2x3) rfl (by kernel_rfl) (by kernel_rfl) (by kernel_rfl) (fun _ _ _ h => h) (Or.inl ⟨by rfl, ?hy2x3⟩) (by assumption) ?rest2x3
      case hy2x3 => (intro w hSw; (try dsimp only at hSw); go_simp; try with_reducible rfl)
      (try simp only [Act.put, List.getElem_toArray, List.getElem_cons_zero, List.getElem_cons_succ, List.setIfInBounds_toArray, List.set_cons_zero, List.set_cons_succ])
      refine wpAnyH_take (i := 3) (v := ?va3x4) rfl (by kernel_rfl) (by kernel_rfl) (by kernel_rfl) (fun _ _ _ h => h) (Or.inl ⟨by rfl, ?hy3x4⟩) (by assumption) ?rest3x4
      case hy3x4 => (intro w hSw; (try dsimp only at hSw); go_simp; try with_reducible rfl)
      (try simp only [Act.put, List.getElem_toArray, List.getElem_cons_zero, List.getElem_cons_succ, List.setIfInBounds_toArray, List.set_cons_zero, List.set_cons_succ])
      refine wpAnyH_take (i := 4) (v := ?va4x5) rfl (by kernel_rfl) (by kernel_rfl) (by kernel_rfl) (fun _ _ _ h => h) (Or.inl ⟨by rfl, ?hy4x5⟩) (by assumption) ?rest4x5
      case hy4x5 => (intro w hSw; (try dsimp only at hSw); go_simp; try with_reducible rfl)
      (try simp only [Act.put, List.getElem_toArray, List.getElem_cons_zero, List.getElem_cons_succ, List.setIfInBounds_toArray, List.set_cons_zero, List.set_cons_succ])
      refine wpAnyH_take (i := 5) (v := ?va5x6) rfl (by kernel_rfl) (by kernel_rfl) (by kernel_rfl) (fun _ _ _ h => h) (Or.inl ⟨by rfl, ?hy5x6⟩) (by assumption) ?rest5x6
      case hy5x6 => (intro w hSw; (try dsimp only at hSw); go_simp; try with_reducible rfl)
      (try simp only [Act.put, List.getElem_toArray, List.getElem_cons_zero, List.getElem_cons_succ, List.setIfInBounds_toArray, List.set_cons_zero, List.set_cons_succ])
      refine wpAnyH_take (i := 6) (v := ?va6x7) rfl (by kernel_rfl) (by kernel_rfl) (by kernel_rfl) (fun _ _ _ h => h) (Or.inl ⟨by rfl, ?hy6x7⟩) (by assumption) ?rest6x7
      case hy6x7 => (intro w hSw; (try dsimp only at hSw); go_simp; try with_reducible rfl)
      (try simp only [Act.put, List.getElem_toArray, List.getElem_cons_zero, List.getElem_cons_succ, List.setIfInBounds_toArray, List.set_cons_zero, List.set_cons_succ])
      refine wpAnyH_take (i := 7) (v := ?va7x8) rfl (by kernel_rfl) (by kernel_rfl) (by kernel_rfl) (fun _ _ _ h => h) (Or.inl ⟨by rfl, ?hy7x8⟩) (by assumption) ?rest7x8
      case hy7x8 => (intro w hSw; (try dsimp only at hSw); go_simp; try with_reducible rfl)
      (try simp only [Act.put, List.getElem_toArray, List.getElem_cons_zero, List.getElem_cons_succ, List.setIfInBounds_toArray, List.set_cons_zero, List.set_cons_succ])
      refine wpAnyH_take (i := 8) (v := ?va8x9) rfl (by kernel_rfl) (by kernel_rfl) (by kernel_rfl) (fun _ _ _ h => h) (Or.inl ⟨by rfl, ?hy8x9⟩) (by assumption) ?rest8x9
      case hy8x9 => (intro w hSw; (try dsimp only at hSw); go_simp; try with_reducible rfl)
      (try simp only [Act.put, List.getElem_toArray, List.getElem_cons_zero, List.getElem_cons_succ, List.setIfInBounds_toArray, List.set_cons_zero, List.set_cons_succ])
      refine wpAnyH_take (i := 9) (v := ?va9x10) rfl (by kernel_rfl) (by kernel_rfl) (by kernel_rfl) (fun _ _ _ h => h) (Or.inl ⟨by rfl, ?hy9x10⟩) (by assumption) ?rest9x10
      case hy9x10 => (intro w hSw; (try dsimp only at hSw); go_simp; try with_reducible rfl)
      (try simp only [Act.put, List.getElem_toArray, List.getElem_cons_zero, List.getElem_cons_succ, List.setIfInBounds_toArray, List.set_cons_zero, List.set_cons_succ])
      refine wpAnyH_take (i := 12) (v := ?va12x11) rfl (by kernel_rfl) (by kernel_rfl) (by kernel_rfl) (fun _ _ _ h => h) (Or.inl ⟨by rfl, ?hy12x11⟩) (by assumption) ?rest12x11
      case hy12x11 => (intro w hSw; (try dsimp only at hSw); go_simp; try with_reducible rfl)
      (try simp only [Act.put, List.getElem_toArray, List.getElem_cons_zero, List.getElem_cons_succ, List.setIfInBounds_toArray, List.set_cons_zero, List.set_cons_succ])
      refine wpAnyH_ready (rs := [10]) (by kernel_rfl) (by simp) ?_
      refine AllReadyH.cons rfl (fun K hK => ?_) AllReadyH.nil
      have kk := hHeld
      clear hHeld
      obtain ⟨x1, hx1⟩ : ∃ y, y = World.drew (wr.alloc (.cells #[.int .i64 zl, .int .i64 zr] 3)) := ⟨_, rfl⟩
      have hb1 : Below wr.heap.size wr x1 := by rw [hx1]; exact below_drew (below1 wr _)
      have Q1 : Hid (Row x1 wr.heap.size 3 #[.int .i64 zl, .int .i64 zr]) := by rw [hx1]; exact Row.new wr _ _
      go_simp
      rw [← hx1]
      refine hK.out _ _ ⟨cellBelow hb1 (Nat.le_refl _) kk.1, cellBelow hb1 (Nat.le_refl _) kk.2.1, cellBelow hb1 (Nat.le_refl _) kk.2.2.1, cellBelow hb1 (Nat.le_refl _) kk.2.2.2⟩ (fun hHeld => ?_)
      clear hK K kk
      (try simp only [Act.put, List.getElem_toArray, List.getElem_cons_zero, List.getElem_cons_succ, List.setIfInBounds_toArray, List.set_cons_zero, List.set_cons_succ])
      refine wpAnyH_take (i := 11) (v := ?va11x12) rfl (by kernel_rfl) (by kernel_rfl) (by kernel_rfl) (fun _ _ _ h => h) (Or.inl ⟨by rfl, ?hy11x12⟩) (by assumption) ?rest11x12
      case hy11x12 => (intro w hSw; (try dsimp only at hSw); go_simp; try with_reducible rfl)
      (try simp only [Act.put, List.getElem_toArray, List.getElem_cons_zero, List.getElem_cons_succ, List.setIfInBounds_toArray, List.set_cons_zero, List.set_cons_succ])
      refine wpAnyH_done (by kernel_rfl) ?_ _
      clear hHeld hx1 c1 c2 ql qr
      have HS0 := Lib.hid (hs.out.below hb1)
      have BW1 := Lib.hid (bst hb.out hb1 hb.out.size)
      have LT1 : Hid (wr.heap.size < x1.heap.size) := Row.lt Q1.out
      have NE0 : Hid (∀ g, u4.ownBlock = some g → g ≠ wr.heap.size) := fun g hg e => by have := (owns_lt hs.out hg).2; omega
      have WG : Hid (w0.heap.size ≤ wr.heap.size) := hb.out.size
      clear hb1 A1 R1
      go_wp2_with fail
      clear hs BW
      generalize wr.heap.size = gw at *
      go_loopw [84, 4] (fun i s wr => ∃ p : Nat, p ≤ 2 ∧ i = .int .i64 p ∧ Hid (Own wr w0.heap.size s (nm x (2 * k + p))) ∧ Hid (∀ q, q < 2 * k + p → OkAt x q) ∧ Hid (Below w0.heap.size w0 wr) ∧ Hid (Row wr gw 3 #[.int .i64 zl, .int .i64 zr]) ∧ Hid (∀ g, s.ownBlock = some g → g ≠ gw)) (fun i _ _ => 2 - (intOf i).toNat)
      case atStart => exact ⟨0, Nat.zero_le _, rfl, HS0, hok, BW1, Q1, NE0⟩
      case round =>
        clear HS0 hok BW1 Q1 NE0 LT1
        obtain ⟨p, hp, rfl, hs2, hok2, hb2, hq2, hne⟩ := hrel
        by_cases hp2 : p < 2
        · have HC : wr.cell? ⟨gw, p, none⟩ = some (.int .i64 (cd x (2 * k + p))) := by
            have : p = 0 ∨ p = 1 := by omega
            rcases this with rfl | rfl
            · have := Row.cell hq2.out 0; rw [Nat.add_zero, HC0.out]; exact this
            · have := Row.cell hq2.out 1; rw [HC1.out]; exact this
          have hz := HZ.out p hp2
          have R2 : Hid (RowTr wr _ _ _ _ _) := RowTr.below R0.out hb2.out
          have HDV : Hid ((2 * k + p) / 2 = k) := by unfold Hid; omega
          have HNMY := Lib.hid (nm_yes (x := x) (p := 2 * k + p))
          have HNMN := Lib.hid (nm_no (x := x) (p := 2 * k + p))
          have HOS := Lib.hid (ok_succ hok2.out)
          have HOKN := Lib.hid (fun h0 h => okAt_no (x := x) (q := 2 * k + p) h0 h)
          have HOKY := Lib.hid (fun h => okAt_yes (x := x) (q := 2 * k + p) h)
          have HQL : Hid (2 * k + p < 2 * x.k.length) := by unfold Hid; rw [HNK.out]; omega
          have HPS : Hid (2 * k + (p + 1) = 2 * k + p + 1) := by unfold Hid; omega
          have HLEN := Lib.hid (nm_len x (2 * k + p))
          have HL40 : Hid (2 * k + p ≤ 41) := by unfold Hid; omega
          have i5 : (p : Int) < 2 := by omega
          have i6 : (0 : Int) ≤ (p : Int) := by omega
          rw [HDV.out] at HOKN HOKY
          generalize cd x (2 * k + p) = z at *
          generalize nm x (2 * k + p) = zs at *
          generalize 2 * k + p = pp at *
          by_cases z0 : z < 0
          · have j1 : ¬ z ≥ 0 := by omega
            have HE : Hid (nm x (2 * k + (p + 1)) = zs) := by unfold Hid; rw [HPS.out]; exact HNMN.out (by omega)
            have HO : Hid (∀ q, q < 2 * k + (p + 1) → OkAt x q) := by unfold Hid; rw [HPS.out]; exact HOS.out (HOKY.out (fun h => by omega))
            clear hz z0
            go_upto_region 11 with fail
            refine wp_region_held_drew (S := (fun _ => True)) (by kernel_rfl) (trivial) (fun hHeld => ?_)
            refine wpAnyH_take (i := 0) (v := ?va0x13) rfl (by kernel_rfl) (by kernel_rfl) (by kernel_rfl) (fun _ _ _ h => h) (Or.inl ⟨by rfl, ?hy0x13⟩) (by assumption) ?rest0x13
            case hy0x13 => (intro w hSw; (try dsimp only at hSw); go_simp; try with_reducible rfl)
            (try simp only [Act.put, List.getElem_toArray, List.getElem_cons_zero, List.setIfInBounds_toArray, List.set_cons_zero, List.set_cons_succ])
            refine wpAnyH_take (i := 1) (v := ?va1x14) rfl (by kernel_rfl) (by kernel_rfl) (by kernel_rfl) (fun _ _ _ h => h) (Or.inl ⟨by rfl, ?hy1x14⟩) (by assumption) ?rest1x14
            case hy1x14 => (intro w hSw; (try dsimp only at hSw); go_simp; try with_reducible rfl)
            (try simp only [Act.put, List.getElem_toArray, List.getElem_cons_zero, List.getElem_cons_succ, List.setIfInBounds_toArray, List.set_cons_zero, List.set_cons_succ])
            refine wpAnyH_take (i := 2) (v := ?va2x15) rfl (by kernel_rfl) (by kernel_rfl) (by kernel_rfl) (fun _ _ _ h => h) (Or.inl ⟨by rfl, ?hy2x15⟩) (by assumption) ?rest2x15
            case hy2x15 => (intro w hSw; (try dsimp only at hSw); go_simp; try with_reducible rfl)
            (try simp only [Act.put, List.getElem_toArray, List.getElem_cons_zero, List.getElem_cons_succ, List.setIfInBounds_toArray, List.set_cons_zero, List.set_cons_succ])
            refine wpAnyH_take (i := 3) (v := undef) rfl (by kernel_rfl) (by kernel_rfl) (by kernel_rfl) (fun _ _ _ h => h) (Or.inr ⟨by rfl, rfl⟩) (by assumption) ?_
            (try simp only [Act.put, List.getElem_toArray, List.getElem_cons_zero, List.getElem_cons_succ, List.setIfInBounds_toArray, List.set_cons_zero, List.set_cons_succ])
            refine wpAnyH_take (i := 4) (v := undef) rfl (by kernel_rfl) (by kernel_rfl) (by kernel_rfl) (fun _ _ _ h => h) (Or.inr ⟨by rfl, rfl⟩) (by assumption) ?_
            (try simp only [Act.put, List.getElem_toArray, List.getElem_cons_zero, List.getElem_cons_succ, List.setIfInBounds_toArray, List.set_cons_zero, List.set_cons_succ])
            refine wpAnyH_take (i := 5) (v := undef) rfl (by kernel_rfl) (by kernel_rfl) (by kernel_rfl) (fun _ _ _ h => h) (Or.inr ⟨by rfl, rfl⟩) (by assumption) ?_
            (try simp only [Act.put, List.getElem_toArray, List.getElem_cons_zero, List.getElem_cons_succ, List.setIfInBounds_toArray, List.set_cons_zero, List.set_cons_succ])
            refine wpAnyH_take (i := 6) (v := undef) rfl (by kernel_rfl) (by kernel_rfl) (by kernel_rfl) (fun _ _ _ h => h) (Or.inr ⟨by rfl, rfl⟩) (by assumption) ?_
            (try simp only [Act.put, List.getElem_toArray, List.getElem_cons_zero, List.getElem_cons_succ, List.setIfInBounds_toArray, List.set_cons_zero, List.set_cons_succ])
            refine wpAnyH_take (i := 7) (v := undef) rfl (by kernel_rfl) (by kernel_rfl) (by kernel_rfl) (fun _ _ _ h => h) (Or.inr ⟨by rfl, rfl⟩) (by assumption) ?_
            (try simp only [Act.put, List.getElem_toArray, List.getElem_cons_zero, List.getElem_cons_succ, List.setIfInBounds_toArray, List.set_cons_zero, List.set_cons_succ])
            refine wpAnyH_take (i := 8) (v := undef) rfl (by kernel_rfl) (by kernel_rfl) (by kernel_rfl) (fun _ _ _ h => h) (Or.inr ⟨by rfl, rfl⟩) (by assumption) ?_
            (try simp only [Act.put, List.getElem_toArray, List.getElem_cons_zero, List.getElem_cons_succ, List.setIfInBounds_toArray, List.set_cons_zero, List.set_cons_succ])
            refine wpAnyH_take (i := 9) (v := undef) rfl (by kernel_rfl) (by kernel_rfl) (by kernel_rfl) (fun _ _ _ h => h) (Or.inr ⟨by rfl, rfl⟩) (by assumption) ?_
            (try simp only [Act.put, List.getElem_toArray, List.getElem_cons_zero, List.getElem_cons_succ, List.setIfInBounds_toArray, List.set_cons_zero, List.set_cons_succ])
            refine wpAnyH_take (i := 10) (v := undef) rfl (by kernel_rfl) (by kernel_rfl) (by kernel_rfl) (fun _ _ _ h => h) (Or.inr ⟨by rfl, rfl⟩) (by assumption) ?_
            (try simp only [Act.put, List.getElem_toArray, List.getElem_cons_zero, List.getElem_cons_succ, List.setIfInBounds_toArray, List.set_cons_zero, List.set_cons_succ])
            refine wpAnyH_take (i := 11) (v := undef) rfl (by kernel_rfl) (by kernel_rfl) (by kernel_rfl) (fun _ _ _ h => h) (Or.inr ⟨by rfl, rfl⟩) (by assumption) ?_
            (try simp only [Act.put, List.getElem_toArray, List.getElem_cons_zero, List.getElem_cons_succ, List.setIfInBounds_toArray, List.set_cons_zero, List.set_cons_succ])
            refine wpAnyH_take (i := 12) (v := undef) rfl (by kernel_rfl) (by kernel_rfl) (by kernel_rfl) (fun _ _ _ h => h) (Or.inr ⟨by rfl, rfl⟩) (by assumption) ?_
            (try simp only [Act.put, List.getElem_toArray, List.getElem_cons_zero, List.getElem_cons_succ, List.setIfInBounds_toArray, List.set_cons_zero, List.set_cons_succ])
            refine wpAnyH_take (i := 13) (v := undef) rfl (by kernel_rfl) (by kernel_rfl) (by kernel_rfl) (fun _ _ _ h => h) (Or.inr ⟨by rfl, rfl⟩) (by assumption) ?_
            (try simp only [Act.put, List.getElem_toArray, List.getElem_cons_zero, List.getElem_cons_succ, List.setIfInBounds_toArray, List.set_cons_zero, List.set_cons_succ])
            refine wpAnyH_take (i := 14) (v := undef) rfl (by kernel_rfl) (by kernel_rfl) (by kernel_rfl) (fun _ _ _ h => h) (Or.inr ⟨by rfl, rfl⟩) (by assumption) ?_
            (try simp only [Act.put, List.getElem_toArray, List.getElem_cons_zero, List.getElem_cons_succ, List.setIfInBounds_toArray, List.set_cons_zero, List.set_cons_succ])
            refine wpAnyH_take (i := 15) (v := undef) rfl (by kernel_rfl) (by kernel_rfl) (by kernel_rfl) (fun _ _ _ h => h) (Or.inr ⟨by rfl, rfl⟩) (by assumption) ?_
            (try simp only [Act.put, List.getElem_toArray, List.getElem_cons_zero, List.getElem_cons_succ, List.setIfInBounds_toArray, List.set_cons_zero, List.set_cons_succ])
            refine wpAnyH_take (i := 16) (v := undef) rfl (by kernel_rfl) (by kernel_rfl) (by kernel_rfl) (fun _ _ _ h => h) (Or.inr ⟨by rfl, rfl⟩) (by assumption) ?_
            (try simp only [Act.put, List.getElem_toArray, List.getElem_cons_zero, List.getElem_cons_succ, List.setIfInBounds_toArray, List.set_cons_zero, List.set_cons_succ])
            refine wpAnyH_take (i := 17) (v := undef) rfl (by kernel_rfl) (by kernel_rfl) (by kernel_rfl) (fun _ _ _ h => h) (Or.inr ⟨by rfl, rfl⟩) (by assumption) ?_
            (try simp only [Act.put, List.getElem_toArray, List.getElem_cons_zero, List.getElem_cons_succ, List.setIfInBounds_toArray, List.set_cons_zero, List.set_cons_succ])
            refine wpAnyH_take (i := 18) (v := undef) rfl (by kernel_rfl) (by kernel_rfl) (by kernel_rfl) (fun _ _ _ h => h) (Or.inr ⟨by rfl, rfl⟩) (by assumption) ?_
            (try simp only [Act.put, List.getElem_toArray, List.getElem_cons_zero, List.getElem_cons_succ, List.setIfInBounds_toArray, List.set_cons_zero, List.set_cons_succ])
            refine wpAnyH_take (i := 19) (v := ?va19x16) rfl (by kernel_rfl) (by kernel_rfl) (by kernel_rfl) (fun _ _ _ h => h) (Or.inl ⟨by rfl, ?hy19x16⟩) (by assumption) ?rest19x16
            case hy19x16 => (intro w hSw; (try dsimp only at hSw); go_simp; try with_reducible rfl)
            (try simp only [Act.put, List.getElem_toArray, List.getElem_cons_zero, List.getElem_cons_succ, List.setIfInBounds_toArray, List.set_cons_zero, List.set_cons_succ])
            refine wpAnyH_done (by kernel_rfl) ?_ _
            clear hHeld
            go_wp2_with fail
            go_roundw
            case rel => exact ⟨p + 1, by omega, by go_num, by rw [HE.out]; exact hs2, HO, hb2.out.trans (below_drewN (Below.refl _ _) 1), hq2, hne⟩
            case measure => simp [intOf]; omega
          · obtain ⟨t, rfl⟩ : ∃ t : Nat, z = t := ⟨z.toNat, by omega⟩
            have htn : t < nr := by omega
            have j1 : (t : Int) ≥ 0 := by omega
            have j2 : (t : Int) < (nr : Int) := by omega
            have j3 : (0 : Int) ≤ (t : Int) := by omega
            have qt := cellBelow hb2.out (Nat.le_refl _) (HCK0.out t htn)
            have qk := cellBelow hb2.out (Nat.le_refl _) (HCK0.out k hlt)
            have HTN : Hid (((t : Int)).toNat = t) := rfl
            rw [HTN.out] at HOKN HOKY
            have c0 := R2.out.c0
            clear hz z0
            generalize x.k.getD t 0 = kz at *
            generalize x.k.getD k 0 = kk0 at *
            go_upto_region 11 with fail
            refine wp_region_held_drew (S := (fun w' => w'.cell? ⟨w.heap.size, 0, none⟩ = some (.slice (some ⟨kb, ko, none⟩) nr qa) ∧ w'.cell? ⟨kb, ko + t, none⟩ = some (.int .i64 kz) ∧ w'.cell? ⟨kb, ko + k, none⟩ = some (.int .i64 kk0))) (by kernel_rfl) (⟨c0, qt, qk⟩) (fun hHeld => ?_)
            refine wpAnyH_take (i := 0) (v := ?va0x17) rfl (by kernel_rfl) (by kernel_rfl) (by kernel_rfl) (fun _ _ _ h => h) (Or.inl ⟨by rfl, ?hy0x17⟩) (by assumption) ?rest0x17
            case hy0x17 => (intro w hSw; (try dsimp only at hSw); go_simp; try with_reducible rfl)
            (try simp only [Act.put, List.getElem_toArray, List.getElem_cons_zero, List.setIfInBounds_toArray, List.set_cons_zero, List.set_cons_succ])
            refine wpAnyH_take (i := 1) (v := ?va1x18) rfl (by kernel_rfl) (by kernel_rfl) (by kernel_rfl) (fun _ _ _ h => h) (Or.inl ⟨by rfl, ?hy1x18⟩) (by assumption) ?rest1x18
            case hy1x18 => (intro w hSw; (try dsimp only at hSw); go_simp; try with_reducible rfl)
            (try simp only [Act.put, List.getElem_toArray, List.getElem_cons_zero, List.getElem_cons_succ, List.setIfInBounds_toArray, List.set_cons_zero, List.set_cons_succ])
            refine wpAnyH_take (i := 2) (v := ?va2x19) rfl (by kernel_rfl) (by kernel_rfl) (by kernel_rfl) (fun _ _ _ h => h) (Or.inl ⟨by rfl, ?hy2x19⟩) (by assumption) ?rest2x19
            case hy2x19 => (intro w hSw; (try dsimp only at hSw); go_simp; try with_reducible rfl)
            (try simp only [Act.put, List.getElem_toArray, List.getElem_cons_zero, List.getElem_cons_succ, List.setIfInBounds_toArray, List.set_cons_zero, List.set_cons_succ])
            refine wpAnyH_take (i := 3) (v := ?va3x20) rfl (by kernel_rfl) (by kernel_rfl) (by kernel_rfl) (fun _ _ _ h => h) (Or.inl ⟨by rfl, ?hy3x20⟩) (by assumption) ?rest3x20
            case hy3x20 => (intro w hSw; (try dsimp only at hSw); go_simp; try with_reducible rfl)
            (try simp only [Act.put, List.getElem_toArray, List.getElem_cons_zero, List.getElem_cons_succ, List.setIfInBounds_toArray, List.set_cons_zero, List.set_cons_succ])
            refine wpAnyH_take (i := 4) (v := ?va4x21) rfl (by kernel_rfl) (by kernel_rfl) (by kernel_rfl) (fun _ _ _ h => h) (Or.inl ⟨by rfl, ?hy4x21⟩) (by assumption) ?rest4x21
            case hy4x21 => (intro w hSw; (try dsimp only at hSw); go_simp; try with_reducible rfl)
            (try simp only [Act.put, List.getElem_toArray, List.getElem_cons_zero, List.getElem_cons_succ, List.setIfInBounds_toArray, List.set_cons_zero, List.set_cons_succ])
            refine wpAnyH_ready (rs := [5]) (by kernel_rfl) (by simp) ?_
            refine AllReadyH.cons rfl (fun K hK => ?_) AllReadyH.nil
            go_simp
            refine (s_l1Has _ zs (t : Int) (World.drewN wr 1) hs2.out.ints (by have := HLEN.out; have := HL40.out; omega)).mono ?_
            rintro e w5 ⟨rfl, hb5⟩
            have HS5 := Lib.hid (Own.below (Own.drewN hs2.out 1) hb5)
            have B5 := Lib.hid (bst (below_drewN hb2.out 1) hb5 hb2.out.size)
            have Q5 : Hid (Row w5 gw 3 #[.int .i64 zl, .int .i64 zr]) := Row.below (show Row (World.drewN wr 1) _ _ _ from hq2.out) hb5
            have kk := hHeld
            refine hK.out _ _ (⟨cellBelow hb5 (Nat.le_refl _) kk.1, cellBelow hb5 (Nat.le_refl _) kk.2.1, cellBelow hb5 (Nat.le_refl _) kk.2.2⟩) (fun hHeld => ?_)
            clear hK K
            (try simp only [Act.put, List.getElem_toArray, List.getElem_cons_zero, List.getElem_cons_succ, List.setIfInBounds_toArray, List.set_cons_zero, List.set_cons_succ])
            clear hb5 kk
            generalize hcb : zs.contains (t : Int) = cb at *
            have HCB := Lib.hid hcb; clear hcb
            cases cb
            case true =>
              refine wpAnyH_take (i := 6) (v := ?va6x22) rfl (by kernel_rfl) (by kernel_rfl) (by kernel_rfl) (fun _ _ _ h => h) (Or.inl ⟨by rfl, ?hy6x22⟩) (by assumption) ?rest6x22
              case hy6x22 => (intro w hSw; (try dsimp only at hSw); go_simp; try with_reducible rfl)
              (try simp only [Act.put, List.getElem_toArray, List.getElem_cons_zero, List.getElem_cons_succ, List.setIfInBounds_toArray, List.set_cons_zero, List.set_cons_succ])
              refine wpAnyH_take (i := 7) (v := undef) rfl (by kernel_rfl) (by kernel_rfl) (by kernel_rfl) (fun _ _ _ h => h) (Or.inr ⟨by rfl, rfl⟩) (by assumption) ?_
              (try simp only [Act.put, List.getElem_toArray, List.getElem_cons_zero, List.getElem_cons_succ, List.setIfInBounds_toArray, List.set_cons_zero, List.set_cons_succ])
              refine wpAnyH_take (i := 8) (v := undef) rfl (by kernel_rfl) (by kernel_rfl) (by kernel_rfl) (fun _ _ _ h => h) (Or.inr ⟨by rfl, rfl⟩) (by assumption) ?_
              (try simp only [Act.put, List.getElem_toArray, List.getElem_cons_zero, List.getElem_cons_succ, List.setIfInBounds_toArray, List.set_cons_zero, List.set_cons_succ])
              refine wpAnyH_take (i := 9) (v := undef) rfl (by kernel_rfl) (by kernel_rfl) (by kernel_rfl) (fun _ _ _ h => h) (Or.inr ⟨by rfl, rfl⟩) (by assumption) ?_
              (try simp only [Act.put, List.getElem_toArray, List.getElem_cons_zero, List.getElem_cons_succ, List.setIfInBounds_toArray, List.set_cons_zero, List.set_cons_succ])
              refine wpAnyH_take (i := 10) (v := undef) rfl (by kernel_rfl) (by kernel_rfl) (by kernel_rfl) (fun _ _ _ h => h) (Or.inr ⟨by rfl, rfl⟩) (by assumption) ?_
              (try simp only [Act.put, List.getElem_toArray, List.getElem_cons_zero, List.getElem_cons_succ, List.setIfInBounds_toArray, List.set_cons_zero, List.set_cons_succ])
              refine wpAnyH_take (i := 11) (v := undef) rfl (by kernel_rfl) (by kernel_rfl) (by kernel_rfl) (fun _ _ _ h => h) (Or.inr ⟨by rfl, rfl⟩) (by assumption) ?_
              (try simp only [Act.put, List.getElem_toArray, List.getElem_cons_zero, List.getElem_cons_succ, List.setIfInBounds_toArray, List.set_cons_zero, List.set_cons_succ])
              refine wpAnyH_take (i := 12) (v := undef) rfl (by kernel_rfl) (by kernel_rfl) (by kernel_rfl) (fun _ _ _ h => h) (Or.inr ⟨by rfl, rfl⟩) (by assumption) ?_
              (try simp only [Act.put, List.getElem_toArray, List.getElem_cons_zero, List.getElem_cons_succ, List.setIfInBounds_toArray, List.set_cons_zero, List.set_cons_succ])
              refine wpAnyH_take (i := 13) (v := undef) rfl (by kernel_rfl) (by kernel_rfl) (by kernel_rfl) (fun _ _ _ h => h) (Or.inr ⟨by rfl, rfl⟩) (by assumption) ?_
              (try simp only [Act.put, List.getElem_toArray, List.getElem_cons_zero, List.getElem_cons_succ, List.setIfInBounds_toArray, List.set_cons_zero, List.set_cons_succ])
              refine wpAnyH_take (i := 14) (v := undef) rfl (by kernel_rfl) (by kernel_rfl) (by kernel_rfl) (fun _ _ _ h => h) (Or.inr ⟨by rfl, rfl⟩) (by assumption) ?_
              (try simp only [Act.put, List.getElem_toArray, List.getElem_cons_zero, List.getElem_cons_succ, List.setIfInBounds_toArray, List.set_cons_zero, List.set_cons_succ])
              refine wpAnyH_take (i := 15) (v := undef) rfl (by kernel_rfl) (by kernel_rfl) (by kernel_rfl) (fun _ _ _ h => h) (Or.inr ⟨by rfl, rfl⟩) (by assumption) ?_
              (try simp only [Act.put, List.getElem_toArray, List.getElem_cons_zero, List.getElem_cons_succ, List.setIfInBounds_toArray, List.set_cons_zero, List.set_cons_succ])
              refine wpAnyH_take (i := 16) (v := undef) rfl (by kernel_rfl) (by kernel_rfl) (by kernel_rfl) (fun _ _ _ h => h) (Or.inr ⟨by rfl, rfl⟩) (by assumption) ?_
              (try simp only [Act.put, List.getElem_toArray, List.getElem_cons_zero, List.getElem_cons_succ, List.setIfInBounds_toArray, List.set_cons_zero, List.set_cons_succ])
              refine wpAnyH_take (i := 17) (v := undef) rfl (by kernel_rfl) (by kernel_rfl) (by kernel_rfl) (fun _ _ _ h => h) (Or.inr ⟨by rfl, rfl⟩) (by assumption) ?_
              (try simp only [Act.put, List.getElem_toArray, List.getElem_cons_zero, List.getElem_cons_succ, List.setIfInBounds_toArray, List.set_cons_zero, List.set_cons_succ])
              refine wpAnyH_take (i := 18) (v := ?va18x23) rfl (by kernel_rfl) (by kernel_rfl) (by kernel_rfl) (fun _ _ _ h => h) (Or.inl ⟨by rfl, ?hy18x23⟩) (by assumption) ?rest18x23
              case hy18x23 => (intro w hSw; (try dsimp only at hSw); go_simp; try with_reducible rfl)
              (try simp only [Act.put, List.getElem_toArray, List.getElem_cons_zero, List.getElem_cons_succ, List.setIfInBounds_toArray, List.set_cons_zero, List.set_cons_succ])
              refine wpAnyH_take (i := 19) (v := ?va19x24) rfl (by kernel_rfl) (by kernel_rfl) (by kernel_rfl) (fun _ _ _ h => h) (Or.inl ⟨by rfl, ?hy19x24⟩) (by assumption) ?rest19x24
              case hy19x24 => (intro w hSw; (try dsimp only at hSw); go_simp; try with_reducible rfl)
              (try simp only [Act.put, List.getElem_toArray, List.getElem_cons_zero, List.getElem_cons_succ, List.setIfInBounds_toArray, List.set_cons_zero, List.set_cons_succ])
              refine wpAnyH_done (by kernel_rfl) ?_ _
              clear hHeld
              have HE : Hid (gb = false) := HNO.out (fun g => HOKN.out (by omega) (.inl (by first | rfl | exact HCB.out)) (((good_iff g.s).1 g).1 _ HQL.out))
              go_wp2_with fail
              go_ret
              exact ⟨r_b HE.out.symm, bst B0.out B5.out B0.out.size⟩
            case false =>
              refine wpAnyH_take (i := 6) (v := ?va6x25) rfl (by kernel_rfl) (by kernel_rfl) (by kernel_rfl) (fun _ _ _ h => h) (Or.inl ⟨by rfl, ?hy6x25⟩) (by assumption) ?rest6x25
              case hy6x25 => (intro w hSw; (try dsimp only at hSw); go_simp; try with_reducible rfl)
              (try simp only [Act.put, List.getElem_toArray, List.getElem_cons_zero, List.getElem_cons_succ, List.setIfInBounds_toArray, List.set_cons_zero, List.set_cons_succ])
              refine wpAnyH_take (i := 7) (v := ?va7x26) rfl (by kernel_rfl) (by kernel_rfl) (by kernel_rfl) (fun _ _ _ h => h) (Or.inl ⟨by rfl, ?hy7x26⟩) (by assumption) ?rest7x26
              case hy7x26 => (intro w hSw; (try dsimp only at hSw); go_simp; try with_reducible rfl)
              (try simp only [Act.put, List.getElem_toArray, List.getElem_cons_zero, List.getElem_cons_succ, List.setIfInBounds_toArray, List.set_cons_zero, List.set_cons_succ])
              refine wpAnyH_take (i := 8) (v := ?va8x27) rfl (by kernel_rfl) (by kernel_rfl) (by kernel_rfl) (fun _ _ _ h => h) (Or.inl ⟨by rfl, ?hy8x27⟩) (by assumption) ?rest8x27
              case hy8x27 => (intro w hSw; (try dsimp only at hSw); go_simp; try with_reducible rfl)
              (try simp only [Act.put, List.getElem_toArray, List.getElem_cons_zero, List.getElem_cons_succ, List.setIfInBounds_toArray, List.set_cons_zero, List.set_cons_succ])
              refine wpAnyH_take (i := 9) (v := ?va9x28) rfl (by kernel_rfl) (by kernel_rfl) (by kernel_rfl) (fun _ _ _ h => h) (Or.inl ⟨by rfl, ?hy9x28⟩) (by assumption) ?rest9x28
              case hy9x28 => (intro w hSw; (try dsimp only at hSw); go_simp; try with_reducible rfl)
              (try simp only [Act.put, List.getElem_toArray, List.getElem_cons_zero, List.getElem_cons_succ, List.setIfInBounds_toArray, List.set_cons_zero, List.set_cons_succ])
              refine wpAnyH_take (i := 10) (v := ?va10x29) rfl (by kernel_rfl) (by kernel_rfl) (by kernel_rfl) (fun _ _ _ h => h) (Or.inl ⟨by rfl, ?hy10x29⟩) (by assumption) ?rest10x29
              case hy10x29 => (intro w hSw; (try dsimp only at hSw); go_simp; try with_reducible rfl)
              (try simp only [Act.put, List.getElem_toArray, List.getElem_cons_zero, List.getElem_cons_succ, List.setIfInBounds_toArray, List.set_cons_zero, List.set_cons_succ])
              refine wpAnyH_take (i := 11) (v := ?va11x30) rfl (by kernel_rfl) (by kernel_rfl) (by kernel_rfl) (fun _ _ _ h => h) (Or.inl ⟨by rfl, ?hy11x30⟩) (by assumption) ?rest11x30
              case hy11x30 => (intro w hSw; (try dsimp only at hSw); go_simp; try with_reducible rfl)
              (try simp only [Act.put, List.getElem_toArray, List.getElem_cons_zero, List.getElem_cons_succ, List.setIfInBounds_toArray, List.set_cons_zero, List.set_cons_succ])
              refine wpAnyH_take (i := 12) (v := ?va12x31) rfl (by kernel_rfl) (by kernel_rfl) (by kernel_rfl) (fun _ _ _ h => h) (Or.inl ⟨by rfl, ?hy12x31⟩) (by assumption) ?rest12x31
              case hy12x31 => (intro w hSw; (try dsimp only at hSw); go_simp; try with_reducible rfl)
              (try simp only [Act.put, List.getElem_toArray, List.getElem_cons_zero, List.getElem_cons_succ, List.setIfInBounds_toArray, List.set_cons_zero, List.set_cons_succ])
              refine wpAnyH_take (i := 13) (v := ?va13x32) rfl (by kernel_rfl) (by kernel_rfl) (by kernel_rfl) (fun _ _ _ h => h) (Or.inl ⟨by rfl, ?hy13x32⟩) (by assumption) ?rest13x32
              case hy13x32 => (intro w hSw; (try dsimp only at hSw); go_simp; try with_reducible rfl)
              (try simp only [Act.put, List.getElem_toArray, List.getElem_cons_zero, List.getElem_cons_succ, List.setIfInBounds_toArray, List.set_cons_zero, List.set_cons_succ])
              refine wpAnyH_take (i := 14) (v := ?va14x33) rfl (by kernel_rfl) (by kernel_rfl) (by kernel_rfl) (fun _ _ _ h => h) (Or.inl ⟨by rfl, ?hy14x33⟩) (by assumption) ?rest14x33
              case hy14x33 => (intro w hSw; (try dsimp only at hSw); go_simp; try with_reducible rfl)
              (try simp only [Act.put, List.getElem_toArray, List.getElem_cons_zero, List.getElem_cons_succ, List.setIfInBounds_toArray, List.set_cons_zero, List.set_cons_succ])
              refine wpAnyH_take (i := 15) (v := ?va15x34) rfl (by kernel_rfl) (by kernel_rfl) (by kernel_rfl) (fun _ _ _ h => h) (Or.inl ⟨by rfl, ?hy15x34⟩) (by assumption) ?rest15x34
              case hy15x34 => (intro w hSw; (try dsimp only at hSw); go_simp; try with_reducible rfl)
              (try simp only [Act.put, List.getElem_toArray, List.getElem_cons_zero, List.getElem_cons_succ, List.setIfInBounds_toArray, List.set_cons_zero, List.set_cons_succ])
              refine wpAnyH_take (i := 16) (v := ?va16x35) rfl (by kernel_rfl) (by kernel_rfl) (by kernel_rfl) (fun _ _ _ h => h) (Or.inl ⟨by rfl, ?hy16x35⟩) (by assumption) ?rest16x35
              case hy16x35 => (intro w hSw; (try dsimp only at hSw); go_simp; try with_reducible rfl)
              (try simp only [Act.put, List.getElem_toArray, List.getElem_cons_zero, List.getElem_cons_succ, List.setIfInBounds_toArray, List.set_cons_zero, List.set_cons_succ])
              refine wpAnyH_take (i := 17) (v := ?va17x36) rfl (by kernel_rfl) (by kernel_rfl) (by kernel_rfl) (fun _ _ _ h => h) (Or.inl ⟨by rfl, ?hy17x36⟩) (by assumption) ?rest17x36
              case hy17x36 => (intro w hSw; (try dsimp only at hSw); go_simp; try with_reducible rfl)
              (try simp only [Act.put, List.getElem_toArray, List.getElem_cons_zero, List.getElem_cons_succ, List.setIfInBounds_toArray, List.set_cons_zero, List.set_cons_succ])
              refine wpAnyH_take (i := 18) (v := ?va18x37) rfl (by kernel_rfl) (by kernel_rfl) (by kernel_rfl) (fun _ _ _ h => h) (Or.inl ⟨by rfl, ?hy18x37⟩) (by assumption) ?rest18x37
              case hy18x37 => (intro w hSw; (try dsimp only at hSw); go_simp; try with_reducible rfl)
              (try simp only [Act.put, List.getElem_toArray, List.getElem_cons_zero, List.getElem_cons_succ, List.setIfInBounds_toArray, List.set_cons_zero, List.set_cons_succ])
              refine wpAnyH_take (i := 19) (v := ?va19x38) rfl (by kernel_rfl) (by kernel_rfl) (by kernel_rfl) (fun _ _ _ h => h) (Or.inl ⟨by rfl, ?hy19x38⟩) (by assumption) ?rest19x38
              case hy19x38 => (intro w hSw; (try dsimp only at hSw); go_simp; try with_reducible rfl)
              (try simp only [Act.put, List.getElem_toArray, List.getElem_cons_zero, List.getElem_cons_succ, List.setIfInBounds_toArray, List.set_cons_zero, List.set_cons_succ])
              refine wpAnyH_done (by kernel_rfl) ?_ _
              clear hHeld
              by_cases hkk : kz < kk0
              · have HE : Hid (gb = false) := HNO.out (fun g => HOKN.out (by omega) (.inr hkk) (((good_iff g.s).1 g).1 _ HQL.out))
                go_wp2_with fail
                go_ret
                exact ⟨r_b HE.out.symm, bst B0.out B5.out B0.out.size⟩
              · have HE : Hid (nm x (2 * k + (p + 1)) = zs ++ [(t : Int)]) := by unfold Hid; rw [HPS.out]; exact HNMY.out (by omega)
                have HO : Hid (∀ q, q < 2 * k + (p + 1) → OkAt x q) := by unfold Hid; rw [HPS.out]; exact HOS.out (HOKY.out (fun _ => ⟨(by first | rfl | exact HCB.out), hkk⟩))
                have HS := Lib.hid (src_int w5 (t : Int))
                have ba := below1 w5 (.cells #[.int .i64 (t : Int)] 3)
                have HO1 := Lib.hid (HS5.out.below ba)
                have HB1 := Lib.hid (bst B5.out ba B5.out.size)
                have Q6 : Hid (Row (w5.alloc (.cells #[.int .i64 (t : Int)] 3)) gw 3 #[.int .i64 zl, .int .i64 zr]) := Row.below Q5.out ba
                have LT6 : Hid (gw < (w5.alloc (.cells #[.int .i64 (t : Int)] 3)).heap.size) := Row.lt Q6.out
                clear ba
                go_wp2_with (at_builtin; refine wl_appOwn _ rfl _ _ 22 rfl w0.heap.size 3 i0 (.int .i64 0) 8 Try.underlying22 hi hz0 hz1 hz2 rfl u4 _ _ rfl HO1.out _ _ rfl HS.out (by have := HLEN.out; have := HL40.out; simp; unfold maxLen; omega) (by have := HLEN.out; have := HL40.out; simp; omega) HB1.out.size ?_; intro v7 x7 ho7 hg7 hbl; have O7 : Hid (Own x7 w0.heap.size v7 (zs ++ [(t : Int)])) := by { unfold Hid Own; rw [List.map_append, List.length_append]; exact ho7 }; have B7 := Lib.hid (HB1.out.grown hg7 HB1.out.size (fun g' hg' => (owns_lt HO1.out hg').1)); have Q7 : Hid (Row x7 gw 3 #[.int .i64 zl, .int .i64 zr]) := Row.grownBy Q6.out hg7 (fun e => hne.out _ e rfl); have NE7 : Hid (∀ g, v7.ownBlock = some g → g ≠ gw) := fun g hg e => by { rcases hbl with q | q; exact hne.out g (by rw [← q]; exact hg) e; rw [q] at hg; cases hg; have := LT6.out; omega }; clear ho7 hg7 hbl)
                go_roundw
                case rel => exact ⟨p + 1, by omega, by go_num, by rw [HE.out]; exact O7, HO, B7, Q7, NE7⟩
                case measure => simp [intOf]; omega
        · obtain rfl : p = 2 := by omega
          go_wp2_with fail
          go_roundw
          case rel => exact ⟨k + 1, by omega, by go_num, by rw [show 2 * (k + 1) = 2 * k + 2 by omega]; exact hs2, by rw [show 2 * (k + 1) = 2 * k + 2 by omega]; exact hok2, hb2⟩
          case measure => simp [intOf]; omega
    · obtain rfl : k = nr := by omega
      have c3' := R1.out.c3
      have HLEN := Lib.hid (nm_len x (2 * k))
      have HGI := Lib.hid (good_iff SHP.out)
      rw [HNK.out, HTT.out] at HGI
      go_wp2_with fail
      refine (s_l1Has _ (nm x (2 * k)) tt _ hs.out.ints (by have := HLEN.out; omega)).mono ?_
      rintro e w5 ⟨rfl, hb5⟩
      have BW5 := Lib.hid (bst hb.out hb5 hb.out.size)
      have R5 : Hid (RowTr w5 _ _ _ _ _) := RowTr.below R0.out BW5.out
      have A5 := Lib.hid (A0.out.below BW5.out)
      clear hb5 c3'
      generalize hcb : (nm x (2 * k)).contains tt = cb at *
      have HCB := Lib.hid hcb; clear hcb
      cases cb
      case true =>
        have HE : Hid (gb = false) := HNO.out (fun g => by have := ((HGI.out).1 g).2.1; first | (cases this; done) | (rw [HCB.out] at this; cases this))
        go_wp2_with fail
        go_ret
        exact ⟨r_b HE.out.symm, bst B0.out BW5.out B0.out.size⟩
      case false =>
        have c0 := R5.out.c0
        have c1 := R5.out.c1
        have c2 := R5.out.c2
        have c3' := R5.out.c3
        have CR := s_l11Reach (.slice pa k qa) (.slice pb k qb) (.slice pc k qc) x SHP.out (k + 1) tt 0 0 w5 (by rw [HNK.out]; omega) rfl A5.out (by rw [HNK.out]; exact HT4.out)
        rw [HTT.out] at CR
        have HCR := Lib.hid CR
        clear CR
        go_wp2_with fail
        refine HCR.out.mono ?_
        clear HCR
        rintro e w6 ⟨n, rfl, -, hn, hb6⟩
        have BW6 := Lib.hid (bst BW5.out hb6 BW5.out.size)
        clear hb6 c0 c1 c2 c3'
        have HKK : Hid (k = x.k.length) := HNK.out.symm
        by_cases hnk : ¬ n = k
        · have HE : Hid (gb = false) := HNO.out (fun g => by
            have h3 := ((HGI.out).1 g).2.2.1
            have := (hn k (by rw [HNK.out]; omega)).2 (by have q := h3; rw [HTT.out] at *; exact q)
            exact hnk this)
          have j1 : ((n : Int) != (k : Int)) = true := by rw [bne_iff_ne]; omega
          go_wp2_with fail
          go_ret
          exact ⟨r_b HE.out.symm, bst B0.out BW6.out B0.out.size⟩
        · obtain rfl : n = k := by omega
          have j1 : ((n : Int) != (n : Int)) = false := by simp
          have h3 := (hn n (by rw [HNK.out]; omega)).1 rfl
          have hio := inj_okAt.2 hok.out
          have HIT : Hid (IsT x) := (isT_iff SHP.out.l).2 (by rw [HNK.out, HTT.out]; exact ⟨hio.1, noCh_iff.2 HCB.out, h3⟩)
          have R6 : Hid (RowTr w6 _ _ _ _ _) := RowTr.below R0.out BW6.out
          have HYS : Hid ((∀ i, i < n → LeanAt x i) → gb = true) := fun h => HYES.out ((HGI.out).2 ⟨hok.out, (by first | exact HCB.out | rfl | trivial), h3, h⟩)
          clear hn hnk h3 hio
          have c0 := R6.out.c0
          go_wp2_with fail
          clear c0
          go_loopw [131] (fun i wr => ∃ j : Nat, j ≤ n ∧ i = .int .i64 j ∧ Hid (∀ i, i < j → LeanAt x i) ∧ Hid (Below w0.heap.size w0 wr)) (fun i _ => n - (intOf i).toNat)
          case atStart => exact ⟨0, Nat.zero_le _, rfl, fun i hi => by omega, BW6⟩
          case round =>
            clear BW6 R6
            obtain ⟨j, hj, rfl, hln, hb7⟩ := hrel
            have BW7 := Lib.hid (B0.out.trans (hb7.out.mono B0.out.size))
            by_cases hjl : j < n
            · have R7 : Hid (RowTr wr _ _ _ _ _) := RowTr.below R0.out hb7.out
              have A7 := Lib.hid (A0.out.below hb7.out)
              obtain ⟨lb, lo, rfl, hcl⟩ := IntsAt.at' A7.out.l (by omega)
              obtain ⟨rb, ro, rfl, hcr⟩ := IntsAt.at' A7.out.r (by omega)
              obtain ⟨ta, tb, _, ra, rb', hsz⟩ := IsT.at SHP.out.l HIT.out (i := j) (by rw [HNK.out]; exact hjl)
              have HLI := Lib.hid (lean_iff ra rb')
              have CRK : Hid (∀ (w : World) (z : Int) (bt : BT), TreeAt w (.slice pa n qa) (.slice (some ⟨lb, lo, none⟩) n qb) (.slice (some ⟨rb, ro, none⟩) n qc) x → Rep x.l x.r z bt → bt.sz ≤ 1000 → Calls Try.prog 80 #[tv (.slice pa n qa) (.slice (some ⟨lb, lo, none⟩) n qb) (.slice (some ⟨rb, ro, none⟩) n qc) tt, .int .i64 z] w fun e w' => e = .returned (.int .i64 (bt.rk : Nat)) ∧ Below w.heap.size w w') := fun w z bt h1 h2 h3 => by have := s_l11Rank _ _ _ x bt z w h1 h2 h3; rwa [HTT.out] at this
              have RA := Lib.hid ra; have RB := Lib.hid rb'
              have HSA : Hid (ta.sz ≤ 1000 ∧ tb.sz ≤ 1000) := by unfold Hid; have := HN20.out; rw [HNK.out] at hsz; omega
              have ql := hcl j hjl
              have qr := hcr j hjl
              have c0 := R7.out.c0
              have c1 := R7.out.c1
              have c2 := R7.out.c2
              have c3' := R7.out.c3
              have i3 : (j : Int) < (n : Int) := by omega
              have i4 : (0 : Int) ≤ (j : Int) := by omega
              clear hcl hcr ra rb' hsz
              generalize x.l.getD j 0 = zl at *
              generalize x.r.getD j 0 = zr at *
              go_upto_region 22 with fail
              refine wp_region_held_drew (S := (fun w' => w'.cell? ⟨w.heap.size, 0, none⟩ = some (.slice pa n qa) ∧ w'.cell? ⟨w.heap.size, 1, none⟩ = some (.slice (some ⟨lb, lo, none⟩) n qb) ∧ w'.cell? ⟨w.heap.size, 2, none⟩ = some (.slice (some ⟨rb, ro, none⟩) n qc) ∧ w'.cell? ⟨w.heap.size, 3, none⟩ = some (.int .i64 tt) ∧ w'.cell? ⟨lb, lo + j, none⟩ = some (.int .i64 zl) ∧ w'.cell? ⟨rb, ro + j, none⟩ = some (.int .i64 zr))) (by kernel_rfl) (⟨c0, c1, c2, c3', ql, qr⟩) (fun hHeld => ?_)
              refine wpAnyH_take (i := 0) (v := ?va0x39) rfl (by kernel_rfl) (by kernel_rfl) (by kernel_rfl) (fun _ _ _ h => h) (Or.inl ⟨by rfl, ?hy0x39⟩) (by assumption) ?rest0x39
              case hy0x39 => (intro w hSw; (try dsimp only at hSw); go_simp; try with_reducible rfl)
              (try simp only [Act.put, List.getElem_toArray, List.getElem_cons_zero, List.setIfInBounds_toArray, List.set_cons_zero, List.set_cons_succ])
              refine wpAnyH_take (i := 1) (v := ?va1x40) rfl (by kernel_rfl) (by kernel_rfl) (by kernel_rfl) (fun _ _ _ h => h) (Or.inl ⟨by rfl, ?hy1x40⟩) (by assumption) ?rest1x40
              case hy1x40 => (intro w hSw; (try dsimp only at hSw); go_simp; try with_reducible rfl)
              (try simp only [Act.put, List.getElem_toArray, List.getElem_cons_zero, List.getElem_cons_succ, List.setIfInBounds_toArray, List.set_cons_zero, List.set_cons_succ])
              refine wpAnyH_take (i := 2) (v := ?va2x41) rfl (by kernel_rfl) (by kernel_rfl) (by kernel_rfl) (fun _ _ _ h => h) (Or.inl ⟨by rfl, ?hy2x41⟩) (by assumption) ?rest2x41
              case hy2x41 => (intro w hSw; (try dsimp only at hSw); go_simp; try with_reducible rfl)
              (try simp only [Act.put, List.getElem_toArray, List.getElem_cons_zero, List.getElem_cons_succ, List.setIfInBounds_toArray, List.set_cons_zero, List.set_cons_succ])
              refine wpAnyH_take (i := 3) (v := ?va3x42) rfl (by kernel_rfl) (by kernel_rfl) (by kernel_rfl) (fun _ _ _ h => h) (Or.inl ⟨by rfl, ?hy3x42⟩) (by assumption) ?rest3x42
              case hy3x42 => (intro w hSw; (try dsimp only at hSw); go_simp; try with_reducible rfl)
              (try simp only [Act.put, List.getElem_toArray, List.getElem_cons_zero, List.getElem_cons_succ, List.setIfInBounds_toArray, List.set_cons_zero, List.set_cons_succ])
              refine wpAnyH_take (i := 4) (v := ?va4x43) rfl (by kernel_rfl) (by kernel_rfl) (by kernel_rfl) (fun _ _ _ h => h) (Or.inl ⟨by rfl, ?hy4x43⟩) (by assumption) ?rest4x43
              case hy4x43 => (intro w hSw; (try dsimp only at hSw); go_simp; try with_reducible rfl)
              (try simp only [Act.put, List.getElem_toArray, List.getElem_cons_zero, List.getElem_cons_succ, List.setIfInBounds_toArray, List.set_cons_zero, List.set_cons_succ])
              refine wpAnyH_take (i := 5) (v := ?va5x44) rfl (by kernel_rfl) (by kernel_rfl) (by kernel_rfl) (fun _ _ _ h => h) (Or.inl ⟨by rfl, ?hy5x44⟩) (by assumption) ?rest5x44
              case hy5x44 => (intro w hSw; (try dsimp only at hSw); go_simp; try with_reducible rfl)
              (try simp only [Act.put, List.getElem_toArray, List.getElem_cons_zero, List.getElem_cons_succ, List.setIfInBounds_toArray, List.set_cons_zero, List.set_cons_succ])
              refine wpAnyH_take (i := 7) (v := ?va7x45) rfl (by kernel_rfl) (by kernel_rfl) (by kernel_rfl) (fun _ _ _ h => h) (Or.inl ⟨by rfl, ?hy7x45⟩) (by assumption) ?rest7x45
              case hy7x45 => (intro w hSw; (try dsimp only at hSw); go_simp; try with_reducible rfl)
              (try simp only [Act.put, List.getElem_toArray, List.getElem_cons_zero, List.getElem_cons_succ, List.setIfInBounds_toArray, List.set_cons_zero, List.set_cons_succ])
              refine wpAnyH_take (i := 8) (v := ?va8x46) rfl (by kernel_rfl) (by kernel_rfl) (by kernel_rfl) (fun _ _ _ h => h) (Or.inl ⟨by rfl, ?hy8x46⟩) (by assumption) ?rest8x46
              case hy8x46 => (intro w hSw; (try dsimp only at hSw); go_simp; try with_reducible rfl)
              (try simp only [Act.put, List.getElem_toArray, List.getElem_cons_zero, List.getElem_cons_succ, List.setIfInBounds_toArray, List.set_cons_zero, List.set_cons_succ])
              refine wpAnyH_take (i := 9) (v := ?va9x47) rfl (by kernel_rfl) (by kernel_rfl) (by kernel_rfl) (fun _ _ _ h => h) (Or.inl ⟨by rfl, ?hy9x47⟩) (by assumption) ?rest9x47
              case hy9x47 => (intro w hSw; (try dsimp only at hSw); go_simp; try with_reducible rfl)
              (try simp only [Act.put, List.getElem_toArray, List.getElem_cons_zero, List.getElem_cons_succ, List.setIfInBounds_toArray, List.set_cons_zero, List.set_cons_succ])
              refine wpAnyH_take (i := 10) (v := ?va10x48) rfl (by kernel_rfl) (by kernel_rfl) (by kernel_rfl) (fun _ _ _ h => h) (Or.inl ⟨by rfl, ?hy10x48⟩) (by assumption) ?rest10x48
              case hy10x48 => (intro w hSw; (try dsimp only at hSw); go_simp; try with_reducible rfl)
              (try simp only [Act.put, List.getElem_toArray, List.getElem_cons_zero, List.getElem_cons_succ, List.setIfInBounds_toArray, List.set_cons_zero, List.set_cons_succ])
              refine wpAnyH_take (i := 11) (v := ?va11x49) rfl (by kernel_rfl) (by kernel_rfl) (by kernel_rfl) (fun _ _ _ h => h) (Or.inl ⟨by rfl, ?hy11x49⟩) (by assumption) ?rest11x49
              case hy11x49 => (intro w hSw; (try dsimp only at hSw); go_simp; try with_reducible rfl)
              (try simp only [Act.put, List.getElem_toArray, List.getElem_cons_zero, List.getElem_cons_succ, List.setIfInBounds_toArray, List.set_cons_zero, List.set_cons_succ])
              refine wpAnyH_take (i := 12) (v := ?va12x50) rfl (by kernel_rfl) (by kernel_rfl) (by kernel_rfl) (fun _ _ _ h => h) (Or.inl ⟨by rfl, ?hy12x50⟩) (by assumption) ?rest12x50
              case hy12x50 => (intro w hSw; (try dsimp only at hSw); go_simp; try with_reducible rfl)
              (try simp only [Act.put, List.getElem_toArray, List.getElem_cons_zero, List.getElem_cons_succ, List.setIfInBounds_toArray, List.set_cons_zero, List.set_cons_succ])
              refine wpAnyH_ready (rs := [6]) (by kernel_rfl) (by simp) ?_
              refine AllReadyH.cons rfl (fun K hK => ?_) AllReadyH.nil
              go_simp
              refine (CRK.out (World.drewN wr 1) zl ta (A7.out.below (below_drewN (Below.refl _ _) 1)) RA.out HSA.out.1).mono ?_
              rintro e w8 ⟨rfl, hb8⟩
              have BW8 := Lib.hid (bst (below_drewN hb7.out 1) hb8 hb7.out.size)
              have A8 := Lib.hid (A0.out.below BW8.out)
              have kk := hHeld
              refine hK.out _ _ (⟨cellBelow hb8 (Nat.le_refl _) kk.1, cellBelow hb8 (Nat.le_refl _) kk.2.1, cellBelow hb8 (Nat.le_refl _) kk.2.2.1, cellBelow hb8 (Nat.le_refl _) kk.2.2.2.1, cellBelow hb8 (Nat.le_refl _) kk.2.2.2.2.1, cellBelow hb8 (Nat.le_refl _) kk.2.2.2.2.2⟩) (fun hHeld => ?_)
              clear hK K hb8
              (try simp only [Act.put, List.getElem_toArray, List.getElem_cons_zero, List.getElem_cons_succ, List.setIfInBounds_toArray, List.set_cons_zero, List.set_cons_succ])
              refine wpAnyH_ready (rs := [13]) (by kernel_rfl) (by simp) ?_
              refine AllReadyH.cons rfl (fun K hK => ?_) AllReadyH.nil
              go_simp
              refine (CRK.out _ zr tb A8.out RB.out HSA.out.2).mono ?_
              rintro e w9 ⟨rfl, hb9⟩
              have BW9 := Lib.hid (bst BW8.out hb9 BW8.out.size)
              replace kk := hHeld
              refine hK.out _ _ (⟨cellBelow hb9 (Nat.le_refl _) kk.1, cellBelow hb9 (Nat.le_refl _) kk.2.1, cellBelow hb9 (Nat.le_refl _) kk.2.2.1, cellBelow hb9 (Nat.le_refl _) kk.2.2.2.1, cellBelow hb9 (Nat.le_refl _) kk.2.2.2.2.1, cellBelow hb9 (Nat.le_refl _) kk.2.2.2.2.2⟩) (fun hHeld => ?_)
              clear hK K hb9
              (try simp only [Act.put, List.getElem_toArray, List.getElem_cons_zero, List.getElem_cons_succ, List.setIfInBounds_toArray, List.set_cons_zero, List.set_cons_succ])
              refine wpAnyH_take (i := 14) (v := ?va14x51) rfl (by kernel_rfl) (by kernel_rfl) (by kernel_rfl) (fun _ _ _ h => h) (Or.inl ⟨by rfl, ?hy14x51⟩) (by assumption) ?rest14x51
              case hy14x51 => (intro w hSw; (try dsimp only at hSw); go_simp; try with_reducible rfl)
              (try simp only [Act.put, List.getElem_toArray, List.getElem_cons_zero, List.getElem_cons_succ, List.setIfInBounds_toArray, List.set_cons_zero, List.set_cons_succ])
              refine wpAnyH_done (by kernel_rfl) ?_ _
              clear hHeld kk c0 c1 c2 c3' ql qr
              by_cases hrk : ta.rk < tb.rk
              · have j2 : (ta.rk : Int) < (tb.rk : Int) := by omega
                have HE : Hid (gb = false) := HNO.out (fun g => HLI.out.1 (((HGI.out).1 g).2.2.2 j hjl) hrk)
                go_wp2_with fail
                go_ret
                exact ⟨r_b HE.out.symm, bst B0.out BW9.out B0.out.size⟩
              · have j2 : ¬ (ta.rk : Int) < (tb.rk : Int) := by omega
                have HLN : Hid (∀ i, i < j + 1 → LeanAt x i) := fun i hi => by
                  by_cases e : i = j
                  · subst e; exact HLI.out.2 hrk
                  · exact hln.out i (by omega)
                go_wp2_with fail
                go_roundw
                case rel => exact ⟨j + 1, by omega, by go_num, HLN, BW9⟩
                case measure => simp [intOf]; omega
            · obtain rfl : j = n := by omega
              have HE : Hid (gb = true) := HYS.out hln.out
              go_wp2_with fail
              go_ret
              exact ⟨r_b HE.out.symm, BW7.out⟩
end Go.Proofs.Ytejaebmbhcgngaa
namespace Go.Proofs.Ytejaebmbhcgngaa
open Go.RowKit Ph Tr
/-- The rank, counted with fuel. -/
def rkF (r : List Int) : Nat → Int → Nat
  | 0, _ => 0
  | f + 1, z => if z < 0 then 0 else rkF r f (r.getD z.toNat 0) + 1
theorem rkF_rep {l r : List Int} {bt : BT} : ∀ {z : Int} {f : Nat}, Rep l r z bt → bt.rk ≤ f → rkF r f z = bt.rk := by
  induction bt with
  | nil =>
    intro z f h _
    have h1 : z = -1 := h
    cases f with
    | zero => rfl
    | succ f => rw [rkF, if_pos (by omega)]; rfl
  | node i a b iha ihb =>
    intro z f h hf
    obtain ⟨h1, _, _, _, h5⟩ := h
    cases f with
    | zero => simp [BT.rk] at hf
    | succ f =>
      rw [rkF, if_neg (by omega), h1, Int.toNat_natCast, ihb h5 (by simp only [BT.rk] at hf; omega)]; rfl
noncomputable def inT (x : T) (k : Int) : Bool := goodB x && (decide (0 ≤ k) && decide (k ≤ (x.k.length : Int) - 1))
noncomputable def rankT (x : T) (k : Int) : Int := if inT x k = true then (rkF x.r 20 k : Nat) else 0
theorem inT_no {x : T} {k : Int} (h : inT x k = false) : rankT x k = 0 := by unfold rankT; rw [h]; rfl
theorem rk_at {x : T} {k : Int} (g : Tr.Good x) (h0 : 0 ≤ k) (h1 : k ≤ (x.k.length : Int) - 1) : ∃ bt, Rep x.l x.r k bt ∧ bt.sz ≤ 1000 ∧ rankT x k = (bt.rk : Nat) ∧ inT x k = true := by
  obtain ⟨a, b, h, _, _, hs⟩ := IsT.at g.s.l g.i (i := k.toNat) (by omega)
  have h20 := g.s.n
  have hin : inT x k = true := by unfold inT; rw [goodB_iff.2 g, decide_eq_true h0, decide_eq_true h1]; rfl
  rw [show (k.toNat : Int) = k by omega] at h
  refine ⟨_, h, by simp only [BT.sz]; omega, ?_, hin⟩
  unfold rankT
  rw [if_pos hin, rkF_rep h (by have := BT.rk_le (.node k.toNat a b); simp only [BT.sz] at this; omega)]
theorem r_rk {x : T} {k r : Int} {b : Bool} (h1 : rankT x k = r) (h2 : inT x k = b) : Ending.returned (.tuple #[.int .i64 r, .bool b]) = .returned (.tuple #[.int .i64 (rankT x k), .bool (inT x k)]) := by rw [h1, h2]
set_option maxRecDepth 100000 in
set_option maxHeartbeats 3200000 in
theorem c_GoodTree (a b c : Value) (x : T) (w : World) (hA : TreeAt w a b c x) (hm : wtT x ≤ 1048576) : Calls Try.prog 23 #[tv a b c x.t] w fun e w' => e = .returned (.bool (goodB x)) ∧ Below w.heap.size w w' := by
  have HB := Lib.hid (below1 w (.cells (t4 a b c x.t) 24))
  have R0 := Lib.hid (show RowTr (w.alloc (.cells (t4 a b c x.t) 24)) w.heap.size a b c x.t from Row.new w 24 _)
  have HC := Lib.hid (c_queueOf a b c x _ (hA.below HB.out) hm)
  clear hA hm
  go_enter Try.func23, Try.ntmps23
  go_wp2_with (refine wl_loadTr rfl _ rfl w.heap.size a b c x.t R0.out rfl ?_)
  refine HC.out.mono ?_
  rintro e w1 ⟨v, t, rfl, h1, h2, hb⟩
  have B1 := Lib.hid (bst HB.out hb HB.out.size)
  have RQ := Lib.hid (show RowQ (w1.alloc (.cells (q2 nilT 0) 91)) w1.heap.size nilT 0 from Row.new w1 91 _)
  have B2 := Lib.hid (below_setRow (bst B1.out (below1 w1 (.cells (q2 nilT 0) 91)) B1.out.size) B1.out.size (q2 v t))
  have H2 := Lib.hid h2
  clear hb h2
  clear H2
  generalize hgb : goodB x = gb at *
  have HGE := Lib.hid hgb; clear hgb
  go_wp2_with (refine wl_storeQ rfl _ _ rfl w1.heap.size v t nilT 0 RQ.out rfl rfl h1 ?_)
  go_ret
  exact ⟨r_b HGE.out.symm, B2.out⟩
set_option maxRecDepth 100000 in
set_option maxHeartbeats 3200000 in
theorem c_RankOf (a b c : Value) (x : T) (k : Int) (w : World) (hA : TreeAt w a b c x) (hm : wtT x ≤ 1048576) : Calls Try.prog 25 #[tv a b c x.t, .int .i64 k] w fun e w' => e = .returned (.tuple #[.int .i64 (rankT x k), .bool (inT x k)]) ∧ Below w.heap.size w w' := by
  have HB := Lib.hid (below1 w (.cells (t4 a b c x.t) 24))
  have R0 := Lib.hid (show RowTr (w.alloc (.cells (t4 a b c x.t) 24)) w.heap.size a b c x.t from Row.new w 24 _)
  have HC := Lib.hid (c_queueOf a b c x _ (hA.below HB.out) hm)
  clear hA hm
  go_enter Try.func25, Try.ntmps25
  go_wp2_with (refine wl_loadTr rfl _ rfl w.heap.size a b c x.t R0.out rfl ?_)
  refine HC.out.mono ?_
  rintro e w1 ⟨v, t, rfl, h1, h2, hb⟩
  have B1 := Lib.hid (bst HB.out hb HB.out.size)
  have RQ := Lib.hid (show RowQ (w1.alloc (.cells (q2 nilT 0) 91)) w1.heap.size nilT 0 from Row.new w1 91 _)
  have B2 := Lib.hid (below_setRow (bst B1.out (below1 w1 (.cells (q2 nilT 0) 91)) B1.out.size) B1.out.size (q2 v t))
  have H2 := Lib.hid h2
  clear hb h2
  have HGB : Hid (goodB x = true → Tr.Good x) := goodB_iff.1
  have HNI : Hid (goodB x = false → inT x k = false) := fun h => by unfold inT; rw [h]; rfl
  clear HC
  generalize goodB x = gb at *
  cases gb
  · have HI := Lib.hid (HNI.out rfl)
    clear HNI HGB H2
    go_wp2_with (refine wl_storeQ rfl _ _ rfl w1.heap.size v t nilT 0 RQ.out rfl rfl h1 ?_)
    go_ret2
    exact ⟨r_rk (inT_no HI.out) HI.out, B2.out⟩
  · have G := Lib.hid (HGB.out rfl)
    obtain ⟨ht, hN⟩ := H2.out rfl
    have HN := Lib.hid hN.nodes
    obtain ⟨p, q, hv, hpq⟩ := hN.nodes.shape
    subst ht
    clear HNI HGB H2 hN
    by_cases hk : 0 ≤ k ∧ k ≤ (x.k.length : Int) - 1
    · obtain ⟨bt, hr, hs, hrk, hin⟩ := rk_at G.out hk.1 hk.2
      have HR := Lib.hid hr; have HS := Lib.hid hs; have HRK := Lib.hid hrk; have HIN := Lib.hid hin
      have HAN := Lib.hid (HN.out.below (below_setRow (below1 w1 (.cells (q2 nilT 0) 91)) (Nat.le_refl _) (q2 v x.t)))
      have i1 : ¬ k < 0 := by omega
      have i2 : ¬ k ≥ (x.k.length : Int) := by omega
      have HL : Hid (x.l.length = x.k.length) := G.out.s.l
      subst hv
      have RQ2 : Hid (RowQ ((w1.alloc (.cells (q2 nilT 0) 91)).setRow w1.heap.size (q2 (.slice p x.k.length q) x.t)) w1.heap.size (.slice p x.k.length q) x.t) := Row.put RQ.out _
      have HC2 := Lib.hid (c_rank (.slice p x.k.length q) x x.t k bt _ HAN.out HR.out HL.out HS.out)
      clear hr hs hrk hin hk HAN HN hpq G
      generalize x.k.length = n at *
      have c0 := RQ2.out.c0
      go_wp2_with (first
        | (refine wl_storeQ rfl _ _ rfl w1.heap.size (.slice p n q) x.t nilT 0 RQ.out rfl rfl rfl ?_)
        | (refine wl_loadQ rfl _ rfl w1.heap.size (.slice p n q) x.t RQ2.out rfl ?_))
      refine HC2.out.mono ?_
      rintro e w2 ⟨rfl, hb2⟩
      go_wp2_with fail
      go_ret2
      exact ⟨r_rk HRK.out HIN.out, bst B2.out hb2 B2.out.size⟩
    · have HI : Hid (inT x k = false) := by
        unfold Hid inT
        rw [Bool.and_eq_false_iff]; right
        rw [Bool.and_eq_false_iff, decide_eq_false_iff_not, decide_eq_false_iff_not]; omega
      subst hv
      have RQ2 : Hid (RowQ ((w1.alloc (.cells (q2 nilT 0) 91)).setRow w1.heap.size (q2 (.slice p x.k.length q) x.t)) w1.heap.size (.slice p x.k.length q) x.t) := Row.put RQ.out _
      clear HN hpq G
      generalize x.k.length = n at *
      have c0 := RQ2.out.c0
      by_cases i1 : k < 0
      · clear hk
        go_wp2_with (first
          | (refine wl_storeQ rfl _ _ rfl w1.heap.size (.slice p n q) x.t nilT 0 RQ.out rfl rfl rfl ?_)
          | (refine wl_loadQ rfl _ rfl w1.heap.size (.slice p n q) x.t RQ2.out rfl ?_))
        go_ret2
        exact ⟨r_rk (inT_no HI.out) HI.out, B2.out⟩
      · have i2 : k ≥ (n : Int) := by omega
        clear hk
        go_wp2_with (first
          | (refine wl_storeQ rfl _ _ rfl w1.heap.size (.slice p n q) x.t nilT 0 RQ.out rfl rfl rfl ?_)
          | (refine wl_loadQ rfl _ rfl w1.heap.size (.slice p n q) x.t RQ2.out rfl ?_))
        go_ret2
        exact ⟨r_rk (inT_no HI.out) HI.out, B2.out⟩
set_option maxRecDepth 100000 in
set_option maxHeartbeats 3200000 in
theorem s_RankOf (a b c : Value) (x : T) (k : Int) (w : World) (hA : TreeAt w a b c x) (hm : wtT x ≤ 1048576) : Calls Try.prog 24 #[tv a b c x.t, .int .i64 k] w fun e w' => e = .returned (.tuple #[.int .i64 (rankT x k), .bool (inT x k)]) ∧ Below w.heap.size w w' := by
  obtain ⟨pa, qa, rfl⟩ := hA.shapes.1
  have HB := Lib.hid (below1 w (.cells (t4 (.slice pa x.k.length qa) b c x.t) 24))
  have R0 := Lib.hid (show RowTr (w.alloc (.cells (t4 (.slice pa x.k.length qa) b c x.t) 24)) w.heap.size (.slice pa x.k.length qa) b c x.t from Row.new w 24 _)
  have HA := Lib.hid hA
  have HG := Lib.hid (s_GoodTree (.slice pa x.k.length qa) b c x _ (hA.below HB.out) hm)
  have HM : Hid (x.k.length ≤ 1048576) := by unfold wtT at hm; unfold Hid; omega
  have HN : Hid (∃ n, n = x.k.length) := ⟨_, rfl⟩
  have i1 : IntKind.i64.wrap ((x.k.length : Int) - 1) = (x.k.length : Int) - 1 := IntWalk.i64_in _ (by have := HM.out; omega)
  have HGB : Hid (goodB x = true → Tr.Good x) := goodB_iff.1
  have HINE : Hid (inT x k = (goodB x && (decide (0 ≤ k) && decide (k ≤ (x.k.length : Int) - 1)))) := rfl
  have HIN := Lib.hid (fun w => s_l1In k 0 ((x.k.length : Int) - 1) w)
  have HRA := Lib.hid (fun g h0 h1 => rk_at (x := x) (k := k) g h0 h1)
  clear hA hm HN
  generalize x.k.length = n at *
  generalize hgb : goodB x = gb at *
  have HGE := Lib.hid hgb; clear hgb
  go_enter Try.func24, Try.ntmps24
  go_wp2_with (refine wl_loadTr rfl _ rfl w.heap.size (.slice pa n qa) b c x.t R0.out rfl ?_)
  refine HG.out.mono ?_
  rintro e w1 ⟨rfl, hb⟩
  have B1 := Lib.hid (bst HB.out hb HB.out.size)
  have R1 := Lib.hid (RowTr.below R0.out hb)
  have A1 := Lib.hid (HA.out.below B1.out)
  have c0 := R1.out.c0
  clear hb HG R0 HA
  cases gb
  · have HI : Hid (inT x k = false) := HINE.out
    clear HIN HRA
    go_wp2_with fail
    go_ret2
    exact ⟨r_rk (inT_no HI.out) HI.out, B1.out⟩
  · have G := Lib.hid (HGB.out rfl)
    go_wp2_with fail
    refine (HIN.out _).mono ?_
    rintro e w2 ⟨rfl, rfl⟩
    by_cases hk : 0 ≤ k ∧ k ≤ (n : Int) - 1
    · obtain ⟨bt, hr, hs, hrk, hin⟩ := HRA.out G.out hk.1 hk.2
      have HC2 := Lib.hid (s_l11Rank (.slice pa n qa) b c x bt k _ A1.out hr hs)
      have HRK := Lib.hid hrk; have HII := Lib.hid hin
      rw [decide_eq_true hk.1, decide_eq_true hk.2]
      clear hr hs hrk hin hk HRA HIN HINE
      go_wp2_with (refine wl_loadTr rfl _ rfl w.heap.size (.slice pa n qa) b c x.t R1.out rfl ?_)
      refine HC2.out.mono ?_
      rintro e w2 ⟨rfl, hb2⟩
      go_wp2_with fail
      go_ret2
      exact ⟨r_rk HRK.out HII.out, bst B1.out hb2 B1.out.size⟩
    · have hf : (decide (0 ≤ k) && decide (k ≤ (n : Int) - 1)) = false := by
        rw [Bool.and_eq_false_iff, decide_eq_false_iff_not, decide_eq_false_iff_not]; omega
      have HI : Hid (inT x k = false) := by have h := HINE.out; rw [hf] at h; exact h
      rw [hf]
      clear hk HRA HIN HINE hf
      go_wp2_with fail
      go_ret2
      exact ⟨r_rk (inT_no HI.out) HI.out, B1.out⟩
end Go.Proofs.Ytejaebmbhcgngaa
namespace Go.Proofs.Ytejaebmbhcgngaa
open Go.RowKit Ph Tr
section
variable {w w' : World} {lo hi : Nat} {a b c v' : Value} {ks ls rs zs bs : List Int} {t : Int}
theorem apart_new (hab : Apart a b) (hb : OwnZ w lo hi b bs) (hbl : v'.ownBlock = a.ownBlock ∨ v'.ownBlock = some w.heap.size) : Apart v' b := fun g hg hgb => by
  rcases hbl with e | e
  · rw [e] at hg; exact hab g hg hgb
  · rw [e] at hg; have h1 := (owns_lt hb.1 hgb).2; have h2 : w.heap.size = g := Option.some.inj hg; omega
theorem OwnT.app0 (h : OwnT w lo hi a b c ⟨ks, ls, rs, t⟩) (ho : Own w' lo v' (ks ++ zs)) (hg : w.grownBy w' a.ownBlock) (hbl : v'.ownBlock = a.ownBlock ∨ v'.ownBlock = some w.heap.size) : OwnT w' lo w'.heap.size v' b c ⟨ks ++ zs, ls, rs, t⟩ :=
  ⟨OwnZ.of ho, OwnZ.of (h.l.grown hg fun i hi e => h.ab i e hi).1, OwnZ.of (h.r.grown hg fun i hi e => h.ac i e hi).1, apart_new h.ab h.l hbl, apart_new h.ac h.r hbl, h.bc⟩
theorem OwnT.app1 (h : OwnT w lo hi a b c ⟨ks, ls, rs, t⟩) (ho : Own w' lo v' (ls ++ zs)) (hg : w.grownBy w' b.ownBlock) (hbl : v'.ownBlock = b.ownBlock ∨ v'.ownBlock = some w.heap.size) : OwnT w' lo w'.heap.size a v' c ⟨ks, ls ++ zs, rs, t⟩ :=
  ⟨OwnZ.of (h.k.grown hg fun i hi e => h.ab i hi e).1, OwnZ.of ho, OwnZ.of (h.r.grown hg fun i hi e => h.bc i e hi).1, (apart_new h.ab.symm h.k hbl).symm, h.ac, apart_new h.bc h.r hbl⟩
theorem OwnT.app2 (h : OwnT w lo hi a b c ⟨ks, ls, rs, t⟩) (ho : Own w' lo v' (rs ++ zs)) (hg : w.grownBy w' c.ownBlock) (hbl : v'.ownBlock = c.ownBlock ∨ v'.ownBlock = some w.heap.size) : OwnT w' lo w'.heap.size a b v' ⟨ks, ls, rs ++ zs, t⟩ :=
  ⟨OwnZ.of (h.k.grown hg fun i hi e => h.ac i hi e).1, OwnZ.of (h.l.grown hg fun i hi e => h.bc i hi e).1, OwnZ.of ho, h.ab, (apart_new h.ac.symm h.k hbl).symm, (apart_new h.bc.symm h.l hbl).symm⟩
end
theorem take_getD {zs : List Int} {k : Nat} (h : k < zs.length) : zs.take k ++ [zs.getD k 0] = zs.take (k + 1) := by
  rw [List.take_add_one, List.getD, List.getElem?_eq_getElem h]; rfl
theorem own_shape {w : World} {lo hi : Nat} {a : Value} {zs : List Int} {k : Nat} (h : OwnZ w lo hi a zs) (hl : zs.length = k) : ∃ p q, a = .slice p k q := by
  obtain ⟨p, q, e⟩ := h.reads.shape; rw [hl] at e; exact ⟨p, q, e⟩
set_option maxRecDepth 100000 in
set_option maxHeartbeats 12800000 in
theorem c_tree (v : Value) (x : T) (w : World) (hA : NodesAt w v x) (h20 : x.k.length ≤ 1000) (hll : x.l.length = x.k.length) (hlr : x.r.length = x.k.length) : Calls Try.prog 74 #[qv v x.t] w (EndT x w) := by
  obtain ⟨i0, hi, hz0, hz1, hz2⟩ := info_parts info_int
  obtain ⟨p, q, rfl, hpq⟩ := hA.shape
  have HA := Lib.hid hA; have HLL := Lib.hid hll; have HLR := Lib.hid hlr
  have HX : Hid ((⟨x.k, x.l, x.r, x.t⟩ : T) = x) := rfl
  clear hA hpq hll hlr
  generalize hn : x.k.length = n at *
  have HN := Lib.hid hn; clear hn
  have hb0 := (below1 w (.cells (q2 (.slice p n q) x.t) 91)).alloc (by simp) (.cells (t4 nilT nilT nilT 0) 24)
  have r0 : RowQ ((w.alloc (.cells (q2 (.slice p n q) x.t) 91)).alloc (.cells (t4 nilT nilT nilT 0) 24)) w.heap.size (.slice p n q) x.t := Row.alloc (Row.new w 91 _) _
  have r1 : RowTr ((w.alloc (.cells (q2 (.slice p n q) x.t) 91)).alloc (.cells (t4 nilT nilT nilT 0) 24)) (w.heap.size + 1) nilT nilT nilT 0 := Row.new1 w _ 24 _
  have hsz : ((w.alloc (.cells (q2 (.slice p n q) x.t) 91)).alloc (.cells (t4 nilT nilT nilT 0) 24)).heap.size = w.heap.size + 2 := by simp
  have T0 := Lib.hid r0; have R0 := Lib.hid r1; have HB := Lib.hid hb0; have HZ := Lib.hid (Nat.le_of_eq hsz.symm)
  clear r0 r1 hb0 hsz
  go_enter Try.func74, Try.ntmps74
  have QA0 := Lib.hid (RowQ.below T0.out (below1 _ (.cells (t4 nilT nilT nilT 0) 24)))
  have c1 := T0.out.c1
  have RA := Lib.hid (RowTr.below R0.out (below1 _ (.cells (t4 nilT nilT nilT 0) 24)))
  have BA := Lib.hid (bst HB.out (below1 _ (.cells (t4 nilT nilT nilT 0) 24)) HB.out.size)
  have TA := Lib.hid (show RowTr _ _ nilT nilT nilT 0 from Row.new ((w.alloc (.cells (q2 (.slice p n q) x.t) 91)).alloc (.cells (t4 nilT nilT nilT 0) 24)) 24 (t4 nilT nilT nilT 0))
  have hgs : ((w.alloc (.cells (q2 (.slice p n q) x.t) 91)).alloc (.cells (t4 nilT nilT nilT 0) 24)).heap.size = w.heap.size + 1 + 1 := by simp
  rw [hgs] at TA
  have TB := Lib.hid (show RowTr _ _ nilT nilT nilT x.t from Row.put TA.out (t4 nilT nilT nilT x.t))
  have RB := Lib.hid (show RowTr ((((w.alloc (.cells (q2 (.slice p n q) x.t) 91)).alloc (.cells (t4 nilT nilT nilT 0) 24)).alloc (.cells (t4 nilT nilT nilT 0) 24)).setRow (w.heap.size + 1 + 1) (t4 nilT nilT nilT x.t)) (w.heap.size + 1) nilT nilT nilT 0 from Row.putOther RA.out (t4 nilT nilT nilT x.t) (by omega))
  have QB := Lib.hid (show RowQ ((((w.alloc (.cells (q2 (.slice p n q) x.t) 91)).alloc (.cells (t4 nilT nilT nilT 0) 24)).alloc (.cells (t4 nilT nilT nilT 0) 24)).setRow (w.heap.size + 1 + 1) (t4 nilT nilT nilT x.t)) w.heap.size (.slice p n q) x.t from Row.putOther QA0.out (t4 nilT nilT nilT x.t) (by omega))
  have BB := Lib.hid (below_setRow BA.out (show w.heap.size ≤ w.heap.size + 1 + 1 by omega) (t4 nilT nilT nilT x.t))
  have LB : Hid (w.heap.size + 1 + 1 < ((((w.alloc (.cells (q2 (.slice p n q) x.t) 91)).alloc (.cells (t4 nilT nilT nilT 0) 24)).alloc (.cells (t4 nilT nilT nilT 0) 24)).setRow (w.heap.size + 1 + 1) (t4 nilT nilT nilT x.t)).heap.size) := by unfold Hid; rw [size_setRow]; simp
  clear HZ hgs T0 R0 HB RA BA QA0
  go_upto_region 2 with (refine wl_storeTr rfl _ _ rfl (w.heap.size + 1 + 1) nilT nilT nilT x.t nilT nilT nilT 0 TA.out rfl rfl rfl rfl rfl ?_)
  clear TA c1
  generalize (((w.alloc (.cells (q2 (.slice p n q) x.t) 91)).alloc (.cells (t4 nilT nilT nilT 0) 24)).alloc (.cells (t4 nilT nilT nilT 0) 24)).setRow (w.heap.size + 1 + 1) (t4 nilT nilT nilT x.t) = wc at *
  obtain ⟨gT, hgt⟩ : ∃ g, g = w.heap.size + 1 + 1 := ⟨_, rfl⟩
  rw [← hgt] at TB LB ⊢
  have hgT : Hid (w.heap.size + 2 ≤ gT) := by unfold Hid; omega
  clear hgt
  have hT := TB; have hR := RB; have hQ := QB; have hB := BB; have hL0 := LB
  clear TB RB QB BB LB
  have c0 := hQ.out.c0
  go_wp2_with fail
  clear c0
  go_loopw [12] (fun i wr => ∃ k : Nat, k ≤ n ∧ i = .int .i64 k ∧ (∃ a b c, Hid (OwnT wr (gT + 1) wr.heap.size a b c ⟨x.k.take k, x.l.take k, x.r.take k, x.t⟩) ∧ Hid (RowTr wr gT a b c x.t)) ∧ Hid (RowTr wr (w.heap.size + 1) nilT nilT nilT 0) ∧ Hid (RowQ wr w.heap.size (.slice p n q) x.t) ∧ Hid (Below w.heap.size w wr) ∧ Hid (gT < wr.heap.size)) (fun i _ => n - (intOf i).toNat)
  case atStart => exact ⟨0, Nat.zero_le _, rfl, ⟨nilT, nilT, nilT, OwnT.nil _ _ _ _, hT⟩, hR, hQ, hB, hL0⟩
  case round =>
      clear hT hR hQ hB
      obtain ⟨k, hk, rfl, ⟨a, b, c, hO, hT⟩, hR, hQ, hB, hL⟩ := hrel
      by_cases hlt : k < n
      · have TKK : Hid (x.k.take k ++ [x.k.getD k 0] = x.k.take (k + 1)) := take_getD (by rw [HN.out]; exact hlt)
        have TKL : Hid (x.l.take k ++ [x.l.getD k 0] = x.l.take (k + 1)) := take_getD (by rw [HLL.out]; exact hlt)
        have TKR : Hid (x.r.take k ++ [x.r.getD k 0] = x.r.take (k + 1)) := take_getD (by rw [HLR.out]; exact hlt)
        have LK : Hid ((x.k.take k).length = k) := by unfold Hid; rw [List.length_take, HN.out]; omega
        have LL : Hid ((x.l.take k).length = k) := by unfold Hid; rw [List.length_take, HLL.out]; omega
        have LR : Hid ((x.r.take k).length = k) := by unfold Hid; rw [List.length_take, HLR.out]; omega
        obtain ⟨bb, off, rfl, hcc⟩ := NodesAt.at' (HA.out.below hB.out) (by rw [HN.out]; omega)
        obtain ⟨q0, q1, q2'⟩ := hcc k (by rw [HN.out]; exact hlt)
        clear hcc
        generalize x.k.getD k 0 = z0 at *
        generalize x.l.getD k 0 = z1 at *
        generalize x.r.getD k 0 = z2 at *
        generalize x.k.take k = ks at *
        generalize x.l.take k = ls at *
        generalize x.r.take k = rs at *
        obtain ⟨pa, qa, rfl⟩ := own_shape hO.out.k LK.out
        obtain ⟨pb, qb, rfl⟩ := own_shape hO.out.l LL.out
        obtain ⟨pc, qc, rfl⟩ := own_shape hO.out.r LR.out
        have i1 : (k : Int) < (n : Int) := by omega
        have i2 : (0 : Int) ≤ (k : Int) := by omega
        have e1 : IntKind.i64.wrap ((k : Int) + 1) = (k : Int) + 1 := IntWalk.i64_in _ (by omega)
        have NA : Hid (∀ g, (Value.slice pa k qa).ownBlock = some g → gT + 1 ≤ g ∧ g < wr.heap.size) := fun g hg => owns_lt hO.out.k.1 hg
        have NB : Hid (∀ g, (Value.slice pb k qb).ownBlock = some g → gT + 1 ≤ g ∧ g < wr.heap.size) := fun g hg => owns_lt hO.out.l.1 hg
        have NC : Hid (∀ g, (Value.slice pc k qc).ownBlock = some g → gT + 1 ≤ g ∧ g < wr.heap.size) := fun g hg => owns_lt hO.out.r.1 hg
        have r4a := Row.new wr 133 (n3 0 0 0)
        have N4 : Hid (RowN ((wr.alloc (.cells (n3 0 0 0) 133)).setRow wr.heap.size (n3 z0 z1 z2)) wr.heap.size z0 z1 z2) := Row.put r4a (n3 z0 z1 z2)
        have b4 := Lib.hid (below_setRow (below1 wr (.cells (n3 0 0 0) 133)) (Nat.le_refl _) (n3 z0 z1 z2))
        have R4A := Lib.hid r4a
        clear r4a
        go_upto_region 5 with (refine wl_storeN rfl _ _ rfl wr.heap.size z0 z1 z2 0 0 0 R4A.out rfl rfl ?_)
        clear q0 q1 q2' R4A
        have O4 := Lib.hid ((hO.out.below b4.out).wide (Nat.le_refl _) b4.out.size)
        have T4 := Lib.hid (hT.out.below b4.out); have R4 := Lib.hid (hR.out.below b4.out); have Q4 := Lib.hid (hQ.out.below b4.out)
        have B4 := Lib.hid (bst hB.out b4.out hB.out.size)
        have L4 := Lib.hid (Nat.lt_of_lt_of_le hL.out b4.out.size)
        have G4 : Hid (wr.heap.size < ((wr.alloc (.cells (n3 0 0 0) 133)).setRow wr.heap.size (n3 z0 z1 z2)).heap.size) := by unfold Hid; rw [size_setRow]; simp
        have GW : Hid (gT < wr.heap.size) := hL
        clear b4 hO hT hR hQ hB hL
        generalize (wr.alloc (.cells (n3 0 0 0) 133)).setRow wr.heap.size (n3 z0 z1 z2) = w4 at *
        generalize wr.heap.size = gn at *
        have S0a := Lib.hid (ints_one w4 z0)
        have hb0a := below1 w4 (.cells #[.int .i64 z0] 3)
        have O0a := Lib.hid ((O4.out.below hb0a).wide (Nat.le_refl _) hb0a.size)
        have T0a := Lib.hid (RowTr.below T4.out hb0a)
        have R0a := Lib.hid (RowTr.below R4.out hb0a)
        have Q0a := Lib.hid (RowQ.below Q4.out hb0a)
        have N0a := Lib.hid (RowN.below N4.out hb0a)
        have B0a := Lib.hid (bst B4.out hb0a B4.out.size)
        have L0a := Lib.hid (Nat.lt_of_lt_of_le L4.out hb0a.size)
        have G0a := Lib.hid (Nat.lt_of_lt_of_le G4.out hb0a.size)
        have dz := RowTr.c0 T4.out
        have nz := RowN.c0 N4.out
        clear hb0a O4 T4 R4 Q4 N4 B4 L4 G4
        go_upto_region 6 with (at_builtin; refine wl_appOwn _ rfl _ _ 22 rfl (gT + 1) 3 i0 (.int .i64 0) 8 Try.underlying22 hi hz0 hz1 hz2 rfl (.slice pa k qa) _ _ rfl O0a.out.k.1 (.slice (some ⟨w4.heap.size, 0, none⟩) 1 1) _ rfl S0a.out.src (by have := LK.out; simp; unfold maxLen; omega) (by have := LK.out; simp; omega) L0a.out ?_; intro v0b w0b ho hg hbl; have ho' : Own w0b (gT + 1) v0b (ks ++ [z0]) := (by unfold Own; rw [List.length_append, List.map_append]; exact ho); have O0b := Lib.hid (OwnT.app0 O0a.out ho' hg hbl); rw [TKK.out] at O0b; obtain ⟨p0b, q0b, hv0b⟩ : ∃ p q, v0b = .slice p (k + 1) q := own_shape (OwnZ.of ho') (by rw [List.length_append, LK.out]; rfl); subst hv0b; have T0b : Hid (RowTr w0b gT (.slice pa k qa) (.slice pb k qb) (.slice pc k qc) x.t) := Row.grownBy T0a.out hg (fun e => by have := NA.out gT e; omega); have R0b : Hid (RowTr w0b (w.heap.size + 1) nilT nilT nilT 0) := Row.grownBy R0a.out hg (fun e => by have := NA.out _ e; have := hgT.out; omega); have Q0b : Hid (RowQ w0b w.heap.size _ x.t) := Row.grownBy Q0a.out hg (fun e => by have := NA.out _ e; have := hgT.out; omega); have N0b : Hid (RowN w0b gn z0 z1 z2) := Row.grownBy N0a.out hg (fun e => by have := NA.out _ e; omega); have B0b := Lib.hid (B0a.out.grown hg B0a.out.size (fun g hg => by have := NA.out g hg; have := hgT.out; omega)); have L0b := Lib.hid (Nat.lt_of_lt_of_le L0a.out hg.size); have G0b := Lib.hid (Nat.lt_of_lt_of_le G0a.out hg.size); have cz := RowTr.c0 T0b.out; have fz := Row.frozen T0b.out 0; clear ho ho' hg hbl dz nz O0a T0a R0a Q0a N0a B0a L0a G0a S0a)
        have O0c : Hid (OwnT (w0b.setCell ⟨gT, 0, none⟩ (.slice p0b (k + 1) q0b)) (gT + 1) (w0b.setCell ⟨gT, 0, none⟩ (.slice p0b (k + 1) q0b)).heap.size (.slice p0b (k + 1) q0b) (.slice pb k qb) (.slice pc k qc) ⟨(x.k.take (k + 1)), ls, rs, x.t⟩) := by unfold Hid; rw [World.size_setCell]; exact O0b.out.cell ⟨gT, 0, none⟩ (Nat.lt_succ_self gT) (.slice p0b (k + 1) q0b)
        have T0c : Hid (RowTr (w0b.setCell ⟨gT, 0, none⟩ (.slice p0b (k + 1) q0b)) gT (.slice p0b (k + 1) q0b) (.slice pb k qb) (.slice pc k qc) x.t) := RowTr.set0 T0b.out (.slice p0b (k + 1) q0b)
        have R0c : Hid (RowTr (w0b.setCell ⟨gT, 0, none⟩ (.slice p0b (k + 1) q0b)) (w.heap.size + 1) nilT nilT nilT 0) := Row.other R0b.out ⟨gT, 0, none⟩ (by have := hgT.out; show w.heap.size + 1 ≠ gT; omega) (.slice p0b (k + 1) q0b)
        have Q0c : Hid (RowQ (w0b.setCell ⟨gT, 0, none⟩ (.slice p0b (k + 1) q0b)) w.heap.size _ x.t) := Row.other Q0b.out ⟨gT, 0, none⟩ (by have := hgT.out; show w.heap.size ≠ gT; omega) (.slice p0b (k + 1) q0b)
        have N0c : Hid (RowN (w0b.setCell ⟨gT, 0, none⟩ (.slice p0b (k + 1) q0b)) gn z0 z1 z2) := Row.other N0b.out ⟨gT, 0, none⟩ (by have := GW.out; show gn ≠ gT; omega) (.slice p0b (k + 1) q0b)
        have B0c := Lib.hid (B0b.out.setCell (p := ⟨gT, 0, none⟩) (by have := hgT.out; show w.heap.size ≤ gT; omega) (.slice p0b (k + 1) q0b))
        have L0c : Hid (gT < (w0b.setCell ⟨gT, 0, none⟩ (.slice p0b (k + 1) q0b)).heap.size) := by unfold Hid; rw [World.size_setCell]; exact L0b.out
        have G0c : Hid (gn < (w0b.setCell ⟨gT, 0, none⟩ (.slice p0b (k + 1) q0b)).heap.size) := by unfold Hid; rw [World.size_setCell]; exact G0b.out
        clear cz fz O0b T0b R0b Q0b N0b B0b L0b G0b
        generalize (w0b.setCell ⟨gT, 0, none⟩ (.slice p0b (k + 1) q0b)) = y0b at *
        have S1a := Lib.hid (ints_one y0b z1)
        have hb1a := below1 y0b (.cells #[.int .i64 z1] 3)
        have O1a := Lib.hid ((O0c.out.below hb1a).wide (Nat.le_refl _) hb1a.size)
        have T1a := Lib.hid (RowTr.below T0c.out hb1a)
        have R1a := Lib.hid (RowTr.below R0c.out hb1a)
        have Q1a := Lib.hid (RowQ.below Q0c.out hb1a)
        have N1a := Lib.hid (RowN.below N0c.out hb1a)
        have B1a := Lib.hid (bst B0c.out hb1a B0c.out.size)
        have L1a := Lib.hid (Nat.lt_of_lt_of_le L0c.out hb1a.size)
        have G1a := Lib.hid (Nat.lt_of_lt_of_le G0c.out hb1a.size)
        have dz := RowTr.c1 T0c.out
        have nz := RowN.c1 N0c.out
        clear hb1a O0c T0c R0c Q0c N0c B0c L0c G0c
        go_upto_region 7 with (at_builtin; refine wl_appOwn _ rfl _ _ 22 rfl (gT + 1) 3 i0 (.int .i64 0) 8 Try.underlying22 hi hz0 hz1 hz2 rfl (.slice pb k qb) _ _ rfl O1a.out.l.1 (.slice (some ⟨y0b.heap.size, 0, none⟩) 1 1) _ rfl S1a.out.src (by have := LL.out; simp; unfold maxLen; omega) (by have := LL.out; simp; omega) L1a.out ?_; intro v1b w1b ho hg hbl; have ho' : Own w1b (gT + 1) v1b (ls ++ [z1]) := (by unfold Own; rw [List.length_append, List.map_append]; exact ho); have O1b := Lib.hid (OwnT.app1 O1a.out ho' hg hbl); rw [TKL.out] at O1b; obtain ⟨p1b, q1b, hv1b⟩ : ∃ p q, v1b = .slice p (k + 1) q := own_shape (OwnZ.of ho') (by rw [List.length_append, LL.out]; rfl); subst hv1b; have T1b : Hid (RowTr w1b gT (.slice p0b (k + 1) q0b) (.slice pb k qb) (.slice pc k qc) x.t) := Row.grownBy T1a.out hg (fun e => by have := NB.out gT e; omega); have R1b : Hid (RowTr w1b (w.heap.size + 1) nilT nilT nilT 0) := Row.grownBy R1a.out hg (fun e => by have := NB.out _ e; have := hgT.out; omega); have Q1b : Hid (RowQ w1b w.heap.size _ x.t) := Row.grownBy Q1a.out hg (fun e => by have := NB.out _ e; have := hgT.out; omega); have N1b : Hid (RowN w1b gn z0 z1 z2) := Row.grownBy N1a.out hg (fun e => by have := NB.out _ e; omega); have B1b := Lib.hid (B1a.out.grown hg B1a.out.size (fun g hg => by have := NB.out g hg; have := hgT.out; omega)); have L1b := Lib.hid (Nat.lt_of_lt_of_le L1a.out hg.size); have G1b := Lib.hid (Nat.lt_of_lt_of_le G1a.out hg.size); have cz := RowTr.c1 T1b.out; have fz := Row.frozen T1b.out 1; clear ho ho' hg hbl dz nz O1a T1a R1a Q1a N1a B1a L1a G1a S1a)
        have O1c : Hid (OwnT (w1b.setCell ⟨gT, 1, none⟩ (.slice p1b (k + 1) q1b)) (gT + 1) (w1b.setCell ⟨gT, 1, none⟩ (.slice p1b (k + 1) q1b)).heap.size (.slice p0b (k + 1) q0b) (.slice p1b (k + 1) q1b) (.slice pc k qc) ⟨(x.k.take (k + 1)), (x.l.take (k + 1)), rs, x.t⟩) := by unfold Hid; rw [World.size_setCell]; exact O1b.out.cell ⟨gT, 1, none⟩ (Nat.lt_succ_self gT) (.slice p1b (k + 1) q1b)
        have T1c : Hid (RowTr (w1b.setCell ⟨gT, 1, none⟩ (.slice p1b (k + 1) q1b)) gT (.slice p0b (k + 1) q0b) (.slice p1b (k + 1) q1b) (.slice pc k qc) x.t) := RowTr.set1 T1b.out (.slice p1b (k + 1) q1b)
        have R1c : Hid (RowTr (w1b.setCell ⟨gT, 1, none⟩ (.slice p1b (k + 1) q1b)) (w.heap.size + 1) nilT nilT nilT 0) := Row.other R1b.out ⟨gT, 1, none⟩ (by have := hgT.out; show w.heap.size + 1 ≠ gT; omega) (.slice p1b (k + 1) q1b)
        have Q1c : Hid (RowQ (w1b.setCell ⟨gT, 1, none⟩ (.slice p1b (k + 1) q1b)) w.heap.size _ x.t) := Row.other Q1b.out ⟨gT, 1, none⟩ (by have := hgT.out; show w.heap.size ≠ gT; omega) (.slice p1b (k + 1) q1b)
        have N1c : Hid (RowN (w1b.setCell ⟨gT, 1, none⟩ (.slice p1b (k + 1) q1b)) gn z0 z1 z2) := Row.other N1b.out ⟨gT, 1, none⟩ (by have := GW.out; show gn ≠ gT; omega) (.slice p1b (k + 1) q1b)
        have B1c := Lib.hid (B1b.out.setCell (p := ⟨gT, 1, none⟩) (by have := hgT.out; show w.heap.size ≤ gT; omega) (.slice p1b (k + 1) q1b))
        have L1c : Hid (gT < (w1b.setCell ⟨gT, 1, none⟩ (.slice p1b (k + 1) q1b)).heap.size) := by unfold Hid; rw [World.size_setCell]; exact L1b.out
        have G1c : Hid (gn < (w1b.setCell ⟨gT, 1, none⟩ (.slice p1b (k + 1) q1b)).heap.size) := by unfold Hid; rw [World.size_setCell]; exact G1b.out
        clear cz fz O1b T1b R1b Q1b N1b B1b L1b G1b
        generalize (w1b.setCell ⟨gT, 1, none⟩ (.slice p1b (k + 1) q1b)) = y1b at *
        have S2a := Lib.hid (ints_one y1b z2)
        have hb2a := below1 y1b (.cells #[.int .i64 z2] 3)
        have O2a := Lib.hid ((O1c.out.below hb2a).wide (Nat.le_refl _) hb2a.size)
        have T2a := Lib.hid (RowTr.below T1c.out hb2a)
        have R2a := Lib.hid (RowTr.below R1c.out hb2a)
        have Q2a := Lib.hid (RowQ.below Q1c.out hb2a)
        have N2a := Lib.hid (RowN.below N1c.out hb2a)
        have B2a := Lib.hid (bst B1c.out hb2a B1c.out.size)
        have L2a := Lib.hid (Nat.lt_of_lt_of_le L1c.out hb2a.size)
        have G2a := Lib.hid (Nat.lt_of_lt_of_le G1c.out hb2a.size)
        have dz := RowTr.c2 T1c.out
        have nz := RowN.c2 N1c.out
        clear hb2a O1c T1c R1c Q1c N1c B1c L1c G1c
        go_upto_region 8 with (at_builtin; refine wl_appOwn _ rfl _ _ 22 rfl (gT + 1) 3 i0 (.int .i64 0) 8 Try.underlying22 hi hz0 hz1 hz2 rfl (.slice pc k qc) _ _ rfl O2a.out.r.1 (.slice (some ⟨y1b.heap.size, 0, none⟩) 1 1) _ rfl S2a.out.src (by have := LR.out; simp; unfold maxLen; omega) (by have := LR.out; simp; omega) L2a.out ?_; intro v2b w2b ho hg hbl; have ho' : Own w2b (gT + 1) v2b (rs ++ [z2]) := (by unfold Own; rw [List.length_append, List.map_append]; exact ho); have O2b := Lib.hid (OwnT.app2 O2a.out ho' hg hbl); rw [TKR.out] at O2b; obtain ⟨p2b, q2b, hv2b⟩ : ∃ p q, v2b = .slice p (k + 1) q := own_shape (OwnZ.of ho') (by rw [List.length_append, LR.out]; rfl); subst hv2b; have T2b : Hid (RowTr w2b gT (.slice p0b (k + 1) q0b) (.slice p1b (k + 1) q1b) (.slice pc k qc) x.t) := Row.grownBy T2a.out hg (fun e => by have := NC.out gT e; omega); have R2b : Hid (RowTr w2b (w.heap.size + 1) nilT nilT nilT 0) := Row.grownBy R2a.out hg (fun e => by have := NC.out _ e; have := hgT.out; omega); have Q2b : Hid (RowQ w2b w.heap.size _ x.t) := Row.grownBy Q2a.out hg (fun e => by have := NC.out _ e; have := hgT.out; omega); have N2b : Hid (RowN w2b gn z0 z1 z2) := Row.grownBy N2a.out hg (fun e => by have := NC.out _ e; omega); have B2b := Lib.hid (B2a.out.grown hg B2a.out.size (fun g hg => by have := NC.out g hg; have := hgT.out; omega)); have L2b := Lib.hid (Nat.lt_of_lt_of_le L2a.out hg.size); have G2b := Lib.hid (Nat.lt_of_lt_of_le G2a.out hg.size); have cz := RowTr.c2 T2b.out; have fz := Row.frozen T2b.out 2; clear ho ho' hg hbl dz nz O2a T2a R2a Q2a N2a B2a L2a G2a S2a)
        have O2c : Hid (OwnT (w2b.setCell ⟨gT, 2, none⟩ (.slice p2b (k + 1) q2b)) (gT + 1) (w2b.setCell ⟨gT, 2, none⟩ (.slice p2b (k + 1) q2b)).heap.size (.slice p0b (k + 1) q0b) (.slice p1b (k + 1) q1b) (.slice p2b (k + 1) q2b) ⟨(x.k.take (k + 1)), (x.l.take (k + 1)), (x.r.take (k + 1)), x.t⟩) := by unfold Hid; rw [World.size_setCell]; exact O2b.out.cell ⟨gT, 2, none⟩ (Nat.lt_succ_self gT) (.slice p2b (k + 1) q2b)
        have T2c : Hid (RowTr (w2b.setCell ⟨gT, 2, none⟩ (.slice p2b (k + 1) q2b)) gT (.slice p0b (k + 1) q0b) (.slice p1b (k + 1) q1b) (.slice p2b (k + 1) q2b) x.t) := RowTr.set2 T2b.out (.slice p2b (k + 1) q2b)
        have R2c : Hid (RowTr (w2b.setCell ⟨gT, 2, none⟩ (.slice p2b (k + 1) q2b)) (w.heap.size + 1) nilT nilT nilT 0) := Row.other R2b.out ⟨gT, 2, none⟩ (by have := hgT.out; show w.heap.size + 1 ≠ gT; omega) (.slice p2b (k + 1) q2b)
        have Q2c : Hid (RowQ (w2b.setCell ⟨gT, 2, none⟩ (.slice p2b (k + 1) q2b)) w.heap.size _ x.t) := Row.other Q2b.out ⟨gT, 2, none⟩ (by have := hgT.out; show w.heap.size ≠ gT; omega) (.slice p2b (k + 1) q2b)
        have N2c : Hid (RowN (w2b.setCell ⟨gT, 2, none⟩ (.slice p2b (k + 1) q2b)) gn z0 z1 z2) := Row.other N2b.out ⟨gT, 2, none⟩ (by have := GW.out; show gn ≠ gT; omega) (.slice p2b (k + 1) q2b)
        have B2c := Lib.hid (B2b.out.setCell (p := ⟨gT, 2, none⟩) (by have := hgT.out; show w.heap.size ≤ gT; omega) (.slice p2b (k + 1) q2b))
        have L2c : Hid (gT < (w2b.setCell ⟨gT, 2, none⟩ (.slice p2b (k + 1) q2b)).heap.size) := by unfold Hid; rw [World.size_setCell]; exact L2b.out
        have G2c : Hid (gn < (w2b.setCell ⟨gT, 2, none⟩ (.slice p2b (k + 1) q2b)).heap.size) := by unfold Hid; rw [World.size_setCell]; exact G2b.out
        clear cz fz O2b T2b R2b Q2b N2b B2b L2b G2b
        generalize (w2b.setCell ⟨gT, 2, none⟩ (.slice p2b (k + 1) q2b)) = y2b at *
        go_wp2_with fail
        go_roundw
        case rel => exact ⟨k + 1, by omega, by go_num, ⟨_, _, _, O2c, T2c⟩, R2c, Q2c, B2c, L2c⟩
        case measure => simp [intOf]; omega
      · obtain rfl : k = n := by omega
        have HO : Hid (OwnT wr (gT + 1) wr.heap.size a b c x) := by
          have h := hO.out
          rw [List.take_of_length_le (by rw [HN.out]; exact Nat.le_refl _), List.take_of_length_le (by rw [HLL.out]; exact Nat.le_refl _), List.take_of_length_le (by rw [HLR.out]; exact Nat.le_refl _)] at h
          exact h
        obtain ⟨⟨pa, qa, ha⟩, ⟨pb, qb, hb⟩, ⟨pc, qc, hc⟩⟩ := HO.out.shapes
        have o1 : a.oneCell' = true := by rw [ha]; rfl
        have o2 : b.oneCell' = true := by rw [hb]; rfl
        have o3 : c.oneCell' = true := by rw [hc]; rfl
        clear hO ha hb hc
        go_wp2_with (first
          | (refine wl_loadTr rfl _ rfl gT a b c x.t hT.out rfl ?_)
          | (refine wl_storeTr rfl _ _ rfl (w.heap.size + 1) a b c x.t nilT nilT nilT 0 hR.out rfl rfl o1 o2 o3 ?_))
        refine bodyPost_ret (res_row Try.results74 (Row.put hR.out (t4 a b c x.t)) rfl Try.underlying24 rfl info_tree) rfl ⟨a, b, c, rfl, ?_, below_setRow hB.out (by omega) _⟩
        rw [size_setRow]
        exact (HO.out.whole (w.heap.size + 1) (by have := hgT.out; omega) (t4 a b c x.t)).wide (by have := hgT.out; omega) (Nat.le_refl _)
end Go.Proofs.Ytejaebmbhcgngaa
namespace Go.Proofs.Ytejaebmbhcgngaa
open Go.RowKit Ph Tr
noncomputable def keysT (x : T) : List Int := if goodB x = true then x.k else []
/-- A call ends with a tree's keys in a list of its own. -/
def EndK (x : T) (w : World) (e : Ending) (w' : World) : Prop := ∃ v, e = .returned (.tuple #[v, .bool (goodB x)]) ∧ Own w' w.heap.size v (keysT x) ∧ Below w.heap.size w w'
theorem endK_no {x : T} {w w' : World} (h : goodB x = false) (hb : Below w.heap.size w w') : EndK x w (.returned (.tuple #[nilT, .bool false])) w' :=
  ⟨nilT, by rw [h], by unfold keysT; rw [h]; exact Own.nil _ _, hb⟩
theorem endK_yes {x : T} {w w' : World} {v : Value} (h : goodB x = true) (ho : Own w' w.heap.size v x.k) (hb : Below w.heap.size w w') : EndK x w (.returned (.tuple #[v, .bool true])) w' :=
  ⟨v, by rw [h], by unfold keysT; rw [h]; exact ho, hb⟩
theorem run_fieldT (a b c t : Value) (w : World) : (Instr.field 24 (.agg #[a, b, c, t]) 0).run Try.prog w = .ok a w := by
  simp [Instr.field, go_sem, asAgg]
set_option maxRecDepth 100000 in
set_option maxHeartbeats 1600000 in
theorem c_emptyQueue (w : World) : Calls Try.prog 73 #[] w fun e w' => e = .returned (qv nilT (-1)) ∧ Below w.heap.size w w' := by
  have R1 := Lib.hid (show RowQ (w.alloc (.cells (q2 nilT 0) 91)) w.heap.size nilT 0 from Row.new w 91 _)
  have HB := Lib.hid (below1 w (.cells (q2 nilT 0) 91))
  go_enter Try.func73, Try.ntmps73
  go_wp2_with (refine wl_storeQ rfl _ _ rfl w.heap.size nilT (-1) _ _ R1.out rfl rfl rfl ?_)
  refine bodyPost_ret (res_row Try.results73 (Row.put R1.out (q2 nilT (-1))) rfl Try.underlying91 rfl info_queue) rfl ⟨rfl, below_setRow HB.out (Nat.le_refl _) _⟩
set_option maxRecDepth 100000 in
set_option maxHeartbeats 1600000 in
theorem c_EmptyTree (w : World) : Calls Try.prog 16 #[] w (EndT emptyT w) := by
  have R1 := Lib.hid (show RowTr (w.alloc (.cells (t4 nilT nilT nilT 0) 24)) w.heap.size nilT nilT nilT 0 from Row.new w 24 _)
  have HB := Lib.hid (below1 w (.cells (t4 nilT nilT nilT 0) 24))
  have HS : Hid ((w.alloc (.cells (t4 nilT nilT nilT 0) 24)).heap.size = w.heap.size + 1) := by unfold Hid; simp
  go_enter Try.func16, Try.ntmps16
  go_wp2_with fail
  refine (c_emptyQueue _).mono ?_
  rintro e w1 ⟨rfl, hb⟩
  have B1 := Lib.hid (bst HB.out hb HB.out.size)
  have R2 := Lib.hid (RowTr.below R1.out hb)
  have S2 : Hid (w.heap.size + 1 ≤ w1.heap.size) := by have := hb.size; rw [HS.out] at this; exact this
  clear hb
  go_wp2_with fail
  refine (c_tree nilT emptyT w1 (NodesAt.nil _ _) (by simp [emptyT]) rfl rfl).mono ?_
  rintro e w2 ⟨a, b, c, rfl, ho, hb⟩
  have B2 := Lib.hid (bst B1.out hb B1.out.size)
  have R3 := Lib.hid (RowTr.below R2.out hb)
  obtain ⟨⟨pa, qa, ha⟩, ⟨pb, qb, hb'⟩, ⟨pc, qc, hc⟩⟩ := ho.shapes
  have o1 : a.oneCell' = true := by rw [ha]; rfl
  have o2 : b.oneCell' = true := by rw [hb']; rfl
  have o3 : c.oneCell' = true := by rw [hc]; rfl
  have O := Lib.hid ho
  clear hb ho ha hb' hc
  go_wp2_with (refine wl_storeTr rfl _ _ rfl w.heap.size a b c (-1) nilT nilT nilT 0 R3.out rfl rfl o1 o2 o3 ?_)
  refine bodyPost_ret (res_row Try.results16 (Row.put R3.out (t4 a b c (-1))) rfl Try.underlying24 rfl info_tree) rfl ⟨a, b, c, rfl, ?_, below_setRow B2.out (Nat.le_refl _) _⟩
  rw [size_setRow]
  exact (O.out.whole w.heap.size (by have := S2.out; omega) (t4 a b c (-1))).wide (by have := S2.out; omega) (Nat.le_refl _)
set_option maxRecDepth 100000 in
set_option maxHeartbeats 3200000 in
theorem c_KeysOf (a b c : Value) (x : T) (w : World) (hA : TreeAt w a b c x) (hm : wtT x ≤ 1048576) : Calls Try.prog 39 #[tv a b c x.t] w (EndK x w) := by
  have HB := Lib.hid (below1 w (.cells (t4 a b c x.t) 24))
  have R0 := Lib.hid (show RowTr (w.alloc (.cells (t4 a b c x.t) 24)) w.heap.size a b c x.t from Row.new w 24 _)
  have HC := Lib.hid (c_queueOf a b c x _ (hA.below HB.out) hm)
  clear hA hm
  go_enter Try.func39, Try.ntmps39
  go_wp2_with (refine wl_loadTr rfl _ rfl w.heap.size a b c x.t R0.out rfl ?_)
  refine HC.out.mono ?_
  rintro e w1 ⟨v, t, rfl, h1, h2, hb⟩
  have B1 := Lib.hid (bst HB.out hb HB.out.size)
  have RQ := Lib.hid (show RowQ (w1.alloc (.cells (q2 nilT 0) 91)) w1.heap.size nilT 0 from Row.new w1 91 _)
  have B2 := Lib.hid (below_setRow (bst B1.out (below1 w1 (.cells (q2 nilT 0) 91)) B1.out.size) B1.out.size (q2 v t))
  have H2 := Lib.hid h2
  clear hb h2
  clear HC
  generalize hgb : goodB x = gb at *
  have HGE := Lib.hid hgb; clear hgb
  cases gb
  · clear H2
    go_wp2_with (refine wl_storeQ rfl _ _ rfl w1.heap.size v t nilT 0 RQ.out rfl rfl h1 ?_)
    go_ret2
    exact endK_no HGE.out B2.out
  · obtain ⟨ht, hN⟩ := H2.out rfl
    subst ht
    have G := Lib.hid (goodB_iff.1 HGE.out)
    have HAN := Lib.hid (hN.nodes.below (below_setRow (below1 w1 (.cells (q2 nilT 0) 91)) (Nat.le_refl _) (q2 v x.t)))
    have RQ2 : Hid (RowQ ((w1.alloc (.cells (q2 nilT 0) 91)).setRow w1.heap.size (q2 v x.t)) w1.heap.size v x.t) := Row.put RQ.out _
    have HC2 := Lib.hid (c_tree v x _ HAN.out (by have := G.out.s.n; omega) G.out.s.l G.out.s.r)
    clear H2 hN
    go_wp2_with (first
      | (refine wl_storeQ rfl _ _ rfl w1.heap.size v x.t nilT 0 RQ.out rfl rfl h1 ?_)
      | (refine wl_loadQ rfl _ rfl w1.heap.size v x.t RQ2.out rfl ?_))
    refine HC2.out.mono ?_
    rintro e w2 ⟨a2, b2, c2, rfl, ho, hb2⟩
    have O := Lib.hid (ho.k.1.mono B2.out.size)
    have B3 := Lib.hid (bst B2.out hb2 B2.out.size)
    clear ho hb2
    have RF := run_fieldT a2 b2 c2 (.int .i64 x.t) w2
    go_wp2_with fail
    go_ret2
    exact endK_yes HGE.out O.out B3.out
set_option maxRecDepth 100000 in
set_option maxHeartbeats 3200000 in
theorem s_KeysOf (a b c : Value) (x : T) (w : World) (hA : TreeAt w a b c x) (hm : wtT x ≤ 1048576) : Calls Try.prog 38 #[tv a b c x.t] w (EndK x w) := by
  obtain ⟨i0, hi, hz0, hz1, hz2⟩ := info_parts info_int
  have HB := Lib.hid (below1 w (.cells (t4 a b c x.t) 24))
  have R0 := Lib.hid (show RowTr (w.alloc (.cells (t4 a b c x.t) 24)) w.heap.size a b c x.t from Row.new w 24 _)
  have HG := Lib.hid (s_GoodTree a b c x _ (hA.below HB.out) hm)
  have HA := Lib.hid hA
  clear hA hm
  generalize hgb : goodB x = gb at *
  have HGE := Lib.hid hgb; clear hgb
  go_enter Try.func38, Try.ntmps38
  go_wp2_with (refine wl_loadTr rfl _ rfl w.heap.size a b c x.t R0.out rfl ?_)
  refine HG.out.mono ?_
  rintro e w1 ⟨rfl, hb⟩
  have B1 := Lib.hid (bst HB.out hb HB.out.size)
  have R1 := Lib.hid (RowTr.below R0.out hb)
  clear hb HG R0
  cases gb
  · go_wp2_with fail
    go_ret2
    exact endK_no HGE.out B1.out
  · have G := Lib.hid (goodB_iff.1 HGE.out)
    have HK := Lib.hid ((HA.out.k.below B1.out).below (below1 w1 (.cells #[] 3)))
    have B2 := Lib.hid (bst B1.out (below1 w1 (.cells #[] 3)) B1.out.size)
    have c0 := (R1.out.below (below1 w1 (.cells #[] 3))).c0
    have HL : Hid (x.k.length ≤ 20) := G.out.s.n
    go_wp2_with (at_builtin; refine wl_appOwn _ rfl _ _ 22 rfl w1.heap.size 3 i0 (.int .i64 0) 8 Try.underlying22 hi hz0 hz1 hz2 rfl (.slice (some ⟨w1.heap.size, 0, none⟩) 0 0) 0 [] rfl (own_empty w1 3) a _ rfl HK.out.src (by have := HL.out; rw [List.length_map]; unfold maxLen; omega) (by have := HL.out; rw [List.length_map]; omega) (by simp) ?_; intro v3 w3 ho hg hbl; have O3 : Hid (Own w3 w1.heap.size v3 x.k) := (by rw [Nat.zero_add, List.nil_append, List.length_map] at ho; exact ho); have B3 := Lib.hid (B2.out.grown hg B2.out.size (fun g hg => Nat.le_trans B1.out.size (owns_lt (own_empty w1 3) hg).1)); clear ho hg hbl c0)
    go_ret2
    exact endK_yes HGE.out (Own.mono O3.out B1.out.size) B3.out
end Go.Proofs.Ytejaebmbhcgngaa
namespace Go.Proofs.Ytejaebmbhcgngaa
open Go.RowKit Ph Tr
/-- A call ends with a list of its own. -/
def EndLT (gz : List Int) (ok : Bool) (w : World) (e : Ending) (w' : World) : Prop := ∃ v, e = .returned (.tuple #[v, .bool ok]) ∧ Own w' w.heap.size v gz ∧ Below w.heap.size w w'
theorem keys_le (x : T) : (keysT x).length ≤ 2000 := by
  unfold keysT
  split
  · rename_i h; have := (goodB_iff.1 h).s.n; omega
  · simp
end Go.Proofs.Ytejaebmbhcgngaa
namespace Go.Proofs.Ytejaebmbhcgngaa
open Go.ChangeShapes Go.WideShapes Go.ChangeAt Go.RowKit

theorem own : ownKnob Try.prog.godebug = none := by kernel_rfl
theorem laidOut : laidOutB Try.prog = true := by kernel_rfl

section
variable {H : Type} {enc : TypeId × Value → H} {P : Program}
theorem trodAll_below (hl : laidOutB P = true) {W W' : World} (hb : Below W.heap.size W W') :
    ∀ (ts : List TypeId) (vs : List Value) (ds : List (DataW H)) (ps : List MemPlace), (∀ t ∈ ts, P.readableRec t = true ∧ t < P.types.size) →
      DataW.TrodAll enc P W 0 (fun _ => true) true ts vs ds ps → (∀ x ∈ ps, x.block < W.heap.size) →
      DataW.TrodAll enc P W' 0 (fun b => decide (b < W.heap.size)) true ts vs ds ps
  | [], [], [], _, _, h, _ => h
  | t :: ts, v :: vs, d :: ds, ps, hr, h, hlt => by
    obtain ⟨p, q, h1, h2, rfl⟩ := h
    exact ⟨p, q, Below.trod hl (hr t (by simp)).1 (hr t (by simp)).2 h1 hb (fun x hx => hlt x (by simp [hx])),
      trodAll_below hl hb ts vs ds q (fun t ht => hr t (by simp [ht])) h2 (fun x hx => hlt x (by simp [hx])), rfl⟩
  | [], [], _ :: _, _, _, h, _ => h.elim
  | [], _ :: _, _, _, _, h, _ => h.elim
  | _ :: _, [], _, _, _, h, _ => h.elim
  | _ :: _, _ :: _, [], _, _, h, _ => h.elim
theorem var_lt {W : World} {n : String} {g : Nat} {cs : Array Value} (hg : P.globalNamed n = some g) (hv : W.var? P n = some cs) : g < W.heap.size := by
  unfold World.var? at hv
  simp only [hg, Option.bind_some] at hv
  by_cases h : g < W.heap.size
  · exact h
  · have hn : W.heap[g]? = none := by simp; omega
    simp [hn] at hv
theorem trodVars_below (hl : laidOutB P = true) {W W' : World} (hb : Below W.heap.size W W') :
    ∀ (ns : List String) (ds : List (DataW H)) (ps : List MemPlace), (∀ n ∈ ns, ∀ g t, P.globalNamed n = some g → (P.globals[g]?).map (·.type) = some t → P.readableRec t = true ∧ t < P.types.size) →
      DataW.TrodVars enc P W (fun _ => true) ns ds ps → (∀ x ∈ ps, x.block < W.heap.size) →
      DataW.TrodVars enc P W' (fun b => decide (b < W.heap.size)) ns ds ps
  | [], [], _, _, h, _ => h
  | n :: ns, d :: ds, ps, hr, h, hlt => by
    obtain ⟨g, t, cs, fuel, p, q, h1, h2, h3, h4, h5, rfl⟩ := h
    have ht : DataW.Trod enc P W 0 (fun _ => true) true t (.agg cs) d p := ⟨fuel, h4⟩
    obtain ⟨fuel', h4'⟩ := Below.trod hl (hr n (by simp) g t h1 h2).1 (hr n (by simp) g t h1 h2).2 ht hb (fun x hx => hlt x (by simp [hx]))
    exact ⟨g, t, cs, fuel', p, q, h1, h2, var?_below hb h1 (var_lt h1 h3) h3, h4', trodVars_below hl hb ns ds q (fun n hn => hr n (by simp [hn])) h5 (fun x hx => hlt x (by simp [hx])), rfl⟩
  | [], _ :: _, _, _, h, _ => h.elim
  | _ :: _, [], _, _, h, _ => h.elim

/-- THE END OF A LAW: it answered true, nothing old has turned. -/
theorem law_post {fn : Func} {s : ChangeSpec} {W W' : World} {args : Array Value} {ds gs : List (DataW H)} {before : List MemPlace} {tb : TypeId} (hl : laidOutB P = true)
    (hps : ∀ t ∈ fn.params.toList, P.readableRec t = true ∧ t < P.types.size) (hvs : ∀ n ∈ s.vars, ∀ g t, P.globalNamed n = some g → (P.globals[g]?).map (·.type) = some t → P.readableRec t = true ∧ t < P.types.size)
    (hW : DataW.Whole enc P fn.params.toList s.vars false W args.toList ds gs before) (hb : Below W.heap.size W W') (hs : s.fn H (ds ++ gs) = { results := [.lit (.bool true)], args := ds, vars := gs })
    (hr : fn.resultTypes = #[tb]) (ht : P.underlying tb = some .bool) : s.post enc P fn false true false false W args (.bool true) W' := by
  have hW' := hW
  obtain ⟨p, q, hA, hV, rfl, hfz, hnd⟩ := hW
  have hlt : ∀ x ∈ p ++ q, x.block < W.heap.size := fun x hx => hW'.lt x hx
  refine ⟨ds, gs, p ++ q, [], p, q, hW', ?_, ?_, ?_, hb.frame _, fun h => by cases h⟩
  · rw [hs, hr]
    exact trodAll_cons_mk (shut_bool ht _) trodAll_mk0
  · rw [hs]
    exact trodAll_below hl hb _ _ _ _ hps hA (fun x hx => hlt x (by simp [hx]))
  · rw [hs]
    exact trodVars_below hl hb _ _ _ hvs hV (fun x hx => hlt x (by simp [hx]))
end
theorem r_int : Try.prog.readableRec 3 = true ∧ 3 < Try.prog.types.size := ⟨by kernel_rfl, of_decide_eq_true (by kernel_rfl)⟩
theorem cellsInt : Try.prog.cellsOf 3 = 1 := by kernel_rfl
end Go.Proofs.Ytejaebmbhcgngaa
namespace Go.Proofs.Ytejaebmbhcgngaa
open Go.ChangeShapes Go.WideShapes Go.ChangeAt Go.RowKit Ph

theorem ints_cells {H : Type} {enc : TypeId × Value → H} {W : World} {fuel : Nat} {v : Value} {x : DataW H × List MemPlace} (h : DataW.trod enc Try.prog W 0 (fun _ => true) true fuel 22 [v] = some x) : ∃ zs, IntsAt W v zs ∧ zs.length ≤ 9223372036854775807 := by
  rcases open_ints Try.underlying22 Try.underlying3 cellsInt h with ⟨hcs, hx⟩ | ⟨a, len', cap', zs, hcs, _, hl, hm, hz, hx, hcell, hwz⟩
  · simp only [List.cons.injEq, and_true] at hcs
    subst hcs
    exact ⟨[], ⟨none, 0, rfl, fun h => absurd h (by simp)⟩, by simp⟩
  · simp only [List.cons.injEq, and_true] at hcs
    subst hcs
    simp only [if_true] at hz
    have hlen : (zs.take len').length = len' := by rw [List.length_take]; omega
    refine ⟨zs.take len', ⟨some a, cap', by rw [hlen], fun h0 => ?_⟩, by rw [hlen]; unfold maxLen at hm; omega⟩
    rw [hlen] at h0 ⊢
    obtain ⟨b, off, rfl, hc⟩ := ints_at hcell (by omega)
    refine ⟨b, off, rfl, fun i hi => ?_⟩
    rw [hc i (by omega)]
    simp [List.getD, hi]
end Go.Proofs.Ytejaebmbhcgngaa
namespace Go.Proofs.Ytejaebmbhcgngaa
open Go.ChangeShapes Go.WideShapes Go.ChangeAt Go.RowKit Ph Tr


theorem r_tree : Try.prog.readableRec 29 = true ∧ 29 < Try.prog.types.size := ⟨by kernel_rfl, of_decide_eq_true (by kernel_rfl)⟩
set_option maxRecDepth 100000 in
theorem tree_of_arg {H : Type} {enc : TypeId × Value → H} {W : World} {base : Nat} {v : Value} {d : DataW H} {p : List MemPlace} (hval : Value.okWide Try.prog W .any base 29 v)
    (h : DataW.Trod enc Try.prog W 0 (fun _ => true) true 29 v d p) : ∃ (a b c : Value) (x : T), v = tv a b c x.t ∧ TreeAt W a b c x ∧ FitT x := by
  obtain ⟨v0, v1, v2, v3, y0, y1, y2, y3, n, rfl, _, _, h0, h1, h2, h3⟩ := Joins.open_agg4 Try.underlying29 (by kernel_rfl) (by kernel_rfl) hval h
  obtain ⟨ks, k1, k2⟩ := ints_cells h0
  obtain ⟨ls, l1, l2⟩ := ints_cells h1
  obtain ⟨rs, r1, r2⟩ := ints_cells h2
  obtain ⟨t, e3, _, _⟩ := DataW.trod_int Try.underlying3 h3
  simp only [List.cons.injEq, and_true] at e3
  subst e3
  exact ⟨v0, v1, v2, ⟨ks, ls, rs, t⟩, rfl, ⟨k1, l1, r1⟩, ⟨k2, l2, r2⟩⟩
end Go.Proofs.Ytejaebmbhcgngaa
