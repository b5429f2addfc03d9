/- What the laws rest on, part 5. -/
import Derived.Test.YtkbphmnacdpdgaaRD4
import Derived.Deep.Cut
import Derived.Test.YtkbphmnacdpdgaaRows
import Derived.Lib.SmallJoins
import Derived.WalkKit
import Derived.ProofKit
import Derived.OpenShut
import Derived.WalkSmall
import Derived.Deep.DeepHandedRow
import Derived.Lib.LaidTab
import Derived.Deep.Matrix
import Derived.Deep.Grids
namespace Go.Proofs.Ytkbphmnacdpdgaa
open Go.RowKit Ph Kw
/-- Work on its way: what it shares to is what the first shares to. -/
def ShS (w wr : World) (g : Nat) (W W1 : Wk) : Prop := ∃ lo a c, RowW wr g a W1.n c ∧ w.heap.size + 2 ≤ lo ∧ OwnW wr lo wr.heap.size a c W1 ∧ Sm W1 ∧ shareR W1 = shareR W
set_option maxRecDepth 100000 in
set_option maxHeartbeats 12800000 in
theorem s_ShareWork (a c : Value) (W : Wk) (w : World) (hA : WorkAt w a c W) (hd : W.d.length ≤ 1048576) : Calls Try.prog 32 #[wkv a W.n c] w (EndW (shareW W) (goodB W) w) := by
  have HA := Lib.hid hA; have HDL := Lib.hid hd
  have hb0 := (below1 w (.cells (w3 a W.n c) 28)).alloc (by simp) (.cells (w3 nilV 0 nilV) 28)
  have HB := Lib.hid hb0
  have RA := Lib.hid (show RowW ((w.alloc (.cells (w3 a W.n c) 28)).alloc (.cells (w3 nilV 0 nilV) 28)) w.heap.size a W.n c from Row.alloc (Row.new w 28 (w3 a W.n c)) _)
  have RR := Lib.hid (show RowW ((w.alloc (.cells (w3 a W.n c) 28)).alloc (.cells (w3 nilV 0 nilV) 28)) (w.heap.size + 1) nilV 0 nilV from Row.new1 w _ 28 (w3 nilV 0 nilV))
  have HZ : Hid (w.heap.size + 2 ≤ ((w.alloc (.cells (w3 a W.n c) 28)).alloc (.cells (w3 nilV 0 nilV) 28)).heap.size) := by unfold Hid; simp
  clear hA hd hb0
  cases hg : goodB W
  · have HG := Lib.hid hg
    have HL : Hid (shareW W = nilW) := by unfold Hid shareW; rw [hg]; rfl
    rw [HL.out]
    clear hg
    go_enter Try.func32, Try.ntmps32
    go_wp2_with (first
      | (refine wl_loadW rfl _ rfl w.heap.size a W.n c RA.out rfl ?_)
      | (go_at_call 29; refine (s_GoodWork a c W _ (HA.out.below HB.out) HDL.out).mono ?_; rintro e w1 ⟨rfl, hb1⟩; rw [HG.out]; have RR1 := Lib.hid (RowW.below RR.out hb1); have HB1 := Lib.hid (bst HB.out hb1 HB.out.size); clear hb1)
      | (refine wl_storeW rfl _ _ rfl (w.heap.size + 1) nilV 0 nilV nilV 0 nilV RR1.out rfl rfl rfl rfl ?_))
    refine bodyPost_ret (res_row_slot Try.results32 (Row.put RR1.out (w3 nilV 0 nilV)) rfl rfl Try.underlying28 rfl info_work) rfl (endW_no (below_setRow HB1.out (by omega) _))
  · have HG := Lib.hid hg
    have HS := Lib.hid (goodB_iff.1 hg).sm
    have HL : Hid (shareW W = shareR W) := by unfold Hid shareW; rw [hg]; rfl
    rw [HL.out]
    clear hg
    go_enter Try.func32, Try.ntmps32
    go_wp2_with (first
      | (refine wl_loadW rfl _ rfl w.heap.size a W.n c RA.out rfl ?_)
      | (go_at_call 29; refine (s_GoodWork a c W _ (HA.out.below HB.out) HDL.out).mono ?_; rintro e w1 ⟨rfl, hb1⟩; rw [HG.out]; replace RA := Lib.hid (RowW.below RA.out hb1); have RR1 := Lib.hid (RowW.below RR.out hb1); have HB1 := Lib.hid (bst HB.out hb1 HB.out.size); have HZ1 := Lib.hid (Nat.le_trans HZ.out hb1.size); clear hb1)
      | (go_at_call 56; refine (s_l10Own a c W _ (HA.out.below HB1.out) (by rw [HS.out.len]; omega) (fun q hq => Nat.le_trans (HS.out.rows q (by rw [HS.out.len] at hq; exact hq)) (by omega)) HDL.out).mono ?_; rintro e w2 ⟨a2, c2, rfl, ho2, hb2⟩; have RR2 := Lib.hid (RowW.below RR1.out hb2); have HB2 := Lib.hid (bst HB1.out hb2 HB1.out.size); have HO2 := Lib.hid (OwnW.wide ho2 HZ1.out (Nat.le_refl _)); have ON2 := Lib.hid (ownOneW ho2); clear ho2 hb2)
      | (refine wl_storeW rfl _ _ rfl w2.heap.size a2 W.n c2 nilV 0 nilV (Row.new w2 28 (w3 nilV 0 nilV)) rfl rfl ON2.out.1 ON2.out.2 ?_))
    have BV := Lib.hid (below_var w2 (.cells (w3 nilV 0 nilV) 28) (w3 a2 W.n c2))
    have RV : Hid (RowW ((w2.alloc (.cells (w3 nilV 0 nilV) 28)).setRow w2.heap.size (w3 a2 W.n c2)) w2.heap.size a2 W.n c2) := Row.put (Row.new w2 28 (w3 nilV 0 nilV)) _
    generalize (w2.alloc (.cells (w3 nilV 0 nilV) 28)).setRow w2.heap.size (w3 a2 W.n c2) = w3' at *
    have RR3 := Lib.hid (RowW.below RR2.out BV.out)
    have B3 := Lib.hid (bst HB2.out BV.out HB2.out.size)
    have O3 := Lib.hid ((HO2.out.below BV.out).wide (Nat.le_refl _) BV.out.size)
    have GZ : Hid (w.heap.size + 2 ≤ w2.heap.size) := by have h1 := Row.lt RR2.out; unfold Hid; have := HO2.out; omega
    clear RA RR RR1 HB HB1 HB2 HO2 BV HZ HZ1 ON2 RR2
    generalize w2.heap.size = gC at *
    have F3 : Hid (ShS w w3' gC W W) := ⟨_, a2, c2, RV.out, Nat.le_refl _, O3.out, HS.out, rfl⟩
    clear RV O3
    (try simp only [Act.put])
    go_loopg [] (msq W) (fun g wr => ∃ W1 : Wk, Hid (msq W1 ≤ g) ∧ Hid (ShS w wr gC W W1) ∧ Hid (RowW wr (w.heap.size + 1) nilV 0 nilV) ∧ Hid (Below w.heap.size w wr))
    case atStart => exact ⟨W, Nat.le_refl _, F3, RR3, B3⟩
    case round =>
      clear F3 RR3 B3
      obtain ⟨W1, HMS, hF, HR, HB⟩ := hrel
      obtain ⟨lo, a1, c1, hrw, hlo, how, hs1, hsh⟩ := hF.out
      clear hF
      obtain ⟨us, hfam⟩ := how
      obtain ⟨ga, qa, rfl⟩ : ∃ g q, a1 = .slice (some ⟨g, 0, none⟩) 3 q := by
        rcases hfam.shape with ⟨_, h2⟩ | ⟨g, q, h2⟩
        · have h2 : W1.r = [] := h2
          have := hs1.len; rw [h2] at this; simp at this
        · have h2 : a1 = .slice (some ⟨g, 0, none⟩) W1.r.length q := h2
          rw [hs1.len] at h2; exact ⟨g, q, h2⟩
      have HC : Hid (∀ k, k < 3 → ∃ p q, wr.cell? ⟨ga, k, none⟩ = some (.slice p (row W1 k).length q)) := fun k hk => by
        have h1 := (hfam.cell (g := ga) (cap := qa) (i := k) (by show _ = Value.slice _ W1.r.length _; rw [hs1.len]) (by show k < W1.r.length; rw [hs1.len]; exact hk)).1
        obtain ⟨p, q, h2⟩ : ∃ p q, us k = .slice p (row W1 k).length q := (show Own _ lo (us k) (row W1 k) from hfam.row (i := k) (by show k < W1.r.length; rw [hs1.len]; exact hk)).ints.shape
        exact ⟨p, q, by rw [h1, h2]⟩
      have HOW := Lib.hid (show OwnW wr lo wr.heap.size (.slice (some ⟨ga, 0, none⟩) 3 qa) c1 W1 from ⟨us, hfam⟩)
      have HRW := Lib.hid hrw; have HLO := Lib.hid hlo; have HS1 := Lib.hid hs1; have HSH := Lib.hid hsh
      clear hfam hrw hlo hs1 hsh
      have q0 := RowW.c0 HRW.out
      generalize hww : wr = wa at *
      clear hww
      go_wp2_with fail
      go_loopw [5, 6, 20] (fun s5 s6 i wz => ∃ k : Nat, k ≤ 3 ∧ i = .int .i64 k ∧ s5 = .int .i64 (fewTo W1 k : Nat) ∧ s6 = .int .i64 (mostTo W1 k : Nat) ∧ wz = wa) (fun _ _ i _ => 3 - (intOf i).toNat)
      case atStart => exact ⟨0, by omega, rfl, rfl, rfl, rfl⟩
      case round =>
        obtain ⟨k, hk, rfl, rfl, rfl, rfl⟩ := hrel
        by_cases hlt : k < 3
        · have HFB := Lib.hid (fewTo_lt W1 hk); have HMB := Lib.hid (mostTo_lt W1 hk)
          have HST : Hid (fewTo W1 (k + 1) = if (row W1 k).length < (row W1 (fewTo W1 k)).length then k else fewTo W1 k) := rfl
          have HSM : Hid (mostTo W1 (k + 1) = if (row W1 (mostTo W1 k)).length < (row W1 k).length then k else mostTo W1 k) := rfl
          generalize hbb : fewTo W1 k = b at *
          generalize hmm : mostTo W1 k = m at *
          have HBB := Lib.hid hbb; have HMM := Lib.hid hmm; clear hbb hmm
          obtain ⟨pk, ck, qk⟩ := HC.out k hlt
          obtain ⟨pb, cb, qb⟩ := HC.out b HFB.out
          obtain ⟨pm, cm, qm⟩ := HC.out m HMB.out
          generalize (row W1 k).length = mk at *
          generalize (row W1 b).length = mb at *
          generalize (row W1 m).length = mm at *
          have i0 : (k : Int) < 3 := by omega
          have i1 : (0 : Int) ≤ (k : Int) := by omega
          have i2 : (b : Int) < 3 := by have := HFB.out; omega
          have i3 : (0 : Int) ≤ (b : Int) := by omega
          have i4 : (m : Int) < 3 := by have := HMB.out; omega
          have i5 : (0 : Int) ≤ (m : Int) := by omega
          have HLT := Lib.hid hlt
          have e2 : IntKind.i64.wrap ((k : Int) + 1) = (k : Int) + 1 := IntWalk.i64_in _ (by omega)
          clear hlt
          by_cases hc : mk < mb
          · rw [if_pos hc] at HST
            have j1 : (mk : Int) < (mb : Int) := by omega
            by_cases hd : mm < mk
            · rw [if_pos hd] at HSM
              have j2 : (mk : Int) > (mm : Int) := by omega
              clear hc hd
              go_wp2_with fail
              go_roundw
              case rel => exact ⟨k + 1, by have := HLT.out; omega, by go_num, by rw [HST.out], by rw [HSM.out], trivial⟩
              case measure => have := HLT.out; simp [intOf]; omega
            · rw [if_neg hd] at HSM
              have j2 : ¬ (mk : Int) > (mm : Int) := by omega
              clear hc hd
              go_wp2_with fail
              go_roundw
              case rel => exact ⟨k + 1, by have := HLT.out; omega, by go_num, by rw [HST.out], by rw [HSM.out], trivial⟩
              case measure => have := HLT.out; simp [intOf]; omega
          · rw [if_neg hc] at HST
            have j1 : ¬ (mk : Int) < (mb : Int) := by omega
            by_cases hd : mm < mk
            · rw [if_pos hd] at HSM
              have j2 : (mk : Int) > (mm : Int) := by omega
              clear hc hd
              go_wp2_with fail
              go_roundw
              case rel => exact ⟨k + 1, by have := HLT.out; omega, by go_num, by rw [HST.out], by rw [HSM.out], trivial⟩
              case measure => have := HLT.out; simp [intOf]; omega
            · rw [if_neg hd] at HSM
              have j2 : ¬ (mk : Int) > (mm : Int) := by omega
              clear hc hd
              go_wp2_with fail
              go_roundw
              case rel => exact ⟨k + 1, by have := HLT.out; omega, by go_num, by rw [HST.out], by rw [HSM.out], trivial⟩
              case measure => have := HLT.out; simp [intOf]; omega
        · obtain rfl : k = 3 := by omega
          clear hk hlt
          have HFL := Lib.hid (few_lt W1); have HML := Lib.hid (most_lt W1)
          have HST : Hid (stopB W1 = decide (ml W1 < fl W1 + 2)) := rfl
          have HNL := Lib.hid (fun h => nxt_less HS1.out (W := W1) h)
          have HSG := Lib.hid (fun h => share_go HS1.out (W := W1) h)
          have HGB := Lib.hid (fun h => go_bounds HS1.out (W := W1) h)
          have HFN := Lib.hid (fun h => few_ne (W := W1) h)
          have HSS := Lib.hid (fun h => share_stop (W := W1) h)
          have HNX : Hid (nxt W1 = steal W1 (few W1) (most W1)) := rfl
          unfold ml fl at HST
          generalize hfw : few W1 = fw at *
          generalize hmo : most W1 = mo at *
          have hfw3 : fewTo W1 3 = fw := hfw
          have hmo3 : mostTo W1 3 = mo := hmo
          rw [hfw3, hmo3]
          clear hfw hmo hfw3 hmo3
          obtain ⟨pf, cf, qf⟩ := HC.out fw HFL.out
          obtain ⟨pm, cm, qm⟩ := HC.out mo HML.out
          have LF := Lib.hid (HS1.out.rows fw HFL.out); have LM := Lib.hid (HS1.out.rows mo HML.out)
          generalize hlf : (row W1 fw).length = lf at *
          generalize hlm : (row W1 mo).length = lm at *
          have HLF := Lib.hid hlf; have HLM := Lib.hid hlm
          clear hlf hlm
          have i0 : (fw : Int) < 3 := by have := HFL.out; omega
          have i1 : (0 : Int) ≤ (fw : Int) := by omega
          have i2 : (mo : Int) < 3 := by have := HML.out; omega
          have i3 : (0 : Int) ≤ (mo : Int) := by omega
          have e1 : IntKind.i64.wrap ((lf : Int) + 2) = (lf : Int) + 2 := IntWalk.i64_in _ (by have := LF.out; omega)
          by_cases hc : lm < lf + 2
          · have i4 : (lm : Int) < (lf : Int) + 2 := by omega
            have HSB : Hid (stopB W1 = true) := by unfold Hid; rw [HST.out]; exact decide_eq_true hc
            have HE : Hid (shareR W = W1) := by unfold Hid; rw [← HSH.out]; exact HSS.out HSB.out
            clear hc
            go_upto_region 14 with fail
            go_quiet (fail)
            have hbq := below_drewN (Below.refl wr.heap.size wr) nq
            replace HRW := Lib.hid (RowW.below HRW.out hbq)
            replace HR := Lib.hid (RowW.below HR.out hbq)
            replace HB := Lib.hid (bst HB.out hbq HB.out.size)
            replace HOW := Lib.hid ((HOW.out.below hbq).wide (Nat.le_refl _) hbq.size)
            clear hbq qf qm q0 HC
            generalize wr.drewN nq = wq at *
            go_wp2_with (first
              | (refine wl_loadW rfl _ rfl gC _ W1.n c1 HRW.out rfl ?_)
              | (go_at_call 56; refine (s_l10Own _ c1 W1 _ HOW.out.reads (by rw [HS1.out.len]; omega) (fun q hq => Nat.le_trans (HS1.out.rows q (by rw [HS1.out.len] at hq; exact hq)) (by omega)) (by have := (sm_len HS1.out).2; omega)).mono ?_; rintro e w5 ⟨a5, c5, rfl, ho5, hb5⟩; have R5 := Lib.hid (RowW.below HR.out hb5); have B5 := Lib.hid (bst HB.out hb5 HB.out.size); have O5 := Lib.hid (ho5.wide HB.out.size (Nat.le_refl _)); have ON5 := Lib.hid (ownOneW O5.out); clear ho5 hb5)
              | (refine wl_storeW rfl _ _ rfl (w.heap.size + 1) a5 W1.n c5 nilV 0 nilV R5.out rfl rfl ON5.out.1 ON5.out.2 ?_))
            refine bodyPost_ret (res_row_slot Try.results32 (Row.put R5.out (w3 a5 W1.n c5)) rfl rfl Try.underlying28 rfl info_work) rfl ?_
            rw [HE.out]
            exact ⟨a5, c5, rfl, (OwnW.wholeRow O5.out R5.out (w3 a5 W1.n c5)).wide (Nat.le_refl _) (Nat.le_of_eq (size_setRow w5 (w.heap.size + 1) (w3 a5 W1.n c5)).symm), below_setRow B5.out (by omega) _⟩
          · have i4 : ¬ (lm : Int) < (lf : Int) + 2 := by omega
            have HSB : Hid (stopB W1 = false) := by unfold Hid; rw [HST.out]; exact decide_eq_false hc
            obtain ⟨hn1, hn2⟩ := HNL.out HSB.out
            have HN1 := Lib.hid hn1; have HN2 := Lib.hid hn2
            obtain ⟨hg1, hg2⟩ := HGB.out HSB.out
            have hwf : isW (fw : Int) = true := isW_iff.2 ⟨by omega, by omega⟩
            have hwm : isW (mo : Int) = true := isW_iff.2 ⟨by omega, by omega⟩
            have HE : Hid (en W1 (3, (fw : Int), (mo : Int)) = true) := by
              unfold Hid; rw [en_steal (W := W1) (s := (3, (fw : Int), (mo : Int))) hwf rfl]
              show (isW (mo : Int) && (decide ((mo : Int) ≠ (fw : Int)) && (decide (0 < (row W1 (mo : Int).toNat).length) && decide ((row W1 (fw : Int).toNat).length < 12)))) = true
              have hne := HFN.out HSB.out
              rw [show (mo : Int).toNat = mo by omega, show (fw : Int).toNat = fw by omega, hwm, HLM.out, HLF.out, decide_eq_true hg1, decide_eq_true hg2, decide_eq_true (show (mo : Int) ≠ (fw : Int) by omega)]; rfl
            have HX : Hid (stp W1 (3, (fw : Int), (mo : Int)) = nxt W1) := by
              unfold Hid; rw [stp_yes HE.out, HNX.out]; unfold act
              rw [if_neg (show ¬ (3 : Int) = 1 by decide), if_neg (show ¬ (3 : Int) = 2 by decide)]
              show steal W1 (fw : Int).toNat (mo : Int).toNat = _
              rw [show (mo : Int).toNat = mo by omega, show (fw : Int).toNat = fw by omega]
            clear hc hn1 hn2 hg1 hg2 hwf hwm
            go_upto_region 14 with fail
            go_quiet (fail)
            have hbq := below_drewN (Below.refl wr.heap.size wr) nq
            replace HRW := Lib.hid (RowW.below HRW.out hbq)
            replace HR := Lib.hid (RowW.below HR.out hbq)
            replace HB := Lib.hid (bst HB.out hbq HB.out.size)
            replace HOW := Lib.hid ((HOW.out.below hbq).wide (Nat.le_refl _) hbq.size)
            clear hbq qf qm q0 HC
            generalize wr.drewN nq = wq at *
            have HQ := Lib.hid (s_l10Step _ c1 W1 3 fw mo wq lo wq.heap.size HOW.out HS1.out (Nat.le_refl _))
            go_upto_region 17 with (first
              | (refine wl_loadW rfl _ rfl gC _ W1.n c1 HRW.out rfl ?_)
              | (go_at_call 55; refine HQ.out.mono ?_; rintro e y3 ⟨c3, rfl, ho3, hc3, hk3, _⟩; rw [HX.out] at ho3 ⊢; rw [HE.out]; have HO3 := Lib.hid ho3; have RW3 := Lib.hid (show RowW _ gC _ _ _ from hk3 _ _ HRW.out); have R3 := Lib.hid (show RowW _ (w.heap.size + 1) nilV 0 nilV from hk3 _ _ HR.out); have B3 := Lib.hid (below_chg HB.out hc3 (by have := HLO.out; omega) HB.out.size); have ON3 := Lib.hid (ownOneW ho3); clear ho3 hc3 hk3)
              | (refine wl_storeW rfl _ _ rfl y3.heap.size (.slice (some ⟨ga, 0, none⟩) 3 qa) (nxt W1).n c3 nilV 0 nilV (Row.new y3 28 (w3 nilV 0 nilV)) rfl rfl ON3.out.1 ON3.out.2 ?_))
            have BV4 := Lib.hid (below_var y3 (.cells (w3 nilV 0 nilV) 28) (w3 (.slice (some ⟨ga, 0, none⟩) 3 qa) (nxt W1).n c3))
            have RV4 : Hid (RowW ((y3.alloc (.cells (w3 nilV 0 nilV) 28)).setRow y3.heap.size (w3 (.slice (some ⟨ga, 0, none⟩) 3 qa) (nxt W1).n c3)) y3.heap.size (.slice (some ⟨ga, 0, none⟩) 3 qa) (nxt W1).n c3) := Row.put (Row.new y3 28 (w3 nilV 0 nilV)) _
            generalize (y3.alloc (.cells (w3 nilV 0 nilV) 28)).setRow y3.heap.size (w3 (.slice (some ⟨ga, 0, none⟩) 3 qa) (nxt W1).n c3) = w4 at *
            have RW4 := Lib.hid (RowW.below RW3.out BV4.out)
            have R4 := Lib.hid (RowW.below R3.out BV4.out)
            have B4 := Lib.hid (bst B3.out BV4.out B3.out.size)
            have O4 := Lib.hid ((HO3.out.below BV4.out).wide (Nat.le_refl _) BV4.out.size)
            go_wp2_with (first
              | (refine wl_loadW rfl _ rfl y3.heap.size (.slice (some ⟨ga, 0, none⟩) 3 qa) (nxt W1).n c3 RV4.out rfl ?_)
              | (refine wl_storeW rfl _ _ rfl gC (.slice (some ⟨ga, 0, none⟩) 3 qa) (nxt W1).n c3 (.slice (some ⟨ga, 0, none⟩) 3 qa) W1.n c1 RW4.out rfl rfl ON3.out.1 ON3.out.2 ?_))
            have RW5 : Hid (RowW (w4.setRow gC (w3 (.slice (some ⟨ga, 0, none⟩) 3 qa) (nxt W1).n c3)) gC (.slice (some ⟨ga, 0, none⟩) 3 qa) (nxt W1).n c3) := Row.put RW4.out _
            have R5 : Hid (RowW (w4.setRow gC (w3 (.slice (some ⟨ga, 0, none⟩) 3 qa) (nxt W1).n c3)) (w.heap.size + 1) nilV 0 nilV) := Row.putOther R4.out _ (by have := GZ.out; omega)
            have B5 := Lib.hid (below_setRow B4.out (show w.heap.size ≤ gC by have := GZ.out; omega) (w3 (.slice (some ⟨ga, 0, none⟩) 3 qa) (nxt W1).n c3))
            have O5 := Lib.hid ((OwnW.wholeRow O4.out RW4.out (w3 (.slice (some ⟨ga, 0, none⟩) 3 qa) (nxt W1).n c3)).wide (Nat.le_refl _) (Nat.le_of_eq (size_setRow w4 gC (w3 (.slice (some ⟨ga, 0, none⟩) 3 qa) (nxt W1).n c3)).symm))
            go_roundg (msq (nxt W1))
            case measure => have := HN2.out; have := HMS.out; omega
            case rel => exact ⟨nxt W1, Nat.le_refl _, ⟨lo, _, c3, RW5.out, HLO.out, O5.out, HN1.out, by rw [HSG.out HSB.out]; exact HSH.out⟩, R5, B5⟩
end Go.Proofs.Ytkbphmnacdpdgaa
namespace Go.Proofs.Ytkbphmnacdpdgaa
open Go.ChangeShapes Go.WideShapes Go.ChangeAt Go.RowKit

theorem own : ownKnob Try.prog.godebug = none := by kernel_rfl
theorem laidOut : laidOutB Try.prog = true := by kernel_rfl

section
variable {H : Type} {enc : TypeId × Value → H} {P : Program}
theorem trodAll_below (hl : laidOutB P = true) {W W' : World} (hb : Below W.heap.size W W') :
    ∀ (ts : List TypeId) (vs : List Value) (ds : List (DataW H)) (ps : List MemPlace), (∀ t ∈ ts, P.readableRec t = true ∧ t < P.types.size) →
      DataW.TrodAll enc P W 0 (fun _ => true) true ts vs ds ps → (∀ x ∈ ps, x.block < W.heap.size) →
      DataW.TrodAll enc P W' 0 (fun b => decide (b < W.heap.size)) true ts vs ds ps
  | [], [], [], _, _, h, _ => h
  | t :: ts, v :: vs, d :: ds, ps, hr, h, hlt => by
    obtain ⟨p, q, h1, h2, rfl⟩ := h
    exact ⟨p, q, Below.trod hl (hr t (by simp)).1 (hr t (by simp)).2 h1 hb (fun x hx => hlt x (by simp [hx])),
      trodAll_below hl hb ts vs ds q (fun t ht => hr t (by simp [ht])) h2 (fun x hx => hlt x (by simp [hx])), rfl⟩
  | [], [], _ :: _, _, _, h, _ => h.elim
  | [], _ :: _, _, _, _, h, _ => h.elim
  | _ :: _, [], _, _, _, h, _ => h.elim
  | _ :: _, _ :: _, [], _, _, h, _ => h.elim
theorem var_lt {W : World} {n : String} {g : Nat} {cs : Array Value} (hg : P.globalNamed n = some g) (hv : W.var? P n = some cs) : g < W.heap.size := by
  unfold World.var? at hv
  simp only [hg, Option.bind_some] at hv
  by_cases h : g < W.heap.size
  · exact h
  · have hn : W.heap[g]? = none := by simp; omega
    simp [hn] at hv
theorem trodVars_below (hl : laidOutB P = true) {W W' : World} (hb : Below W.heap.size W W') :
    ∀ (ns : List String) (ds : List (DataW H)) (ps : List MemPlace), (∀ n ∈ ns, ∀ g t, P.globalNamed n = some g → (P.globals[g]?).map (·.type) = some t → P.readableRec t = true ∧ t < P.types.size) →
      DataW.TrodVars enc P W (fun _ => true) ns ds ps → (∀ x ∈ ps, x.block < W.heap.size) →
      DataW.TrodVars enc P W' (fun b => decide (b < W.heap.size)) ns ds ps
  | [], [], _, _, h, _ => h
  | n :: ns, d :: ds, ps, hr, h, hlt => by
    obtain ⟨g, t, cs, fuel, p, q, h1, h2, h3, h4, h5, rfl⟩ := h
    have ht : DataW.Trod enc P W 0 (fun _ => true) true t (.agg cs) d p := ⟨fuel, h4⟩
    obtain ⟨fuel', h4'⟩ := Below.trod hl (hr n (by simp) g t h1 h2).1 (hr n (by simp) g t h1 h2).2 ht hb (fun x hx => hlt x (by simp [hx]))
    exact ⟨g, t, cs, fuel', p, q, h1, h2, var?_below hb h1 (var_lt h1 h3) h3, h4', trodVars_below hl hb ns ds q (fun n hn => hr n (by simp [hn])) h5 (fun x hx => hlt x (by simp [hx])), rfl⟩
  | [], _ :: _, _, _, h, _ => h.elim
  | _ :: _, [], _, _, h, _ => h.elim

/-- THE END OF A LAW: it answered true, nothing old has turned. -/
theorem law_post {fn : Func} {s : ChangeSpec} {W W' : World} {args : Array Value} {ds gs : List (DataW H)} {before : List MemPlace} {tb : TypeId} (hl : laidOutB P = true)
    (hps : ∀ t ∈ fn.params.toList, P.readableRec t = true ∧ t < P.types.size) (hvs : ∀ n ∈ s.vars, ∀ g t, P.globalNamed n = some g → (P.globals[g]?).map (·.type) = some t → P.readableRec t = true ∧ t < P.types.size)
    (hW : DataW.Whole enc P fn.params.toList s.vars false W args.toList ds gs before) (hb : Below W.heap.size W W') (hs : s.fn H (ds ++ gs) = { results := [.lit (.bool true)], args := ds, vars := gs })
    (hr : fn.resultTypes = #[tb]) (ht : P.underlying tb = some .bool) : s.post enc P fn false true false false W args (.bool true) W' := by
  have hW' := hW
  obtain ⟨p, q, hA, hV, rfl, hfz, hnd⟩ := hW
  have hlt : ∀ x ∈ p ++ q, x.block < W.heap.size := fun x hx => hW'.lt x hx
  refine ⟨ds, gs, p ++ q, [], p, q, hW', ?_, ?_, ?_, hb.frame _, fun h => by cases h⟩
  · rw [hs, hr]
    exact trodAll_cons_mk (shut_bool ht _) trodAll_mk0
  · rw [hs]
    exact trodAll_below hl hb _ _ _ _ hps hA (fun x hx => hlt x (by simp [hx]))
  · rw [hs]
    exact trodVars_below hl hb _ _ _ hvs hV (fun x hx => hlt x (by simp [hx]))
end
theorem cellsInt : Try.prog.cellsOf 3 = 1 := by kernel_rfl
end Go.Proofs.Ytkbphmnacdpdgaa
namespace Go.Proofs.Ytkbphmnacdpdgaa
open Go.ChangeShapes Go.WideShapes Go.ChangeAt Go.RowKit Ph

theorem cellsIntsL : Try.prog.cellsOf 26 = 1 := by kernel_rfl
theorem add_none (b off i : Nat) : (⟨b, off, none⟩ : Addr).add i = ⟨b, off + i, none⟩ := by simp [Addr.add]
theorem ints_cells {H : Type} {enc : TypeId × Value → H} {W : World} {fuel : Nat} {v : Value} {x : DataW H × List MemPlace} (h : DataW.trod enc Try.prog W 0 (fun _ => true) true fuel 26 [v] = some x) : ∃ zs, IntsAt W v zs ∧ zs.length ≤ 9223372036854775807 := by
  rcases open_ints Try.underlying26 Try.underlying3 cellsInt h with ⟨hcs, hx⟩ | ⟨a, len', cap', zs, hcs, _, hl, hm, hz, hx, hcell, hwz⟩
  · simp only [List.cons.injEq, and_true] at hcs
    subst hcs
    exact ⟨[], ⟨none, 0, rfl, fun h => absurd h (by simp)⟩, by simp⟩
  · simp only [List.cons.injEq, and_true] at hcs
    subst hcs
    simp only [if_true] at hz
    have hlen : (zs.take len').length = len' := by rw [List.length_take]; omega
    refine ⟨zs.take len', ⟨some a, cap', by rw [hlen], fun h0 => ?_⟩, by rw [hlen]; unfold maxLen at hm; omega⟩
    rw [hlen] at h0 ⊢
    obtain ⟨b, off, rfl, hc⟩ := ints_at hcell (by omega)
    refine ⟨b, off, rfl, fun i hi => ?_⟩
    rw [hc i (by omega)]
    simp [List.getD, hi]
theorem rows_cells {H : Type} {enc : TypeId × Value → H} {W : World} {fuel : Nat} {v : Value} {x : DataW H × List MemPlace} (h : DataW.trod enc Try.prog W 0 (fun _ => true) true fuel 25 [v] = some x) : ∃ fs, RowsAt W v fs ∧ Fit fs ∧ fs.length ≤ 9223372036854775807 := by
  rcases Deep.open_int_rows Try.underlying25 Try.underlying26 Try.underlying3 cellsIntsL cellsInt h with ⟨hcs, hx⟩ | ⟨a, len, cap, A, L, C, Z, hcs, _, hl, hm, hx, hrow⟩
  · simp only [List.cons.injEq, and_true] at hcs
    subst hcs
    exact ⟨[], ⟨none, 0, rfl, fun h => absurd h (by simp)⟩, fun k hk => by simp at hk, by simp⟩
  · simp only [List.cons.injEq, and_true] at hcs
    subst hcs
    have hln : ((List.range len).map fun r => (Z r).take (L r)).length = len := by simp
    have hgd : ∀ i, i < len → ((List.range len).map fun r => (Z r).take (L r)).getD i [] = (Z i).take (L i) := fun i hi => by simp [List.getD, hi]
    have hlr : ∀ i, i < len → ((Z i).take (L i)).length = L i := fun i hi => by
      obtain ⟨_, h1, _, h2, _⟩ := hrow i (by omega)
      rw [List.length_take]; omega
    refine ⟨(List.range len).map fun r => (Z r).take (L r), ⟨some a, cap, by rw [hln], fun h0 => ?_⟩, fun k hk => ?_, by rw [hln]; unfold maxLen at hm; omega⟩
    · rw [hln] at h0 ⊢
      obtain ⟨b, off, spot⟩ := a
      have hspot : spot = none := by simpa [Addr.add] using World.cell?_spot (hrow 0 (by omega)).1
      subst hspot
      refine ⟨b, off, rfl, fun i hi => ?_⟩
      obtain ⟨q, h1, h2, h3, _, h5, h6⟩ := hrow i (by omega)
      rw [add_none] at q
      refine ⟨_, q, ?_⟩
      rw [hgd i hi]
      refine ⟨A i, C i, by rw [hlr i hi], fun hp => ?_⟩
      rw [hlr i hi] at hp ⊢
      cases hA : A i with
      | none => have := h5 hA; omega
      | some a' =>
        obtain ⟨_, hc⟩ := h6 a' hA
        obtain ⟨b', off', spot'⟩ := a'
        have hs' : spot' = none := by simpa [Addr.add] using World.cell?_spot (hc 0 (by omega))
        subst hs'
        refine ⟨b', off', rfl, fun j hj => ?_⟩
        have := hc j (by omega)
        rw [add_none] at this
        rw [this]
        simp [List.getD, hj]
    · rw [hln] at hk
      rw [hgd k hk, hlr k hk]
      obtain ⟨_, h1, h2, _⟩ := hrow k (by omega)
      unfold maxLen at h2; omega
end Go.Proofs.Ytkbphmnacdpdgaa
namespace Go.Proofs.Ytkbphmnacdpdgaa
open Go.ChangeShapes Go.WideShapes Go.ChangeAt Go.RowKit Ph Kw


theorem r_work : Try.prog.readableRec 54 = true ∧ 54 < Try.prog.types.size := ⟨by kernel_rfl, of_decide_eq_true (by kernel_rfl)⟩
set_option maxRecDepth 100000 in
theorem work_of_arg {H : Type} {enc : TypeId × Value → H} {W : World} {base : Nat} {v : Value} {d : DataW H} {p : List MemPlace} (hval : Value.okWide Try.prog W .any base 54 v)
    (h : DataW.Trod enc Try.prog W 0 (fun _ => true) true 54 v d p) : ∃ (a c : Value) (k : Wk), v = wkv a k.n c ∧ WorkAt W a c k ∧ FitW k := by
  obtain ⟨v0, v1, v2, y0, y1, y2, n, rfl, _, _, h0, h1, h2⟩ := Joins.open_agg3 Try.underlying54 (by kernel_rfl) (by kernel_rfl) hval h
  obtain ⟨fs, r1, r2, r3⟩ := rows_cells h0
  obtain ⟨x, e1, _, _⟩ := DataW.trod_int Try.underlying3 h1
  obtain ⟨zs, t1, t2⟩ := ints_cells h2
  simp only [List.cons.injEq, and_true] at e1
  subst e1
  exact ⟨v0, v2, ⟨fs, x, zs⟩, rfl, ⟨r1, t1⟩, ⟨r2, r3, t2⟩⟩
end Go.Proofs.Ytkbphmnacdpdgaa
