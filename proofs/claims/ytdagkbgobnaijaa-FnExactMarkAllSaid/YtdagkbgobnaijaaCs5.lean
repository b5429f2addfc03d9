/- The reference's MarkAll. -/
import Derived.Test.YtdagkbgobnaijaaCs4
import Derived.Test.YtdagkbgobnaijaaHs5
namespace Go.Proofs.Ytdagkbgobnaijaa.Ph
/-- The next choice: 0 when they are used up. -/
def choAt (zs : List Int) (n : Nat) : Int := zs.getD n 0
theorem choB_iff {zs : List Int} : choB zs = true ↔ zs.length ≤ 40 ∧ ∀ n, 0 ≤ zs.getD n 0 ∧ zs.getD n 0 ≤ 100 := by
  unfold choB
  rw [Bool.and_eq_true, decide_eq_true_eq, List.all_eq_true]
  refine and_congr_right fun _ => ⟨fun h i => ?_, fun h z hz => ?_⟩
  · by_cases e : i < zs.length
    · have := h _ (getD_memI e)
      simp only [inB, Bool.and_eq_true, decide_eq_true_eq] at this
      exact this
    · rw [getD_outI e]; omega
  · obtain ⟨i, hi, rfl⟩ := List.getElem_of_mem hz
    have := h i
    have e : zs.getD i 0 = zs[i] := by simp [List.getD, List.getElem?_eq_getElem hi]
    rw [e] at this
    simp only [inB, Bool.and_eq_true, decide_eq_true_eq]
    exact this
theorem markR_no {h : H} {zs : List Int} (k : markOk h zs = false) : (markR h zs).1 = [] ∧ (((markR h zs).2 : Nat) : Int) = 0 := by unfold markR; rw [k]; exact ⟨rfl, rfl⟩
theorem markR_yes {h : H} {zs : List Int} (k : markOk h zs = true) : (markR h zs).1 = endC h ∧ (((markR h zs).2 : Nat) : Int) = (endN h : Int) := by unfold markR; rw [k]; exact ⟨rfl, rfl⟩
/-- A choice of one of m. -/
theorem pickOf (x : Int) (hx : 0 ≤ x) {m : Nat} (hm : 0 < m) : ∃ r : Nat, x.tmod (m : Int) = (r : Int) ∧ r < m := by
  rw [Int.tmod_eq_emod_of_nonneg hx]
  have h1 := Int.emod_nonneg x (b := (m : Int)) (by omega)
  have h2 := Int.emod_lt_of_pos x (b := (m : Int)) (by omega)
  exact ⟨(x % (m : Int)).toNat, by omega, by omega⟩
theorem greyAt {cs : List Int} (r : Nat) (h : r < (ofC cs 1).length) : ∃ k : Nat, (ofC cs 1).getD r 0 = k ∧ k < cs.length ∧ cs.getD k 0 = 1 := by
  have := mem_ofC.1 (getD_memI h)
  obtain ⟨i, h1, h2, h3⟩ := this
  exact ⟨i, h3, h1, h2⟩
end Go.Proofs.Ytdagkbgobnaijaa.Ph
namespace Go.Proofs.Ytdagkbgobnaijaa
open Go.RowKit Ph

set_option maxRecDepth 100000 in
set_option maxHeartbeats 3200000 in
theorem s_MarkAll (a b c v : Value) (h : H) (zs : List Int) (w : World) (hA : HeapAt w a b c h) (hz : IntsAt w v zs) : Calls Try.prog 58 #[hv a b c, v] w (EndII (markR h zs).1 ((markR h zs).2 : Int) (markOk h zs) w) := by
  have hb0 := below1 w (.cells (c3 a b c) 32)
  have A0 := Lib.hid (hA.below hb0)
  have Z0 := Lib.hid (hz.below hb0)
  have HB := Lib.hid hb0
  have R0 := Lib.hid (show RowH _ _ a b c from Row.new w 32 (c3 a b c))
  have HF := Lib.hid hA.f
  clear hA hb0
  have HC := Lib.hid (s_GoodHeap a b c h _ A0.out)
  have HE1 := Lib.hid (markR_no (h := h) (zs := zs))
  have HE2 := Lib.hid (markR_yes (h := h) (zs := zs))
  have hE : markOk h zs = (good h && (decide (zs.length ≤ 40) && zs.all (inB 0 100))) := rfl
  have HGI := Lib.hid (good_iff (h := h)).1
  have HCI : Hid (zs.length ≤ 40 → zs.all (inB 0 100) = true → ∀ n, 0 ≤ zs.getD n 0 ∧ zs.getD n 0 ≤ 100) := fun h1 h2 => (choB_iff.1 (by unfold choB; rw [decide_eq_true h1, h2]; rfl)).2
  have HAL : Hid (zs.length ≤ 40 → ∀ w', IntsAt w' v zs → Calls Try.prog 104 #[v, .int .i64 0, .int .i64 100] w' fun e w'' => e = .returned (.bool (zs.all (inB 0 100))) ∧ w' = w'') := fun h1 w' hh => s_l1All v zs 0 100 w' hh (by omega)
  obtain ⟨va, vc, rfl⟩ := hz.shape
  have HZ := Lib.hid hz
  clear hz
  generalize good h = x at *
  generalize zs.all (inB 0 100) = y at *
  generalize hok : markOk h zs = ok at *
  clear hok
  generalize (markR h zs).1 = g1 at *
  generalize ((markR h zs).2 : Int) = g2 at *
  generalize hm : zs.length = m at *
  have HM := Lib.hid hm; clear hm
  have c0 := R0.out.c0
  have c1 := R0.out.c1
  have c2 := R0.out.c2
  cases x
  · have HE : Hid (ok = false) := by unfold Hid; rw [hE]; rfl
    clear hE
    obtain ⟨HR1, HR2⟩ := HE1.out HE.out
    have HR1 := Lib.hid HR1; have HR2 := Lib.hid HR2
    go_enter Try.func58, Try.ntmps58
    go_wp2_with (go_at_call 103; refine HC.out.mono ?_; rintro e w1 ⟨rfl, hb1⟩; have B1 := Lib.hid (bst HB.out hb1 HB.out.size); have Z1 := Lib.hid (Z0.out.below hb1); have A1 := Lib.hid (A0.out.below hb1); have R1 := Lib.hid (R0.out.below hb1); have d0 := R1.out.c0; have d1 := R1.out.c1; have d2 := R1.out.c2; clear hb1)
    go_ret3
    exact endII_no B1.out HR1.out HR2.out HE.out
  by_cases h41 : 40 < m
  · have h40 : ¬ m ≤ 40 := by omega
    have HE : Hid (ok = false) := by unfold Hid; rw [hE, decide_eq_false h40]; rfl
    have hm40 : (40 : Int) < (m : Int) := by omega
    clear hE
    obtain ⟨HR1, HR2⟩ := HE1.out HE.out
    have HR1 := Lib.hid HR1; have HR2 := Lib.hid HR2
    go_enter Try.func58, Try.ntmps58
    go_wp2_with (go_at_call 103; refine HC.out.mono ?_; rintro e w1 ⟨rfl, hb1⟩; have B1 := Lib.hid (bst HB.out hb1 HB.out.size); have Z1 := Lib.hid (Z0.out.below hb1); have A1 := Lib.hid (A0.out.below hb1); have R1 := Lib.hid (R0.out.below hb1); have d0 := R1.out.c0; have d1 := R1.out.c1; have d2 := R1.out.c2; clear hb1)
    go_ret3
    exact endII_no B1.out HR1.out HR2.out HE.out
  have h40 : m ≤ 40 := by omega
  have hm40 : ¬ (40 : Int) < (m : Int) := by omega
  replace HAL := Lib.hid (HAL.out h40)
  cases y
  · have HE : Hid (ok = false) := by unfold Hid; rw [hE, decide_eq_true h40]; rfl
    clear hE
    obtain ⟨HR1, HR2⟩ := HE1.out HE.out
    have HR1 := Lib.hid HR1; have HR2 := Lib.hid HR2
    go_enter Try.func58, Try.ntmps58
    go_wp2_with (first
      | (go_at_call 103; refine HC.out.mono ?_; rintro e w1 ⟨rfl, hb1⟩; have B1 := Lib.hid (bst HB.out hb1 HB.out.size); have Z1 := Lib.hid (Z0.out.below hb1); have A1 := Lib.hid (A0.out.below hb1); have R1 := Lib.hid (R0.out.below hb1); have d0 := R1.out.c0; have d1 := R1.out.c1; have d2 := R1.out.c2; clear hb1)
      | (go_at_call 104; refine (HAL.out _ Z1.out).mono ?_; rintro e w2 ⟨rfl, rfl⟩))
    go_ret3
    exact endII_no B1.out HR1.out HR2.out HE.out
  have HE : Hid (ok = true) := by unfold Hid; rw [hE, decide_eq_true h40]; rfl
  clear hE
  obtain ⟨HR1, HR2⟩ := HE2.out HE.out
  have HR1 := Lib.hid HR1; have HR2 := Lib.hid HR2
  have HG := Lib.hid (HGI.out rfl)
  have HCH := Lib.hid (HCI.out h40 rfl)
  clear HCI HGI HE1 HE2
  go_enter Try.func58, Try.ntmps58
  go_wp2_with (first
    | (go_at_call 103; refine HC.out.mono ?_; rintro e w1 ⟨rfl, hb1⟩; have B1 := Lib.hid (bst HB.out hb1 HB.out.size); have Z1 := Lib.hid (Z0.out.below hb1); have A1 := Lib.hid (A0.out.below hb1); have R1 := Lib.hid (R0.out.below hb1); have d0 := R1.out.c0; have d1 := R1.out.c1; have d2 := R1.out.c2; clear hb1)
    | (go_at_call 104; refine (HAL.out _ Z1.out).mono ?_; rintro e w2 ⟨rfl, rfl⟩))
  refine (s_l6Start a b c h _ A1.out HG.out).mono ?_
  rintro e w3 ⟨v3, rfl, ho3, hb3⟩
  have O3 := Lib.hid (ho3.mono B1.out.size)
  have B3 := Lib.hid (bst B1.out hb3 B1.out.size)
  have R3 := Lib.hid (R1.out.below hb3)
  clear ho3 hb3 d0 d1 d2 c0 c1 c2
  go_wp2_with fail
  go_loopw [8] (fun i wr => ∃ n cs, i = .int .i64 (n : Nat) ∧ n ≤ 12 ∧ Hid (Mk h cs n) ∧ Hid (Own wr w.heap.size v3 cs) ∧ Hid (Below w.heap.size w wr) ∧ Hid (RowH wr w.heap.size a b c)) (fun i _ => 13 - (intOf i).toNat)
  case atStart => exact ⟨0, startC h, rfl, Nat.zero_le _, Mk.start HG.out, O3, B3, R3⟩
  case round =>
    obtain ⟨n, cs, rfl, hn12, hmk, how, hbw, hrw⟩ := hrel
    have hcl : cs.length ≤ 12 := by rw [hmk.out.len]; exact HG.out.n
    go_wp2_with fail
    refine (s_l6Of v3 cs 1 wr how.out.ints hcl).mono ?_
    rintro e w4 ⟨v4, rfl, ho4, hb4⟩
    have O4 := Lib.hid (how.out.below hb4)
    have B4 := Lib.hid (bst hbw.out hb4 hbw.out.size)
    have R4 := Lib.hid (hrw.out.below hb4)
    have T4 := Lib.hid ho4.ints
    obtain ⟨ta, tc, rfl⟩ := ho4.ints.shape
    have HDN := Lib.hid hmk.out.done
    have HGA := Lib.hid (greyAt (cs := cs))
    have htl : (ofC cs 1).length ≤ 12 := Nat.le_trans (ofTo_len _ _ _) hcl
    clear ho4 hb4
    generalize ofC cs 1 = ts at *
    generalize hk : ts.length = q at *
    have HQ := Lib.hid hk; clear hk
    by_cases hq0 : q = 0
    · subst hq0
      obtain ⟨e1, e2⟩ := HDN.out (List.eq_nil_of_length_eq_zero HQ.out)
      have HX1 : Hid (g1 = cs) := by unfold Hid; rw [e1]; exact HR1.out
      have HX2 : Hid (g2 = (n : Int)) := by unfold Hid; rw [e2]; exact HR2.out
      clear e1 e2
      go_wp2_with fail
      go_ret3
      exact endII_yes B4.out O4.out (Nat.le_refl _) HX1.out HX2.out HE.out
    · have hq1 : ((q : Int) == 0) = false := by simp; omega
      have hq2 : (0 : Int) < (q : Int) := by omega
      have hqn : ¬ (q : Int) = 0 := by omega
      have hq3 : 0 < q := by omega
      obtain ⟨hx0, hx100⟩ := HCH.out n
      obtain ⟨r, hrm, hrq⟩ := pickOf (zs.getD n 0) hx0 (show 0 < q by omega)
      obtain ⟨k, hgk, hkc, hk1⟩ := HGA.out r hrq
      obtain ⟨tb, to, rfl, hct⟩ := T4.out.at' (by omega)
      have qt := hct r hrq
      rw [hgk] at qt
      have r0 : (0 : Int) ≤ (r : Int) := by omega
      have r1 : (r : Int) < (q : Int) := by omega
      have HMK : Hid (Mk h (scan cs (h.f.getD k []) k) (n + 1)) := hmk.out.step HG.out hkc hk1
      have hn1 : n + 1 ≤ 12 := by have := HMK.out.le; have := HG.out.n; omega
      have HKC := Lib.hid hkc
      have HKF : Hid (k < h.f.length) := by unfold Hid; rw [← hmk.out.len]; exact hkc
      have HIN : Hid (∀ z ∈ h.f.getD k [], inR cs.length z) := fun z hz => by rw [hmk.out.len]; exact (HG.out.field hz).imp id (fun h => ⟨h.1, h.2.1⟩)
      have HRL : Hid ((h.f.getD k []).length ≤ 3) := (HG.out.row k (by rw [← hmk.out.len]; exact hkc)).1
      clear hct hgk hkc hk1 HDN HGA hrq hx100
      by_cases hnm : n < m
      · obtain ⟨vb, vo, rfl, hcv⟩ := (HZ.out.below B4.out).at' (by omega)
        have qv := hcv n hnm
        have n1 : (n : Int) < (m : Int) := by omega
        have n0 : (0 : Int) ≤ (n : Int) := by omega
        generalize zs.getD n 0 = x at *
        clear hcv
        go_wp2_with fail
        have D0 : Hid (RowH w4.drew w.heap.size a b c) := R4.out
        have OD : Hid (Own w4.drew w.heap.size v3 cs) := O4.out
        have BD := Lib.hid (below_drew B4.out)
        have d0 := D0.out.c0
        have d1 := D0.out.c1
        have d2 := D0.out.c2
        have dt : w4.drew.cell? ⟨tb, to + r, none⟩ = some (.int .i64 (k : Int)) := qt
        refine wp_region_held_drew (S := (fun w' => w'.cell? ⟨w.heap.size, 0, none⟩ = some a ∧ w'.cell? ⟨w.heap.size, 1, none⟩ = some b ∧ w'.cell? ⟨w.heap.size, 2, none⟩ = some c)) (by kernel_rfl) (⟨d0, d1, d2⟩) (fun hHeld => ?_)
        refine wpAnyH_take (i := 0) (v := ?va0x1) rfl (by kernel_rfl) (by kernel_rfl) (by kernel_rfl) (fun _ _ _ h => h) (Or.inl ⟨by rfl, ?hy0x1⟩) (by assumption) ?rest0x1
        case hy0x1 => (intro w hSw; (try dsimp only at hSw); go_simp; try with_reducible rfl)
        (try simp only [Act.put, List.getElem_toArray, List.getElem_cons_zero, List.setIfInBounds_toArray, List.set_cons_zero, List.set_cons_succ])
        refine wpAnyH_take (i := 1) (v := ?va1x2) rfl (by kernel_rfl) (by kernel_rfl) (by kernel_rfl) (fun _ _ _ h => h) (Or.inl ⟨by rfl, ?hy1x2⟩) (by assumption) ?rest1x2
        case hy1x2 => (intro w hSw; (try dsimp only at hSw); go_simp; try with_reducible rfl)
        (try simp only [Act.put, List.getElem_toArray, List.getElem_cons_zero, List.getElem_cons_succ, List.setIfInBounds_toArray, List.set_cons_zero, List.set_cons_succ])
        refine wpAnyH_take (i := 2) (v := ?va2x3) rfl (by kernel_rfl) (by kernel_rfl) (by kernel_rfl) (fun _ _ _ h => h) (Or.inl ⟨by rfl, ?hy2x3⟩) (by assumption) ?rest2x3
        case hy2x3 => (intro w hSw; (try dsimp only at hSw); go_simp; try with_reducible rfl)
        (try simp only [Act.put, List.getElem_toArray, List.getElem_cons_zero, List.getElem_cons_succ, List.setIfInBounds_toArray, List.set_cons_zero, List.set_cons_succ])
        refine wpAnyH_take (i := 3) (v := ?va3x4) rfl (by kernel_rfl) (by kernel_rfl) (by kernel_rfl) (fun _ _ _ h => h) (Or.inl ⟨by rfl, ?hy3x4⟩) (by assumption) ?rest3x4
        case hy3x4 => (intro w hSw; (try dsimp only at hSw); go_simp; try with_reducible rfl)
        (try simp only [Act.put, List.getElem_toArray, List.getElem_cons_zero, List.getElem_cons_succ, List.setIfInBounds_toArray, List.set_cons_zero, List.set_cons_succ])
        refine wpAnyH_take (i := 4) (v := ?va4x5) rfl (by kernel_rfl) (by kernel_rfl) (by kernel_rfl) (fun _ _ _ h => h) (Or.inl ⟨by rfl, ?hy4x5⟩) (by assumption) ?rest4x5
        case hy4x5 => (intro w hSw; (try dsimp only at hSw); go_simp; try with_reducible rfl)
        (try simp only [Act.put, List.getElem_toArray, List.getElem_cons_zero, List.getElem_cons_succ, List.setIfInBounds_toArray, List.set_cons_zero, List.set_cons_succ])
        refine wpAnyH_take (i := 5) (v := ?va5x6) rfl (by kernel_rfl) (by kernel_rfl) (by kernel_rfl) (fun _ _ _ h => h) (Or.inl ⟨by rfl, ?hy5x6⟩) (by assumption) ?rest5x6
        case hy5x6 => (intro w hSw; (try dsimp only at hSw); go_simp; try with_reducible rfl)
        (try simp only [Act.put, List.getElem_toArray, List.getElem_cons_zero, List.getElem_cons_succ, List.setIfInBounds_toArray, List.set_cons_zero, List.set_cons_succ])
        refine wpAnyH_take (i := 6) (v := ?va6x7) rfl (by kernel_rfl) (by kernel_rfl) (by kernel_rfl) (fun _ _ _ h => h) (Or.inl ⟨by rfl, ?hy6x7⟩) (by assumption) ?rest6x7
        case hy6x7 => (intro w hSw; (try dsimp only at hSw); go_simp; try with_reducible rfl)
        (try simp only [Act.put, List.getElem_toArray, List.getElem_cons_zero, List.getElem_cons_succ, List.setIfInBounds_toArray, List.set_cons_zero, List.set_cons_succ])
        refine wpAnyH_take (i := 7) (v := ?va7x8) rfl (by kernel_rfl) (by kernel_rfl) (by kernel_rfl) (fun _ _ _ h => h) (Or.inl ⟨by rfl, ?hy7x8⟩) (by assumption) ?rest7x8
        case hy7x8 => (intro w hSw; (try dsimp only at hSw); go_simp; try with_reducible rfl)
        (try simp only [Act.put, List.getElem_toArray, List.getElem_cons_zero, List.getElem_cons_succ, List.setIfInBounds_toArray, List.set_cons_zero, List.set_cons_succ])
        refine wpAnyH_ready (rs := [8]) (by kernel_rfl) (by simp) ?_
        refine AllReadyH.cons rfl (fun K hK => ?_) AllReadyH.nil
        go_simp
        refine hK.out _ _ (⟨d0, d1, d2⟩) (fun hHeld => ?_)
        clear hK K
        (try simp only [Act.put, List.getElem_toArray, List.getElem_cons_zero, List.getElem_cons_succ, List.setIfInBounds_toArray, List.set_cons_zero, List.set_cons_succ])
        generalize w4.drew = w5 at *
        refine wpAnyH_ready (rs := [9]) (by kernel_rfl) (by simp) ?_
        refine AllReadyH.cons rfl (fun K hK => ?_) AllReadyH.nil
        go_simp
        refine (s_l6Scan w a b c v3 h.f cs k _ HF.out BD.out OD.out HKC.out HKF.out HIN.out HRL.out).mono ?_
        rintro e w6 ⟨rfl, ho6, hg6⟩
        have O6 := Lib.hid ho6
        have B6 := Lib.hid (BD.out.grown hg6 BD.out.size (fun g e => (owns_lt OD.out e).1))
        have R6 := Lib.hid (show RowH _ _ _ _ _ from row_grown OD.out (by decide) hg6 D0.out)
        clear ho6 hg6
        refine hK.out _ _ (⟨R6.out.c0, R6.out.c1, R6.out.c2⟩) (fun hHeld => ?_)
        clear hK K
        (try simp only [Act.put, List.getElem_toArray, List.getElem_cons_zero, List.getElem_cons_succ, List.setIfInBounds_toArray, List.set_cons_zero, List.set_cons_succ])
        refine wpAnyH_done (by kernel_rfl) ?_ _
        clear hHeld d0 d1 d2 dt
        go_wp2_with fail
        go_roundw
        case rel => exact ⟨n + 1, _, by go_num, hn1, HMK, O6, B6, R6⟩
        case measure => simp [intOf]; omega
      · have n1 : ¬ (n : Int) < (m : Int) := by omega
        have hx : zs.getD n 0 = 0 := getD_outI (by rw [HM.out]; exact hnm)
        rw [hx, Int.zero_tmod] at hrm
        obtain rfl : r = 0 := by omega
        clear hx hrm hx0
        rw [Nat.add_zero] at qt
        go_wp2_with fail
        have D0 : Hid (RowH w4.drew w.heap.size a b c) := R4.out
        have OD : Hid (Own w4.drew w.heap.size v3 cs) := O4.out
        have BD := Lib.hid (below_drew B4.out)
        have d0 := D0.out.c0
        have d1 := D0.out.c1
        have d2 := D0.out.c2
        have dt : w4.drew.cell? ⟨tb, to, none⟩ = some (.int .i64 (k : Int)) := qt
        refine wp_region_held_drew (S := (fun w' => w'.cell? ⟨w.heap.size, 0, none⟩ = some a ∧ w'.cell? ⟨w.heap.size, 1, none⟩ = some b ∧ w'.cell? ⟨w.heap.size, 2, none⟩ = some c)) (by kernel_rfl) (⟨d0, d1, d2⟩) (fun hHeld => ?_)
        refine wpAnyH_take (i := 0) (v := ?va0x9) rfl (by kernel_rfl) (by kernel_rfl) (by kernel_rfl) (fun _ _ _ h => h) (Or.inl ⟨by rfl, ?hy0x9⟩) (by assumption) ?rest0x9
        case hy0x9 => (intro w hSw; (try dsimp only at hSw); go_simp; try with_reducible rfl)
        (try simp only [Act.put, List.getElem_toArray, List.getElem_cons_zero, List.setIfInBounds_toArray, List.set_cons_zero, List.set_cons_succ])
        refine wpAnyH_take (i := 1) (v := ?va1x10) rfl (by kernel_rfl) (by kernel_rfl) (by kernel_rfl) (fun _ _ _ h => h) (Or.inl ⟨by rfl, ?hy1x10⟩) (by assumption) ?rest1x10
        case hy1x10 => (intro w hSw; (try dsimp only at hSw); go_simp; try with_reducible rfl)
        (try simp only [Act.put, List.getElem_toArray, List.getElem_cons_zero, List.getElem_cons_succ, List.setIfInBounds_toArray, List.set_cons_zero, List.set_cons_succ])
        refine wpAnyH_take (i := 2) (v := ?va2x11) rfl (by kernel_rfl) (by kernel_rfl) (by kernel_rfl) (fun _ _ _ h => h) (Or.inl ⟨by rfl, ?hy2x11⟩) (by assumption) ?rest2x11
        case hy2x11 => (intro w hSw; (try dsimp only at hSw); go_simp; try with_reducible rfl)
        (try simp only [Act.put, List.getElem_toArray, List.getElem_cons_zero, List.getElem_cons_succ, List.setIfInBounds_toArray, List.set_cons_zero, List.set_cons_succ])
        refine wpAnyH_take (i := 3) (v := ?va3x12) rfl (by kernel_rfl) (by kernel_rfl) (by kernel_rfl) (fun _ _ _ h => h) (Or.inl ⟨by rfl, ?hy3x12⟩) (by assumption) ?rest3x12
        case hy3x12 => (intro w hSw; (try dsimp only at hSw); go_simp; try with_reducible rfl)
        (try simp only [Act.put, List.getElem_toArray, List.getElem_cons_zero, List.getElem_cons_succ, List.setIfInBounds_toArray, List.set_cons_zero, List.set_cons_succ])
        refine wpAnyH_take (i := 4) (v := ?va4x13) rfl (by kernel_rfl) (by kernel_rfl) (by kernel_rfl) (fun _ _ _ h => h) (Or.inl ⟨by rfl, ?hy4x13⟩) (by assumption) ?rest4x13
        case hy4x13 => (intro w hSw; (try dsimp only at hSw); go_simp; try with_reducible rfl)
        (try simp only [Act.put, List.getElem_toArray, List.getElem_cons_zero, List.getElem_cons_succ, List.setIfInBounds_toArray, List.set_cons_zero, List.set_cons_succ])
        refine wpAnyH_take (i := 5) (v := ?va5x14) rfl (by kernel_rfl) (by kernel_rfl) (by kernel_rfl) (fun _ _ _ h => h) (Or.inl ⟨by rfl, ?hy5x14⟩) (by assumption) ?rest5x14
        case hy5x14 => (intro w hSw; (try dsimp only at hSw); go_simp; try with_reducible rfl)
        (try simp only [Act.put, List.getElem_toArray, List.getElem_cons_zero, List.getElem_cons_succ, List.setIfInBounds_toArray, List.set_cons_zero, List.set_cons_succ])
        refine wpAnyH_take (i := 6) (v := ?va6x15) rfl (by kernel_rfl) (by kernel_rfl) (by kernel_rfl) (fun _ _ _ h => h) (Or.inl ⟨by rfl, ?hy6x15⟩) (by assumption) ?rest6x15
        case hy6x15 => (intro w hSw; (try dsimp only at hSw); go_simp; try with_reducible rfl)
        (try simp only [Act.put, List.getElem_toArray, List.getElem_cons_zero, List.getElem_cons_succ, List.setIfInBounds_toArray, List.set_cons_zero, List.set_cons_succ])
        refine wpAnyH_take (i := 7) (v := ?va7x16) rfl (by kernel_rfl) (by kernel_rfl) (by kernel_rfl) (fun _ _ _ h => h) (Or.inl ⟨by rfl, ?hy7x16⟩) (by assumption) ?rest7x16
        case hy7x16 => (intro w hSw; (try dsimp only at hSw); go_simp; try with_reducible rfl)
        (try simp only [Act.put, List.getElem_toArray, List.getElem_cons_zero, List.getElem_cons_succ, List.setIfInBounds_toArray, List.set_cons_zero, List.set_cons_succ])
        refine wpAnyH_ready (rs := [8]) (by kernel_rfl) (by simp) ?_
        refine AllReadyH.cons rfl (fun K hK => ?_) AllReadyH.nil
        go_simp
        refine hK.out _ _ (⟨d0, d1, d2⟩) (fun hHeld => ?_)
        clear hK K
        (try simp only [Act.put, List.getElem_toArray, List.getElem_cons_zero, List.getElem_cons_succ, List.setIfInBounds_toArray, List.set_cons_zero, List.set_cons_succ])
        generalize w4.drew = w5 at *
        refine wpAnyH_ready (rs := [9]) (by kernel_rfl) (by simp) ?_
        refine AllReadyH.cons rfl (fun K hK => ?_) AllReadyH.nil
        go_simp
        refine (s_l6Scan w a b c v3 h.f cs k _ HF.out BD.out OD.out HKC.out HKF.out HIN.out HRL.out).mono ?_
        rintro e w6 ⟨rfl, ho6, hg6⟩
        have O6 := Lib.hid ho6
        have B6 := Lib.hid (BD.out.grown hg6 BD.out.size (fun g e => (owns_lt OD.out e).1))
        have R6 := Lib.hid (show RowH _ _ _ _ _ from row_grown OD.out (by decide) hg6 D0.out)
        clear ho6 hg6
        refine hK.out _ _ (⟨R6.out.c0, R6.out.c1, R6.out.c2⟩) (fun hHeld => ?_)
        clear hK K
        (try simp only [Act.put, List.getElem_toArray, List.getElem_cons_zero, List.getElem_cons_succ, List.setIfInBounds_toArray, List.set_cons_zero, List.set_cons_succ])
        refine wpAnyH_done (by kernel_rfl) ?_ _
        clear hHeld d0 d1 d2 dt
        go_wp2_with fail
        go_roundw
        case rel => exact ⟨n + 1, _, by go_num, hn1, HMK, O6, B6, R6⟩
        case measure => simp [intOf]; omega
end Go.Proofs.Ytdagkbgobnaijaa
