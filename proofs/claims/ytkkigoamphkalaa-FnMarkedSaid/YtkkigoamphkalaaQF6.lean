/- What the laws rest on, part 6. -/
import Derived.Test.YtkkigoamphkalaaQF5
import Derived.Test.YtkkigoamphkalaaRows
import Derived.Lib.SmallJoins
import Derived.WalkKit
import Derived.ProofKit
import Derived.OpenShut
import Derived.WalkSmall
import Derived.Deep.DeepHandedRow
import Derived.Lib.LaidTab
namespace Go.Proofs.Ytkkigoamphkalaa
open Go.RowKit Ph

set_option maxRecDepth 100000 in
set_option maxHeartbeats 3200000 in
theorem s_IsSound (a b c v : Value) (h : H) (cs : List Int) (w : World) (hA : HeapAt w a b c h) (hz : IntsAt w v cs) : Calls Try.prog 73 #[hv a b c, v] w fun e w' => e = .returned (.tuple #[.bool (soundR h cs), .bool (bothB h cs)]) ∧ Below w.heap.size w w' := by
  have hb0 := below1 w (.cells (c3 a b c) 30)
  have A0 := Lib.hid (hA.below hb0)
  have Z0 := Lib.hid (hz.below hb0)
  have HB := Lib.hid hb0
  have R0 := Lib.hid (show RowH _ _ a b c from Row.new w 30 (c3 a b c))
  have HF := Lib.hid hA.f
  clear hA hb0
  have HC := Lib.hid (s_l6Both a b c v h cs _ A0.out Z0.out)
  have HE1 := Lib.hid (soundR_no (h := h) (cs := cs))
  have HE2 := Lib.hid (soundR_yes (h := h) (cs := cs))
  have HBB := Lib.hid (bothB_iff (h := h) (cs := cs)).1
  obtain ⟨va, vc, rfl⟩ := hz.shape
  clear hz
  generalize hx : bothB h cs = x at *
  have HX := Lib.hid hx; clear hx
  have c0 := R0.out.c0
  have c1 := R0.out.c1
  have c2 := R0.out.c2
  cases x
  · have HR := Lib.hid (HE1.out rfl)
    go_enter Try.func73, Try.ntmps73
    go_wp2_with (go_at_call 99; refine HC.out.mono ?_; rintro e w1 ⟨rfl, hb1⟩; have B1 := Lib.hid (bst HB.out hb1 HB.out.size); clear hb1)
    go_ret2
    exact ⟨r_bb HR.out.symm rfl, B1.out⟩
  have HR := Lib.hid (HE2.out rfl)
  obtain ⟨hG, hlen, hcol⟩ := HBB.out rfl
  have hn12 : cs.length ≤ 12 := by rw [hlen]; exact hG.n
  have HIN : Hid (∀ k, ∀ z ∈ h.f.getD k [], inR cs.length z) := fun k z hz => by rw [hlen]; exact (hG.field hz).imp id (fun h => ⟨h.1, h.2.1⟩)
  have HRL : Hid (∀ k, k < h.f.length → (h.f.getD k []).length ≤ 3) := fun k hk => (hG.row k hk).1
  have HSF : Hid (∀ k, k < cs.length → cs.getD k 0 = 2 → noWhite cs (h.f.getD k []) = false → soundB h cs = false) := fun k hk => soundB_false (by rw [← hlen]; exact hk)
  have HST : Hid ((∀ k, k < cs.length → cs.getD k 0 = 2 → noWhite cs (h.f.getD k []) = true) → soundB h cs = true) := fun q => soundB_iff.2 fun k hk h2 => q k (by rw [hlen]; exact hk) h2
  obtain ⟨fa, fc, rfl⟩ := HF.out.shape
  clear hG hcol HBB
  rw [← hlen] at *
  clear hlen
  generalize hn : cs.length = n at *
  have HN := Lib.hid hn; clear hn
  go_enter Try.func73, Try.ntmps73
  go_wp2_with (go_at_call 99; refine HC.out.mono ?_; rintro e w1 ⟨rfl, hb1⟩; have B1 := Lib.hid (bst HB.out hb1 HB.out.size); have Z1 := Lib.hid (Z0.out.below hb1); have R1 := Lib.hid (R0.out.below hb1); have d0 := R1.out.c0; clear hb1)
  clear c0 c1 c2
  go_loop [17] (fun i => ∃ j : Nat, j ≤ n ∧ i = .int .i64 j ∧ Hid (∀ k, k < j → cs.getD k 0 = 2 → noWhite cs (h.f.getD k []) = true)) (fun i => n - (intOf i).toNat)
  case atStart => exact ⟨0, Nat.zero_le _, rfl, fun k hk => by omega⟩
  case round =>
    obtain ⟨k, hj, rfl, hdone⟩ := hrel
    by_cases hlt : k < n
    · obtain ⟨fb, fo, rfl, hcf⟩ := HF.out.at' (by omega)
      obtain ⟨u, quf, huf⟩ := hcf k hlt
      have HU := Lib.hid huf
      have qu := cellBelow B1.out (Nat.le_refl _) quf
      have HSN := Lib.hid (HSF.out k hlt)
      have HINK := Lib.hid (HIN.out k)
      have hl3 := HRL.out k hlt
      obtain ⟨ua, uc, rfl⟩ := huf.shape
      obtain ⟨vb, vo, rfl, hcv⟩ := Z1.out.at' (by omega)
      have HCV := Lib.hid hcv
      have qk := hcv k hlt
      have k1 : (k : Int) < (n : Int) := by omega
      have k0 : (0 : Int) ≤ (k : Int) := by omega
      clear hcf quf huf hcv
      generalize hrow : h.f.getD k [] = row at *
      have HROW := Lib.hid hrow; clear hrow
      generalize hul : row.length = ul at *
      have HUL := Lib.hid hul; clear hul
      generalize hck : cs.getD k 0 = ck at *
      have HCK := Lib.hid hck; clear hck
      go_wp2_with fail
      go_loop [24] (fun i => ∃ p : Nat, p ≤ ul ∧ i = .int .i64 p ∧ Hid (ck = 2 → noWhite cs (row.take p) = true)) (fun i => ul - (intOf i).toNat)
      case atStart => exact ⟨0, Nat.zero_le _, rfl, fun _ => by rw [List.take_zero]; rfl⟩
      case round =>
        obtain ⟨p, hp, rfl, hnw⟩ := hrel
        by_cases hpl : p < ul
        · obtain ⟨zb, zo, rfl, hcz⟩ := HU.out.at' (by omega)
          have qz := cellBelow B1.out (Nat.le_refl _) (hcz p hpl)
          have hpr : p < row.length := by rw [HUL.out]; exact hpl
          have hin := HINK.out (row.getD p 0) (by rw [List.getD, List.getElem?_eq_getElem hpr]; exact List.getElem_mem hpr)
          have HNS := Lib.hid (noWhite_take_succ (cs := cs) hpr)
          have HNF := Lib.hid (noWhite_false (cs := cs) hpr)
          have p1 : (p : Int) < (ul : Int) := by omega
          clear hcz hpr
          generalize row.getD p 0 = z at *
          by_cases z1 : z = -1
          · subst z1
            have HE : Hid (ck = 2 → noWhite cs (row.take (p + 1)) = true) := fun e => by rw [HNS.out, hnw.out e]; rfl
            clear hin HNS HNF
            go_wp2_with fail
            go_round
            case rel => exact ⟨p + 1, by omega, by go_num, HE⟩
            case measure => simp [intOf]; omega
          · obtain ⟨t, rfl⟩ : ∃ t : Nat, z = t := ⟨z.toNat, by rcases hin with h | h <;> omega⟩
            have htn : t < n := by rcases hin with h | h <;> omega
            have qv := HCV.out t htn
            have t1 : (t : Int) < (n : Int) := by omega
            have t0 : (0 : Int) ≤ (t : Int) := by omega
            rw [Int.toNat_natCast] at *
            clear hin z1
            by_cases hc2 : ck = 2
            · subst hc2
              generalize cs.getD t 0 = y at *
              by_cases hy : y = 0
              · subst hy
                have HE : Hid (soundB h cs = false) := HSN.out rfl (HNF.out t0 rfl)
                have HR2 : Hid (soundR h cs = false) := HR.out.trans HE.out
                clear HNS HNF HE hnw
                go_wp2_with fail
                go_ret2
                exact ⟨r_bb HR2.out.symm rfl, B1.out⟩
              · have HE : Hid (noWhite cs (row.take (p + 1)) = true) := by unfold Hid; rw [HNS.out, hnw.out rfl, decide_eq_false hy]; simp
                have hy1 : (y == 0) = false := by simpa using hy
                clear HNS HNF hy hnw
                go_wp2_with fail
                go_round
                case rel => exact ⟨p + 1, by omega, by go_num, fun _ => HE.out⟩
                case measure => simp [intOf]; omega
            · have hc3 : (ck == 2) = false := by simpa using hc2
              have HE : Hid (ck = 2 → noWhite cs (row.take (p + 1)) = true) := fun e => absurd e hc2
              clear HNS HNF hc2 hnw qv
              go_wp2_with fail
              go_round
              case rel => exact ⟨p + 1, by omega, by go_num, HE⟩
              case measure => simp [intOf]; omega
        · have hpe : Hid (row.take p = row) := List.take_of_length_le (by rw [HUL.out]; omega)
          have HD : Hid (∀ i, i < k + 1 → cs.getD i 0 = 2 → noWhite cs (h.f.getD i []) = true) := fun i hi h2 => by
            by_cases e : i = k
            · subst e
              rw [HROW.out, ← hpe.out]
              exact hnw.out (by rw [← HCK.out]; exact h2)
            · exact hdone.out i (by omega) h2
          go_wp2_with fail
          go_round
          case rel => exact ⟨k + 1, by omega, by go_num, HD⟩
          case measure => simp [intOf]; omega
    · have HE : Hid (soundR h cs = true) := HR.out.trans (HST.out (fun i hi => hdone.out i (by omega)))
      go_wp2_with fail
      go_ret2
      exact ⟨r_bb HE.out.symm rfl, B1.out⟩
end Go.Proofs.Ytkkigoamphkalaa
namespace Go.Proofs.Ytkkigoamphkalaa.Ph
theorem choB_iff {zs : List Int} : choB zs = true ↔ zs.length ≤ 40 ∧ ∀ n, 0 ≤ zs.getD n 0 ∧ zs.getD n 0 ≤ 100 := by
  unfold choB
  rw [Bool.and_eq_true, decide_eq_true_eq, List.all_eq_true]
  refine and_congr_right fun _ => ⟨fun h i => ?_, fun h z hz => ?_⟩
  · by_cases e : i < zs.length
    · have := h _ (getD_memI e)
      simp only [inB, Bool.and_eq_true, decide_eq_true_eq] at this
      exact this
    · rw [getD_outI e]; omega
  · obtain ⟨i, hi, rfl⟩ := List.getElem_of_mem hz
    have := h i
    have e : zs.getD i 0 = zs[i] := by simp [List.getD, List.getElem?_eq_getElem hi]
    rw [e] at this
    simp only [inB, Bool.and_eq_true, decide_eq_true_eq]
    exact this
theorem markR_no {h : H} {zs : List Int} (k : markOk h zs = false) : (markR h zs).1 = [] ∧ (((markR h zs).2 : Nat) : Int) = 0 := by unfold markR; rw [k]; exact ⟨rfl, rfl⟩
theorem markR_yes {h : H} {zs : List Int} (k : markOk h zs = true) : (markR h zs).1 = endC h ∧ (((markR h zs).2 : Nat) : Int) = (endN h : Int) := by unfold markR; rw [k]; exact ⟨rfl, rfl⟩
/-- A choice of one of m. -/
theorem pickOf (x : Int) (hx : 0 ≤ x) {m : Nat} (hm : 0 < m) : ∃ r : Nat, x.tmod (m : Int) = (r : Int) ∧ r < m := by
  rw [Int.tmod_eq_emod_of_nonneg hx]
  have h1 := Int.emod_nonneg x (b := (m : Int)) (by omega)
  have h2 := Int.emod_lt_of_pos x (b := (m : Int)) (by omega)
  exact ⟨(x % (m : Int)).toNat, by omega, by omega⟩
theorem greyAt {cs : List Int} (r : Nat) (h : r < (ofC cs 1).length) : ∃ k : Nat, (ofC cs 1).getD r 0 = k ∧ k < cs.length ∧ cs.getD k 0 = 1 := by
  have := mem_ofC.1 (getD_memI h)
  obtain ⟨i, h1, h2, h3⟩ := this
  exact ⟨i, h3, h1, h2⟩
end Go.Proofs.Ytkkigoamphkalaa.Ph
namespace Go.Proofs.Ytkkigoamphkalaa
open Go.RowKit Ph

set_option maxRecDepth 100000 in
set_option maxHeartbeats 3200000 in
theorem s_MarkAll (a b c v : Value) (h : H) (zs : List Int) (w : World) (hA : HeapAt w a b c h) (hz : IntsAt w v zs) : Calls Try.prog 69 #[hv a b c, v] w (EndII (markR h zs).1 ((markR h zs).2 : Int) (markOk h zs) w) := by
  have hb0 := below1 w (.cells (c3 a b c) 30)
  have A0 := Lib.hid (hA.below hb0)
  have Z0 := Lib.hid (hz.below hb0)
  have HB := Lib.hid hb0
  have R0 := Lib.hid (show RowH _ _ a b c from Row.new w 30 (c3 a b c))
  have HF := Lib.hid hA.f
  clear hA hb0
  have HC := Lib.hid (s_GoodHeap a b c h _ A0.out)
  have HE1 := Lib.hid (markR_no (h := h) (zs := zs))
  have HE2 := Lib.hid (markR_yes (h := h) (zs := zs))
  have hE : markOk h zs = (good h && (decide (zs.length ≤ 40) && zs.all (inB 0 100))) := rfl
  have HGI := Lib.hid (good_iff (h := h)).1
  have HCI : Hid (zs.length ≤ 40 → zs.all (inB 0 100) = true → ∀ n, 0 ≤ zs.getD n 0 ∧ zs.getD n 0 ≤ 100) := fun h1 h2 => (choB_iff.1 (by unfold choB; rw [decide_eq_true h1, h2]; rfl)).2
  have HAL : Hid (zs.length ≤ 40 → ∀ w', IntsAt w' v zs → Calls Try.prog 87 #[v, .int .i64 0, .int .i64 100] w' fun e w'' => e = .returned (.bool (zs.all (inB 0 100))) ∧ w' = w'') := fun h1 w' hh => s_l1All v zs 0 100 w' hh (by omega)
  obtain ⟨va, vc, rfl⟩ := hz.shape
  have HZ := Lib.hid hz
  clear hz
  generalize good h = x at *
  generalize zs.all (inB 0 100) = y at *
  generalize hok : markOk h zs = ok at *
  clear hok
  generalize (markR h zs).1 = g1 at *
  generalize ((markR h zs).2 : Int) = g2 at *
  generalize hm : zs.length = m at *
  have HM := Lib.hid hm; clear hm
  have c0 := R0.out.c0
  have c1 := R0.out.c1
  have c2 := R0.out.c2
  cases x
  · have HE : Hid (ok = false) := by unfold Hid; rw [hE]; rfl
    clear hE
    obtain ⟨HR1, HR2⟩ := HE1.out HE.out
    have HR1 := Lib.hid HR1; have HR2 := Lib.hid HR2
    go_enter Try.func69, Try.ntmps69
    go_wp2_with (go_at_call 80; refine HC.out.mono ?_; rintro e w1 ⟨rfl, hb1⟩; have B1 := Lib.hid (bst HB.out hb1 HB.out.size); have Z1 := Lib.hid (Z0.out.below hb1); have A1 := Lib.hid (A0.out.below hb1); have R1 := Lib.hid (R0.out.below hb1); have d0 := R1.out.c0; have d1 := R1.out.c1; have d2 := R1.out.c2; clear hb1)
    go_ret3
    exact endII_no B1.out HR1.out HR2.out HE.out
  by_cases h41 : 40 < m
  · have h40 : ¬ m ≤ 40 := by omega
    have HE : Hid (ok = false) := by unfold Hid; rw [hE, decide_eq_false h40]; rfl
    have hm40 : (40 : Int) < (m : Int) := by omega
    clear hE
    obtain ⟨HR1, HR2⟩ := HE1.out HE.out
    have HR1 := Lib.hid HR1; have HR2 := Lib.hid HR2
    go_enter Try.func69, Try.ntmps69
    go_wp2_with (go_at_call 80; refine HC.out.mono ?_; rintro e w1 ⟨rfl, hb1⟩; have B1 := Lib.hid (bst HB.out hb1 HB.out.size); have Z1 := Lib.hid (Z0.out.below hb1); have A1 := Lib.hid (A0.out.below hb1); have R1 := Lib.hid (R0.out.below hb1); have d0 := R1.out.c0; have d1 := R1.out.c1; have d2 := R1.out.c2; clear hb1)
    go_ret3
    exact endII_no B1.out HR1.out HR2.out HE.out
  have h40 : m ≤ 40 := by omega
  have hm40 : ¬ (40 : Int) < (m : Int) := by omega
  replace HAL := Lib.hid (HAL.out h40)
  cases y
  · have HE : Hid (ok = false) := by unfold Hid; rw [hE, decide_eq_true h40]; rfl
    clear hE
    obtain ⟨HR1, HR2⟩ := HE1.out HE.out
    have HR1 := Lib.hid HR1; have HR2 := Lib.hid HR2
    go_enter Try.func69, Try.ntmps69
    go_wp2_with (first
      | (go_at_call 80; refine HC.out.mono ?_; rintro e w1 ⟨rfl, hb1⟩; have B1 := Lib.hid (bst HB.out hb1 HB.out.size); have Z1 := Lib.hid (Z0.out.below hb1); have A1 := Lib.hid (A0.out.below hb1); have R1 := Lib.hid (R0.out.below hb1); have d0 := R1.out.c0; have d1 := R1.out.c1; have d2 := R1.out.c2; clear hb1)
      | (go_at_call 87; refine (HAL.out _ Z1.out).mono ?_; rintro e w2 ⟨rfl, rfl⟩))
    go_ret3
    exact endII_no B1.out HR1.out HR2.out HE.out
  have HE : Hid (ok = true) := by unfold Hid; rw [hE, decide_eq_true h40]; rfl
  clear hE
  obtain ⟨HR1, HR2⟩ := HE2.out HE.out
  have HR1 := Lib.hid HR1; have HR2 := Lib.hid HR2
  have HG := Lib.hid (HGI.out rfl)
  have HCH := Lib.hid (HCI.out h40 rfl)
  clear HCI HGI HE1 HE2
  go_enter Try.func69, Try.ntmps69
  go_wp2_with (first
    | (go_at_call 80; refine HC.out.mono ?_; rintro e w1 ⟨rfl, hb1⟩; have B1 := Lib.hid (bst HB.out hb1 HB.out.size); have Z1 := Lib.hid (Z0.out.below hb1); have A1 := Lib.hid (A0.out.below hb1); have R1 := Lib.hid (R0.out.below hb1); have d0 := R1.out.c0; have d1 := R1.out.c1; have d2 := R1.out.c2; clear hb1)
    | (go_at_call 87; refine (HAL.out _ Z1.out).mono ?_; rintro e w2 ⟨rfl, rfl⟩))
  refine (s_l6Start a b c h _ A1.out HG.out).mono ?_
  rintro e w3 ⟨v3, rfl, ho3, hb3⟩
  have O3 := Lib.hid (ho3.mono B1.out.size)
  have B3 := Lib.hid (bst B1.out hb3 B1.out.size)
  have R3 := Lib.hid (R1.out.below hb3)
  clear ho3 hb3 d0 d1 d2 c0 c1 c2
  go_wp2_with fail
  go_loopw [8] (fun i wr => ∃ n cs, i = .int .i64 (n : Nat) ∧ n ≤ 12 ∧ Hid (Mk h cs n) ∧ Hid (Own wr w.heap.size v3 cs) ∧ Hid (Below w.heap.size w wr) ∧ Hid (RowH wr w.heap.size a b c)) (fun i _ => 13 - (intOf i).toNat)
  case atStart => exact ⟨0, startC h, rfl, Nat.zero_le _, Mk.start HG.out, O3, B3, R3⟩
  case round =>
    obtain ⟨n, cs, rfl, hn12, hmk, how, hbw, hrw⟩ := hrel
    have hcl : cs.length ≤ 12 := by rw [hmk.out.len]; exact HG.out.n
    go_wp2_with fail
    refine (s_l6Of v3 cs 1 wr how.out.ints hcl).mono ?_
    rintro e w4 ⟨v4, rfl, ho4, hb4⟩
    have O4 := Lib.hid (how.out.below hb4)
    have B4 := Lib.hid (bst hbw.out hb4 hbw.out.size)
    have R4 := Lib.hid (hrw.out.below hb4)
    have T4 := Lib.hid ho4.ints
    obtain ⟨ta, tc, rfl⟩ := ho4.ints.shape
    have HDN := Lib.hid hmk.out.done
    have HGA := Lib.hid (greyAt (cs := cs))
    have htl : (ofC cs 1).length ≤ 12 := Nat.le_trans (ofTo_len _ _ _) hcl
    clear ho4 hb4
    generalize ofC cs 1 = ts at *
    generalize hk : ts.length = q at *
    have HQ := Lib.hid hk; clear hk
    by_cases hq0 : q = 0
    · subst hq0
      obtain ⟨e1, e2⟩ := HDN.out (List.eq_nil_of_length_eq_zero HQ.out)
      have HX1 : Hid (g1 = cs) := by unfold Hid; rw [e1]; exact HR1.out
      have HX2 : Hid (g2 = (n : Int)) := by unfold Hid; rw [e2]; exact HR2.out
      clear e1 e2
      go_wp2_with fail
      go_ret3
      exact endII_yes B4.out O4.out (Nat.le_refl _) HX1.out HX2.out HE.out
    · have hq1 : ((q : Int) == 0) = false := by simp; omega
      have hq2 : (0 : Int) < (q : Int) := by omega
      have hqn : ¬ (q : Int) = 0 := by omega
      have hq3 : 0 < q := by omega
      obtain ⟨hx0, hx100⟩ := HCH.out n
      obtain ⟨r, hrm, hrq⟩ := pickOf (zs.getD n 0) hx0 (show 0 < q by omega)
      obtain ⟨k, hgk, hkc, hk1⟩ := HGA.out r hrq
      obtain ⟨tb, to, rfl, hct⟩ := T4.out.at' (by omega)
      have qt := hct r hrq
      rw [hgk] at qt
      have r0 : (0 : Int) ≤ (r : Int) := by omega
      have r1 : (r : Int) < (q : Int) := by omega
      have HMK : Hid (Mk h (scan cs (h.f.getD k []) k) (n + 1)) := hmk.out.step HG.out hkc hk1
      have hn1 : n + 1 ≤ 12 := by have := HMK.out.le; have := HG.out.n; omega
      have HKC := Lib.hid hkc
      have HKF : Hid (k < h.f.length) := by unfold Hid; rw [← hmk.out.len]; exact hkc
      have HIN : Hid (∀ z ∈ h.f.getD k [], inR cs.length z) := fun z hz => by rw [hmk.out.len]; exact (HG.out.field hz).imp id (fun h => ⟨h.1, h.2.1⟩)
      have HRL : Hid ((h.f.getD k []).length ≤ 3) := (HG.out.row k (by rw [← hmk.out.len]; exact hkc)).1
      clear hct hgk hkc hk1 HDN HGA hrq hx100
      by_cases hnm : n < m
      · obtain ⟨vb, vo, rfl, hcv⟩ := (HZ.out.below B4.out).at' (by omega)
        have qv := hcv n hnm
        have n1 : (n : Int) < (m : Int) := by omega
        have n0 : (0 : Int) ≤ (n : Int) := by omega
        generalize zs.getD n 0 = x at *
        clear hcv
        go_wp2_with fail
        have D0 : Hid (RowH w4.drew w.heap.size a b c) := R4.out
        have OD : Hid (Own w4.drew w.heap.size v3 cs) := O4.out
        have BD := Lib.hid (below_drew B4.out)
        have d0 := D0.out.c0
        have d1 := D0.out.c1
        have d2 := D0.out.c2
        have dt : w4.drew.cell? ⟨tb, to + r, none⟩ = some (.int .i64 (k : Int)) := qt
        refine wp_region_held_drew (S := (fun w' => w'.cell? ⟨w.heap.size, 0, none⟩ = some a ∧ w'.cell? ⟨w.heap.size, 1, none⟩ = some b ∧ w'.cell? ⟨w.heap.size, 2, none⟩ = some c)) (by kernel_rfl) (⟨d0, d1, d2⟩) (fun hHeld => ?_)
        refine wpAnyH_take (i := 0) (v := ?va0x1) rfl (by kernel_rfl) (by kernel_rfl) (by kernel_rfl) (fun _ _ _ h => h) (Or.inl ⟨by rfl, ?hy0x1⟩) (by assumption) ?rest0x1
        case hy0x1 => (intro w hSw; (try dsimp only at hSw); go_simp; try with_reducible rfl)
        (try simp only [Act.put, List.getElem_toArray, List.getElem_cons_zero, List.setIfInBounds_toArray, List.set_cons_zero, List.set_cons_succ])
        refine wpAnyH_take (i := 1) (v := ?va1x2) rfl (by kernel_rfl) (by kernel_rfl) (by kernel_rfl) (fun _ _ _ h => h) (Or.inl ⟨by rfl, ?hy1x2⟩) (by assumption) ?rest1x2
        case hy1x2 => (intro w hSw; (try dsimp only at hSw); go_simp; try with_reducible rfl)
        (try simp only [Act.put, List.getElem_toArray, List.getElem_cons_zero, List.getElem_cons_succ, List.setIfInBounds_toArray, List.set_cons_zero, List.set_cons_succ])
        refine wpAnyH_take (i := 2) (v := ?va2x3) rfl (by kernel_rfl) (by kernel_rfl) (by kernel_rfl) (fun _ _ _ h => h) (Or.inl ⟨by rfl, ?hy2x3⟩) (by assumption) ?rest2x3
        case hy2x3 => (intro w hSw; (try dsimp only at hSw); go_simp; try with_reducible rfl)
        (try simp only [Act.put, List.getElem_toArray, List.getElem_cons_zero, List.getElem_cons_succ, List.setIfInBounds_toArray, List.set_cons_zero, List.set_cons_succ])
        refine wpAnyH_take (i := 3) (v := ?va3x4) rfl (by kernel_rfl) (by kernel_rfl) (by kernel_rfl) (fun _ _ _ h => h) (Or.inl ⟨by rfl, ?hy3x4⟩) (by assumption) ?rest3x4
        case hy3x4 => (intro w hSw; (try dsimp only at hSw); go_simp; try with_reducible rfl)
        (try simp only [Act.put, List.getElem_toArray, List.getElem_cons_zero, List.getElem_cons_succ, List.setIfInBounds_toArray, List.set_cons_zero, List.set_cons_succ])
        refine wpAnyH_take (i := 4) (v := ?va4x5) rfl (by kernel_rfl) (by kernel_rfl) (by kernel_rfl) (fun _ _ _ h => h) (Or.inl ⟨by rfl, ?hy4x5⟩) (by assumption) ?rest4x5
        case hy4x5 => (intro w hSw; (try dsimp only at hSw); go_simp; try with_reducible rfl)
        (try simp only [Act.put, List.getElem_toArray, List.getElem_cons_zero, List.getElem_cons_succ, List.setIfInBounds_toArray, List.set_cons_zero, List.set_cons_succ])
        refine wpAnyH_take (i := 5) (v := ?va5x6) rfl (by kernel_rfl) (by kernel_rfl) (by kernel_rfl) (fun _ _ _ h => h) (Or.inl ⟨by rfl, ?hy5x6⟩) (by assumption) ?rest5x6
        case hy5x6 => (intro w hSw; (try dsimp only at hSw); go_simp; try with_reducible rfl)
        (try simp only [Act.put, List.getElem_toArray, List.getElem_cons_zero, List.getElem_cons_succ, List.setIfInBounds_toArray, List.set_cons_zero, List.set_cons_succ])
        refine wpAnyH_take (i := 6) (v := ?va6x7) rfl (by kernel_rfl) (by kernel_rfl) (by kernel_rfl) (fun _ _ _ h => h) (Or.inl ⟨by rfl, ?hy6x7⟩) (by assumption) ?rest6x7
        case hy6x7 => (intro w hSw; (try dsimp only at hSw); go_simp; try with_reducible rfl)
        (try simp only [Act.put, List.getElem_toArray, List.getElem_cons_zero, List.getElem_cons_succ, List.setIfInBounds_toArray, List.set_cons_zero, List.set_cons_succ])
        refine wpAnyH_take (i := 7) (v := ?va7x8) rfl (by kernel_rfl) (by kernel_rfl) (by kernel_rfl) (fun _ _ _ h => h) (Or.inl ⟨by rfl, ?hy7x8⟩) (by assumption) ?rest7x8
        case hy7x8 => (intro w hSw; (try dsimp only at hSw); go_simp; try with_reducible rfl)
        (try simp only [Act.put, List.getElem_toArray, List.getElem_cons_zero, List.getElem_cons_succ, List.setIfInBounds_toArray, List.set_cons_zero, List.set_cons_succ])
        refine wpAnyH_ready (rs := [8]) (by kernel_rfl) (by simp) ?_
        refine AllReadyH.cons rfl (fun K hK => ?_) AllReadyH.nil
        go_simp
        refine hK.out _ _ (⟨d0, d1, d2⟩) (fun hHeld => ?_)
        clear hK K
        (try simp only [Act.put, List.getElem_toArray, List.getElem_cons_zero, List.getElem_cons_succ, List.setIfInBounds_toArray, List.set_cons_zero, List.set_cons_succ])
        generalize w4.drew = w5 at *
        refine wpAnyH_ready (rs := [9]) (by kernel_rfl) (by simp) ?_
        refine AllReadyH.cons rfl (fun K hK => ?_) AllReadyH.nil
        go_simp
        refine (s_l6Scan w a b c v3 h.f cs k _ HF.out BD.out OD.out HKC.out HKF.out HIN.out HRL.out).mono ?_
        rintro e w6 ⟨rfl, ho6, hg6⟩
        have O6 := Lib.hid ho6
        have B6 := Lib.hid (BD.out.grown hg6 BD.out.size (fun g e => (owns_lt OD.out e).1))
        have R6 := Lib.hid (show RowH _ _ _ _ _ from row_grown OD.out (by decide) hg6 D0.out)
        clear ho6 hg6
        refine hK.out _ _ (⟨R6.out.c0, R6.out.c1, R6.out.c2⟩) (fun hHeld => ?_)
        clear hK K
        (try simp only [Act.put, List.getElem_toArray, List.getElem_cons_zero, List.getElem_cons_succ, List.setIfInBounds_toArray, List.set_cons_zero, List.set_cons_succ])
        refine wpAnyH_done (by kernel_rfl) ?_ _
        clear hHeld d0 d1 d2 dt
        go_wp2_with fail
        go_roundw
        case rel => exact ⟨n + 1, _, by go_num, hn1, HMK, O6, B6, R6⟩
        case measure => simp [intOf]; omega
      · have n1 : ¬ (n : Int) < (m : Int) := by omega
        have hx : zs.getD n 0 = 0 := getD_outI (by rw [HM.out]; exact hnm)
        rw [hx, Int.zero_tmod] at hrm
        obtain rfl : r = 0 := by omega
        clear hx hrm hx0
        rw [Nat.add_zero] at qt
        go_wp2_with fail
        have D0 : Hid (RowH w4.drew w.heap.size a b c) := R4.out
        have OD : Hid (Own w4.drew w.heap.size v3 cs) := O4.out
        have BD := Lib.hid (below_drew B4.out)
        have d0 := D0.out.c0
        have d1 := D0.out.c1
        have d2 := D0.out.c2
        have dt : w4.drew.cell? ⟨tb, to, none⟩ = some (.int .i64 (k : Int)) := qt
        refine wp_region_held_drew (S := (fun w' => w'.cell? ⟨w.heap.size, 0, none⟩ = some a ∧ w'.cell? ⟨w.heap.size, 1, none⟩ = some b ∧ w'.cell? ⟨w.heap.size, 2, none⟩ = some c)) (by kernel_rfl) (⟨d0, d1, d2⟩) (fun hHeld => ?_)
        refine wpAnyH_take (i := 0) (v := ?va0x9) rfl (by kernel_rfl) (by kernel_rfl) (by kernel_rfl) (fun _ _ _ h => h) (Or.inl ⟨by rfl, ?hy0x9⟩) (by assumption) ?rest0x9
        case hy0x9 => (intro w hSw; (try dsimp only at hSw); go_simp; try with_reducible rfl)
        (try simp only [Act.put, List.getElem_toArray, List.getElem_cons_zero, List.setIfInBounds_toArray, List.set_cons_zero, List.set_cons_succ])
        refine wpAnyH_take (i := 1) (v := ?va1x10) rfl (by kernel_rfl) (by kernel_rfl) (by kernel_rfl) (fun _ _ _ h => h) (Or.inl ⟨by rfl, ?hy1x10⟩) (by assumption) ?rest1x10
        case hy1x10 => (intro w hSw; (try dsimp only at hSw); go_simp; try with_reducible rfl)
        (try simp only [Act.put, List.getElem_toArray, List.getElem_cons_zero, List.getElem_cons_succ, List.setIfInBounds_toArray, List.set_cons_zero, List.set_cons_succ])
        refine wpAnyH_take (i := 2) (v := ?va2x11) rfl (by kernel_rfl) (by kernel_rfl) (by kernel_rfl) (fun _ _ _ h => h) (Or.inl ⟨by rfl, ?hy2x11⟩) (by assumption) ?rest2x11
        case hy2x11 => (intro w hSw; (try dsimp only at hSw); go_simp; try with_reducible rfl)
        (try simp only [Act.put, List.getElem_toArray, List.getElem_cons_zero, List.getElem_cons_succ, List.setIfInBounds_toArray, List.set_cons_zero, List.set_cons_succ])
        refine wpAnyH_take (i := 3) (v := ?va3x12) rfl (by kernel_rfl) (by kernel_rfl) (by kernel_rfl) (fun _ _ _ h => h) (Or.inl ⟨by rfl, ?hy3x12⟩) (by assumption) ?rest3x12
        case hy3x12 => (intro w hSw; (try dsimp only at hSw); go_simp; try with_reducible rfl)
        (try simp only [Act.put, List.getElem_toArray, List.getElem_cons_zero, List.getElem_cons_succ, List.setIfInBounds_toArray, List.set_cons_zero, List.set_cons_succ])
        refine wpAnyH_take (i := 4) (v := ?va4x13) rfl (by kernel_rfl) (by kernel_rfl) (by kernel_rfl) (fun _ _ _ h => h) (Or.inl ⟨by rfl, ?hy4x13⟩) (by assumption) ?rest4x13
        case hy4x13 => (intro w hSw; (try dsimp only at hSw); go_simp; try with_reducible rfl)
        (try simp only [Act.put, List.getElem_toArray, List.getElem_cons_zero, List.getElem_cons_succ, List.setIfInBounds_toArray, List.set_cons_zero, List.set_cons_succ])
        refine wpAnyH_take (i := 5) (v := ?va5x14) rfl (by kernel_rfl) (by kernel_rfl) (by kernel_rfl) (fun _ _ _ h => h) (Or.inl ⟨by rfl, ?hy5x14⟩) (by assumption) ?rest5x14
        case hy5x14 => (intro w hSw; (try dsimp only at hSw); go_simp; try with_reducible rfl)
        (try simp only [Act.put, List.getElem_toArray, List.getElem_cons_zero, List.getElem_cons_succ, List.setIfInBounds_toArray, List.set_cons_zero, List.set_cons_succ])
        refine wpAnyH_take (i := 6) (v := ?va6x15) rfl (by kernel_rfl) (by kernel_rfl) (by kernel_rfl) (fun _ _ _ h => h) (Or.inl ⟨by rfl, ?hy6x15⟩) (by assumption) ?rest6x15
        case hy6x15 => (intro w hSw; (try dsimp only at hSw); go_simp; try with_reducible rfl)
        (try simp only [Act.put, List.getElem_toArray, List.getElem_cons_zero, List.getElem_cons_succ, List.setIfInBounds_toArray, List.set_cons_zero, List.set_cons_succ])
        refine wpAnyH_take (i := 7) (v := ?va7x16) rfl (by kernel_rfl) (by kernel_rfl) (by kernel_rfl) (fun _ _ _ h => h) (Or.inl ⟨by rfl, ?hy7x16⟩) (by assumption) ?rest7x16
        case hy7x16 => (intro w hSw; (try dsimp only at hSw); go_simp; try with_reducible rfl)
        (try simp only [Act.put, List.getElem_toArray, List.getElem_cons_zero, List.getElem_cons_succ, List.setIfInBounds_toArray, List.set_cons_zero, List.set_cons_succ])
        refine wpAnyH_ready (rs := [8]) (by kernel_rfl) (by simp) ?_
        refine AllReadyH.cons rfl (fun K hK => ?_) AllReadyH.nil
        go_simp
        refine hK.out _ _ (⟨d0, d1, d2⟩) (fun hHeld => ?_)
        clear hK K
        (try simp only [Act.put, List.getElem_toArray, List.getElem_cons_zero, List.getElem_cons_succ, List.setIfInBounds_toArray, List.set_cons_zero, List.set_cons_succ])
        generalize w4.drew = w5 at *
        refine wpAnyH_ready (rs := [9]) (by kernel_rfl) (by simp) ?_
        refine AllReadyH.cons rfl (fun K hK => ?_) AllReadyH.nil
        go_simp
        refine (s_l6Scan w a b c v3 h.f cs k _ HF.out BD.out OD.out HKC.out HKF.out HIN.out HRL.out).mono ?_
        rintro e w6 ⟨rfl, ho6, hg6⟩
        have O6 := Lib.hid ho6
        have B6 := Lib.hid (BD.out.grown hg6 BD.out.size (fun g e => (owns_lt OD.out e).1))
        have R6 := Lib.hid (show RowH _ _ _ _ _ from row_grown OD.out (by decide) hg6 D0.out)
        clear ho6 hg6
        refine hK.out _ _ (⟨R6.out.c0, R6.out.c1, R6.out.c2⟩) (fun hHeld => ?_)
        clear hK K
        (try simp only [Act.put, List.getElem_toArray, List.getElem_cons_zero, List.getElem_cons_succ, List.setIfInBounds_toArray, List.set_cons_zero, List.set_cons_succ])
        refine wpAnyH_done (by kernel_rfl) ?_ _
        clear hHeld d0 d1 d2 dt
        go_wp2_with fail
        go_roundw
        case rel => exact ⟨n + 1, _, by go_num, hn1, HMK, O6, B6, R6⟩
        case measure => simp [intOf]; omega
end Go.Proofs.Ytkkigoamphkalaa
namespace Go.Proofs.Ytkkigoamphkalaa
open Go.RowKit Ph

theorem c_areChoices (v : Value) (zs : List Int) (w : World) (hz : IntsAt w v zs) : Calls Try.prog 132 #[v] w fun e w' => e = .returned (.bool (choB zs)) ∧ w = w' := by
  have HZ := Lib.hid hz
  obtain ⟨va, vc, rfl⟩ := hz.shape
  clear hz
  have hE : choB zs = (decide (zs.length ≤ 40) && zs.all (inB 0 100)) := rfl
  have HC : Hid (zs.length ≤ 40 → Calls Try.prog 170 #[.slice va zs.length vc, .int .i64 0, .int .i64 100] w fun e w' => e = .returned (.bool (zs.all (inB 0 100))) ∧ w = w') := fun h => c_areWithin _ zs 0 100 w HZ.out (by omega)
  generalize zs.all (inB 0 100) = x at *
  generalize choB zs = y at *
  generalize zs.length = n at *
  by_cases h : n ≤ 40
  · have hn : (n : Int) ≤ 40 := by omega
    have HE : Hid (y = x) := by unfold Hid; rw [hE, decide_eq_true h]; simp
    clear hE
    go_enter Try.func132, Try.ntmps132
    go_wp2_with (go_at_call 170; refine (HC.out h).mono ?_; rintro e w1 ⟨rfl, rfl⟩)
    go_ret
    exact ⟨r_b HE.out.symm, rfl⟩
  · have hn : ¬ (n : Int) ≤ 40 := by omega
    have HE : Hid (y = false) := by unfold Hid; rw [hE, decide_eq_false h]; simp
    clear hE
    go_enter Try.func132, Try.ntmps132
    go_wp2
    go_ret
    exact ⟨r_b HE.out.symm, rfl⟩
theorem c_byChoices (a : Option Addr) (n cap : Nat) (w : World) : Calls Try.prog 134 #[.slice a n cap] w fun e w' => e = .returned (.func (.func 171) #[] #[.pointer (some ⟨w.heap.size + 1, 0, none⟩), .pointer (some ⟨w.heap.size, 0, none⟩)]) ∧ w' = (w.alloc (.cells #[.slice a n cap] 24)).alloc (.cells #[.int .i64 0] 3) := by
  go_enter Try.func134, Try.ntmps134
  go_wp2
  go_ret
  exact ⟨rfl, rfl⟩
theorem chg1 (w : World) (g k : Nat) (x : Value) : Chg g (g + 1) w (w.setCell ⟨g, k, none⟩ x) :=
  have bb := (Below.refl g w).setCell (p := ⟨g, k, none⟩) (Nat.le_refl _) x
  ⟨bb.os, bb.tape, bb.output, bb.size, fun i _ hx => heap_setCell_other w ⟨g, k, none⟩ i _ (by simp only; omega)⟩
set_option maxHeartbeats 1600000 in
theorem c_pickOf (W : World) (gu gb q n : Nat) (cv : Value) (zs : List Int) (w : World) (hz : IntsAt W cv zs) (hB : Below W.heap.size W w) (hU : Row w gu 3 #[.int .i64 ((min n zs.length : Nat) : Int)]) (hC : Row w gb 24 #[cv]) (hx : 0 ≤ zs.getD n 0 ∧ zs.getD n 0 ≤ 100) (hzl : zs.length ≤ 40) (hq : 0 < q) (hgu : W.heap.size ≤ gu) (hne : gb ≠ gu) :
    Calls Try.prog 171 #[.int .i64 (q : Int), .pointer (some ⟨gu, 0, none⟩), .pointer (some ⟨gb, 0, none⟩)] w fun e w' => e = .returned (.int .i64 ((zs.getD n 0).tmod (q : Int))) ∧ Row w' gu 3 #[.int .i64 ((min (n + 1) zs.length : Nat) : Int)] ∧ w.grownBy w' (some gu) := by
  obtain ⟨va, vc, rfl⟩ := hz.shape
  have cu := hU.cell 0
  have fu := hU.frozen 0
  have cb := hC.cell 0
  by_cases hn : n < zs.length
  · obtain ⟨vb, vo, rfl, hcv⟩ := hz.at' (by omega)
    have hvl := hcv n hn
    have hvb := block_lt_of_cell hvl
    have hvn : vb ≠ gu := by simp only at hvb; omega
    have qv := cellBelow hB (Nat.le_refl _) hvl
    have e1 : min n zs.length = n := by omega
    have e2 : min (n + 1) zs.length = n + 1 := by omega
    rw [e1] at hU cu
    rw [e2]
    have hs := hU.set 0 (.int .i64 ((n + 1 : Nat) : Int))
    have RU : Hid (Row (w.setCell ⟨gu, 0, none⟩ (.int .i64 ((n + 1 : Nat) : Int))) gu 3 #[.int .i64 ((n + 1 : Nat) : Int)]) := by unfold Hid; simpa using hs
    have GU := Lib.hid (chg1 w gu 0 (.int .i64 ((n + 1 : Nat) : Int)))
    have hcast : ((n + 1 : Nat) : Int) = (n : Int) + 1 := by omega
    rw [hcast] at RU GU ⊢
    have RB := Row.other hC ⟨gu, 0, none⟩ hne (.int .i64 ((n : Int) + 1))
    have cb2 := RB.cell 0
    have cu2 := RU.out.cell 0
    have qv2 : (w.setCell ⟨gu, 0, none⟩ (.int .i64 ((n : Int) + 1))).cell? ⟨vb, vo + n, none⟩ = some (.int .i64 (zs.getD n 0)) := by
      rw [World.cell?, heap_setCell_other w ⟨gu, 0, none⟩ vb _ hvn]; exact qv
    have hlt1 : (n : Int) < (zs.length : Int) := by omega
    have hw1 : IntKind.i64.wrap ((n : Int) + 1) = (n : Int) + 1 := IntWalk.i64_in _ (by omega)
    have hw2 : IntKind.i64.wrap ((n : Int) + 1 - 1) = (n : Int) := by rw [IntWalk.i64_in _ (by omega)]; omega
    have hneq : ((n : Int) == (zs.length : Int)) = false := by simp; omega
    have hn0 : (0 : Int) ≤ (n : Int) := by omega
    have hq0 : ¬ q = 0 := by omega
    have hm40 : Hid (zs.length ≤ 40) := hzl
    clear hz hB hU hC hcv hvl hs RB e1 e2 hcast hvb
    generalize zs.length = m at *
    generalize zs.getD n 0 = x at *
    go_enter Try.func171, Try.ntmps171
    go_wp2_with fail
    go_ret
    exact ⟨r_i (Int.tmod_eq_emod_of_nonneg hx.1).symm, RU.out, ⟨GU.out.os, GU.out.tape, GU.out.output, GU.out.size, fun i hi hx => GU.out.block i hi (by have : i ≠ gu := fun e => hx (by rw [e]); omega)⟩⟩
  · have e1 : min n zs.length = zs.length := by omega
    have e2 : min (n + 1) zs.length = zs.length := by omega
    have e3 : zs.getD n 0 = 0 := getD_outI hn
    rw [e1] at hU cu
    rw [e2, e3, Int.zero_tmod]
    have RU := Lib.hid hU
    have hneq : ((zs.length : Int) == (zs.length : Int)) = true := by simp
    clear hz hB hU hC e1 e2 e3
    generalize zs.length = m at *
    go_enter Try.func171, Try.ntmps171
    go_wp2_with fail
    go_ret
    exact ⟨rfl, RU.out, World.grownBy.refl _ _⟩
/-- While the marking goes on. -/
structure Finis (W w wr : World) (gm gu gb : Nat) (a b c v p cv : Value) (h : H) (zs : List Int) (n : Nat) (cs : List Int) : Prop where
  mark : Mk h cs n
  own : Own wr W.heap.size v cs
  m : Row wr gm 113 (c5 a b c v p)
  u : Row wr gu 3 #[.int .i64 ((min n zs.length : Nat) : Int)]
  b : Row wr gb 24 #[cv]
  low : Below W.heap.size W wr
  fr : ∀ i, i < w.heap.size → v.ownBlock ≠ some i → i ≠ gu → wr.heap[i]? = w.heap[i]?
  sz : w.heap.size ≤ wr.heap.size
section
variable {W w wr w' : World} {gm gu gb n : Nat} {a b c v p cv : Value} {h : H} {zs cs : List Int}
theorem Finis.below (k : Finis W w wr gm gu gb a b c v p cv h zs n cs) (hb : Below wr.heap.size wr w') : Finis W w w' gm gu gb a b c v p cv h zs n cs :=
  ⟨k.mark, k.own.below hb, k.m.below hb, k.u.below hb, k.b.below hb, bst k.low hb k.low.size, fun i hi h1 h2 => (hb.block i (Nat.lt_of_lt_of_le hi k.sz)).trans (k.fr i hi h1 h2), Nat.le_trans k.sz hb.size⟩
theorem Finis.rest (k : Finis W w wr gm gu gb a b c v p cv h zs n cs) (hg : wr.grownBy w' (some gu)) (hu : Row w' gu 3 #[.int .i64 ((min (n + 1) zs.length : Nat) : Int)]) (hgu : W.heap.size ≤ gu) (h1 : v.ownBlock ≠ some gu) (h2 : gm ≠ gu) (h3 : gb ≠ gu) :
    Own w' W.heap.size v cs ∧ Row w' gm 113 (c5 a b c v p) ∧ Row w' gb 24 #[cv] ∧ Below W.heap.size W w' ∧ (∀ i, i < w.heap.size → v.ownBlock ≠ some i → i ≠ gu → w'.heap[i]? = w.heap[i]?) ∧ w.heap.size ≤ w'.heap.size ∧ Row w' gu 3 #[.int .i64 ((min (n + 1) zs.length : Nat) : Int)] :=
  ⟨owns_block k.own fun g hg' => hg.block g (owns_lt k.own hg').2 (fun e => h1 (by rw [hg', e])), Row.grownBy k.m hg (by simpa using Ne.symm h2), Row.grownBy k.b hg (by simpa using Ne.symm h3), k.low.grown hg k.low.size (fun _ e => by cases e; exact hgu), fun i hi q1 q2 => (hg.block i (Nat.lt_of_lt_of_le hi k.sz) (by simpa using q2)).trans (k.fr i hi q1 q2), Nat.le_trans k.sz hg.size, hu⟩
theorem Finis.next {w2 : World} {cs' : List Int} {n' : Nat} (ho : Own w' W.heap.size v cs) (hm : Row w' gm 113 (c5 a b c v p)) (hb : Row w' gb 24 #[cv]) (hlow : Below W.heap.size W w') (hfr : ∀ i, i < w.heap.size → v.ownBlock ≠ some i → i ≠ gu → w'.heap[i]? = w.heap[i]?) (hsz : w.heap.size ≤ w'.heap.size) (hu : Row w' gu 3 #[.int .i64 ((min n' zs.length : Nat) : Int)])
    (hmk : Mk h cs' n') (hg : w'.grownBy w2 v.ownBlock) (ho2 : Own w2 W.heap.size v cs') (h1 : v.ownBlock ≠ some gu) (h2 : v.ownBlock ≠ some gm) (h3 : v.ownBlock ≠ some gb) : Finis W w w2 gm gu gb a b c v p cv h zs n' cs' :=
  ⟨hmk, ho2, Row.grownBy hm hg h2, Row.grownBy hu hg h1, Row.grownBy hb hg h3, hlow.grown hg hlow.size (fun _ e => (owns_lt ho e).1), fun i hi q1 q2 => (hg.block i (Nat.lt_of_lt_of_le hi hsz) (fun e => q1 e.symm)).trans (hfr i hi q1 q2), Nat.le_trans hsz hg.size⟩
end
set_option maxRecDepth 100000 in
set_option maxHeartbeats 3200000 in
theorem c_finish (W : World) (a b c v cv : Value) (h : H) (zs : List Int) (gu gb : Nat) (w : World) (hF : RowsAt W a h.f) (hG : Ph.Good h) (hz : IntsAt W cv zs) (hch : choB zs = true) (hB : Below W.heap.size W w) (ho : Own w W.heap.size v (startC h)) (hU : Row w gu 3 #[.int .i64 0]) (hC : Row w gb 24 #[cv]) (hgu : W.heap.size ≤ gu) (hne : v.ownBlock ≠ some gu) (hne2 : v.ownBlock ≠ some gb) (hgb : gb ≠ gu) :
    Calls Try.prog 135 #[mkv a b c v (.func (.func 171) #[] #[.pointer (some ⟨gu, 0, none⟩), .pointer (some ⟨gb, 0, none⟩)])] w fun e w' => e = .returned (.int .i64 (endN h : Int)) ∧ Own w' W.heap.size v (endC h) ∧ Below W.heap.size W w' ∧ (∀ i, i < w.heap.size → v.ownBlock ≠ some i → i ≠ gu → w'.heap[i]? = w.heap[i]?) := by
  have hb0 := below1 w (.cells (c5 a b c v (.func (.func 171) #[] #[.pointer (some ⟨gu, 0, none⟩), .pointer (some ⟨gb, 0, none⟩)])) 113)
  obtain ⟨hzl, hzr⟩ := choB_iff.1 hch
  have F0 : Finis W w (w.alloc (.cells (c5 a b c v (.func (.func 171) #[] #[.pointer (some ⟨gu, 0, none⟩), .pointer (some ⟨gb, 0, none⟩)])) 113)) w.heap.size gu gb a b c v (.func (.func 171) #[] #[.pointer (some ⟨gu, 0, none⟩), .pointer (some ⟨gb, 0, none⟩)]) cv h zs 0 (startC h) :=
    ⟨Mk.start hG, ho.below hb0, Row.new w _ _, by rw [Nat.zero_min]; exact Row.alloc hU _, Row.alloc hC _, bst hB hb0 hB.size, fun i hi _ _ => hb0.block i hi, hb0.size⟩
  have HGM : Hid (v.ownBlock ≠ some w.heap.size) := fun e => by have := (owns_lt ho e).2; omega
  have HMU : Hid (w.heap.size ≠ gu) := by unfold Hid; have := hU.lt; omega
  have HF := Lib.hid hF; have HG := Lib.hid hG; have HZ := Lib.hid hz; have HN1 := Lib.hid hne; have HN2 := Lib.hid hne2; have HGU := Lib.hid hgu; have HGB := Lib.hid hgb; have HZL := Lib.hid hzl; have HZR := Lib.hid hzr; have FF0 := Lib.hid F0
  clear hF hG hz hch hB ho hU hC hgu hne hne2 hgb hb0 F0 hzl hzr
  go_enter Try.func135, Try.ntmps135
  go_wp2
  generalize hgm : w.heap.size = gm at *
  generalize (w.alloc (.cells (c5 a b c v (.func (.func 171) #[] #[.pointer (some ⟨gu, 0, none⟩), .pointer (some ⟨gb, 0, none⟩)])) 113)) = w0 at *
  go_loopw [3] (fun i wr => ∃ n cs, i = .int .i64 (n : Nat) ∧ n ≤ 12 ∧ Hid (Finis W w wr gm gu gb a b c v (.func (.func 171) #[] #[.pointer (some ⟨gu, 0, none⟩), .pointer (some ⟨gb, 0, none⟩)]) cv h zs n cs)) (fun i _ => 13 - (intOf i).toNat)
  case atStart => exact ⟨0, startC h, rfl, Nat.zero_le _, FF0⟩
  case round =>
    obtain ⟨n, cs, rfl, hn12, hfin⟩ := hrel
    have hcl : cs.length ≤ 12 := by rw [hfin.out.mark.len]; exact HG.out.n
    have m3 := hfin.out.m.cell 3
    go_wp2_with fail
    refine (c_thingsOf v cs 1 wr hfin.out.own.ints hcl).mono ?_
    rintro e w4 ⟨v4, rfl, ho4, hb4⟩
    have F4 := Lib.hid (hfin.out.below hb4)
    have T4 := Lib.hid ho4.ints
    have T4B : Hid (∀ g, v4.ownBlock = some g → wr.heap.size ≤ g) := fun g e => (owns_lt ho4 e).1
    have HLR : Hid (gu < wr.heap.size) := hfin.out.u.lt
    have HDN := Lib.hid hfin.out.mark.done
    have HGA := Lib.hid (greyAt (cs := cs))
    have htl : (ofC cs 1).length ≤ 12 := Nat.le_trans (ofTo_len _ _ _) hcl
    rcases ho4.shape' with ⟨rfl, h0⟩ | ⟨tb, tc, rfl⟩
    · obtain ⟨e1, e2⟩ := HDN.out h0
      have HX1 : Hid (Own w4 W.heap.size v (endC h)) := by rw [← e1]; exact F4.out.own
      have HX2 : Hid ((n : Int) = (endN h : Int)) := by unfold Hid; rw [e2]
      clear e1 e2 ho4 hb4 m3
      go_wp2_with fail
      go_ret
      exact ⟨r_i HX2.out, HX1.out, F4.out.low, F4.out.fr⟩
    clear ho4 hb4 m3
    generalize ofC cs 1 = ts at *
    generalize hk : ts.length = q at *
    have HQ := Lib.hid hk; clear hk
    by_cases hq0 : q = 0
    · subst hq0
      obtain ⟨e1, e2⟩ := HDN.out (List.eq_nil_of_length_eq_zero HQ.out)
      have HX1 : Hid (Own w4 W.heap.size v (endC h)) := by rw [← e1]; exact F4.out.own
      have HX2 : Hid ((n : Int) = (endN h : Int)) := by unfold Hid; rw [e2]
      clear e1 e2
      go_wp2_with fail
      go_ret
      exact ⟨r_i HX2.out, HX1.out, F4.out.low, F4.out.fr⟩
    · have hq1 : ((q : Int) == 0) = false := by simp; omega
      have hq3 : 0 < q := by omega
      obtain ⟨hx0, hx100⟩ := HZR.out n
      obtain ⟨r, hrm, hrq⟩ := pickOf (zs.getD n 0) hx0 hq3
      obtain ⟨k, hgk, hkc, hk1⟩ := HGA.out r hrq
      have qt : w4.cell? ⟨tb, r, none⟩ = some (.int .i64 (ts.getD r 0)) := by
        obtain ⟨tb', to', e, q'⟩ := T4.out.at' hq3
        cases e
        have := q' r hrq
        rwa [Nat.zero_add] at this
      rw [hgk] at qt
      have r0 : (0 : Int) ≤ (r : Int) := by omega
      have r1 : (r : Int) < (q : Int) := by omega
      have HMK : Hid (Mk h (scan cs (h.f.getD k []) k) (n + 1)) := hfin.out.mark.step HG.out hkc hk1
      have hn1 : n + 1 ≤ 12 := by have := HMK.out.le; have := HG.out.n; omega
      have HKC := Lib.hid hkc
      have HK1 : Hid (cs.getD k 0 ≠ 0) := by unfold Hid; rw [hk1]; omega
      have HKF : Hid (k < h.f.length) := by unfold Hid; rw [← hfin.out.mark.len]; exact hkc
      have HIN : Hid (∀ z ∈ h.f.getD k [], inR cs.length z) := fun z hz => by rw [hfin.out.mark.len]; exact (HG.out.field hz).imp id (fun h => ⟨h.1, h.2.1⟩)
      have HRL : Hid ((h.f.getD k []).length ≤ 3) := (HG.out.row k (by rw [← hfin.out.mark.len]; exact hkc)).1
      have HTU : Hid (tb ≠ gu) := by unfold Hid; have := T4B.out tb rfl; have := HLR.out; omega
      have HTV : Hid (v.ownBlock ≠ some tb) := fun e => by have := T4B.out tb rfl; have := (owns_lt hfin.out.own e).2; omega
      have HPK := Lib.hid (fun w' hB hU hC => c_pickOf W gu gb q n cv zs w' HZ.out hB hU hC ⟨hx0, hx100⟩ HZL.out hq3 HGU.out HGB.out)
      rw [hrm] at HPK
      clear hgk hkc hk1 HDN HGA hrm hx100 hx0
      go_wp2_with fail
      have FD : Hid (Finis W w w4.drew gm gu gb a b c v (.func (.func 171) #[] #[.pointer (some ⟨gu, 0, none⟩), .pointer (some ⟨gb, 0, none⟩)]) cv h zs n cs) := F4.out.below (below_drew (Below.refl _ _))
      have d0 := FD.out.m.cell 0
      have d1 := FD.out.m.cell 1
      have d2 := FD.out.m.cell 2
      have d3 := FD.out.m.cell 3
      have d4 := FD.out.m.cell 4
      have dt : w4.drew.cell? ⟨tb, r, none⟩ = some (.int .i64 (k : Int)) := qt
      refine wp_region_held_drew (S := (fun w' => w'.cell? ⟨gm, 0, none⟩ = some a ∧ w'.cell? ⟨gm, 1, none⟩ = some b ∧ w'.cell? ⟨gm, 2, none⟩ = some c ∧ w'.cell? ⟨gm, 3, none⟩ = some v ∧ w'.cell? ⟨gm, 4, none⟩ = some (.func (.func 171) #[] #[.pointer (some ⟨gu, 0, none⟩), .pointer (some ⟨gb, 0, none⟩)]) ∧ w'.cell? ⟨tb, r, none⟩ = some (.int .i64 (k : Int)))) (by kernel_rfl) (⟨d0, d1, d2, d3, d4, dt⟩) (fun hHeld => ?_)
      refine wpAnyH_take (i := 0) (v := ?va0x1) rfl (by kernel_rfl) (by kernel_rfl) (by kernel_rfl) (fun _ _ _ h => h) (Or.inl ⟨by rfl, ?hy0x1⟩) (by assumption) ?rest0x1
      case hy0x1 => (intro w hSw; (try dsimp only at hSw); go_simp; try with_reducible rfl)
      (try simp only [Act.put, List.getElem_toArray, List.getElem_cons_zero, List.setIfInBounds_toArray, List.set_cons_zero, List.set_cons_succ])
      refine wpAnyH_take (i := 1) (v := ?va1x2) rfl (by kernel_rfl) (by kernel_rfl) (by kernel_rfl) (fun _ _ _ h => h) (Or.inl ⟨by rfl, ?hy1x2⟩) (by assumption) ?rest1x2
      case hy1x2 => (intro w hSw; (try dsimp only at hSw); go_simp; try with_reducible rfl)
      (try simp only [Act.put, List.getElem_toArray, List.getElem_cons_zero, List.getElem_cons_succ, List.setIfInBounds_toArray, List.set_cons_zero, List.set_cons_succ])
      refine wpAnyH_take (i := 2) (v := ?va2x3) rfl (by kernel_rfl) (by kernel_rfl) (by kernel_rfl) (fun _ _ _ h => h) (Or.inl ⟨by rfl, ?hy2x3⟩) (by assumption) ?rest2x3
      case hy2x3 => (intro w hSw; (try dsimp only at hSw); go_simp; try with_reducible rfl)
      (try simp only [Act.put, List.getElem_toArray, List.getElem_cons_zero, List.getElem_cons_succ, List.setIfInBounds_toArray, List.set_cons_zero, List.set_cons_succ])
      refine wpAnyH_take (i := 3) (v := ?va3x4) rfl (by kernel_rfl) (by kernel_rfl) (by kernel_rfl) (fun _ _ _ h => h) (Or.inl ⟨by rfl, ?hy3x4⟩) (by assumption) ?rest3x4
      case hy3x4 => (intro w hSw; (try dsimp only at hSw); go_simp; try with_reducible rfl)
      (try simp only [Act.put, List.getElem_toArray, List.getElem_cons_zero, List.getElem_cons_succ, List.setIfInBounds_toArray, List.set_cons_zero, List.set_cons_succ])
      refine wpAnyH_take (i := 4) (v := ?va4x5) rfl (by kernel_rfl) (by kernel_rfl) (by kernel_rfl) (fun _ _ _ h => h) (Or.inl ⟨by rfl, ?hy4x5⟩) (by assumption) ?rest4x5
      case hy4x5 => (intro w hSw; (try dsimp only at hSw); go_simp; try with_reducible rfl)
      (try simp only [Act.put, List.getElem_toArray, List.getElem_cons_zero, List.getElem_cons_succ, List.setIfInBounds_toArray, List.set_cons_zero, List.set_cons_succ])
      refine wpAnyH_take (i := 5) (v := ?va5x6) rfl (by kernel_rfl) (by kernel_rfl) (by kernel_rfl) (fun _ _ _ h => h) (Or.inl ⟨by rfl, ?hy5x6⟩) (by assumption) ?rest5x6
      case hy5x6 => (intro w hSw; (try dsimp only at hSw); go_simp; try with_reducible rfl)
      (try simp only [Act.put, List.getElem_toArray, List.getElem_cons_zero, List.getElem_cons_succ, List.setIfInBounds_toArray, List.set_cons_zero, List.set_cons_succ])
      refine wpAnyH_ready (rs := [6]) (by kernel_rfl) (by simp) ?_
      refine AllReadyH.cons rfl (fun K hK => ?_) AllReadyH.nil
      go_simp
      refine (HPK.out _ FD.out.low FD.out.u FD.out.b).mono ?_
      rintro e w5 ⟨rfl, hu5, hg5⟩
      obtain ⟨o5, m5, b5, l5, f5, s5, u5⟩ := FD.out.rest hg5 hu5 HGU.out HN1.out HMU.out HGB.out
      have dt5 := cellGrown hg5 HTU.out dt
      have O5 := Lib.hid o5; have M5 := Lib.hid m5; have B5 := Lib.hid b5; have L5 := Lib.hid l5; have FR5 := Lib.hid f5; have S5 := Lib.hid s5; have U5 := Lib.hid u5
      clear o5 m5 b5 l5 f5 s5 u5 hu5 hg5
      refine hK.out _ _ (⟨M5.out.cell 0, M5.out.cell 1, M5.out.cell 2, M5.out.cell 3, M5.out.cell 4, dt5⟩) (fun hHeld => ?_)
      clear hK K
      (try simp only [Act.put, List.getElem_toArray, List.getElem_cons_zero, List.getElem_cons_succ, List.setIfInBounds_toArray, List.set_cons_zero, List.set_cons_succ])
      refine wpAnyH_take (i := 7) (v := ?va7x7) rfl (by kernel_rfl) (by kernel_rfl) (by kernel_rfl) (fun _ _ _ h => h) (Or.inl ⟨by rfl, ?hy7x7⟩) (by assumption) ?rest7x7
      case hy7x7 => (intro w hSw; (try dsimp only at hSw); go_simp; try with_reducible rfl)
      (try simp only [Act.put, List.getElem_toArray, List.getElem_cons_zero, List.getElem_cons_succ, List.setIfInBounds_toArray, List.set_cons_zero, List.set_cons_succ])
      refine wpAnyH_take (i := 8) (v := ?va8x8) rfl (by kernel_rfl) (by kernel_rfl) (by kernel_rfl) (fun _ _ _ h => h) (Or.inl ⟨by rfl, ?hy8x8⟩) (by assumption) ?rest8x8
      case hy8x8 => (intro w hSw; (try dsimp only at hSw); go_simp; try with_reducible rfl)
      (try simp only [Act.put, List.getElem_toArray, List.getElem_cons_zero, List.getElem_cons_succ, List.setIfInBounds_toArray, List.set_cons_zero, List.set_cons_succ])
      refine wpAnyH_ready (rs := [9]) (by kernel_rfl) (by simp) ?_
      refine AllReadyH.cons rfl (fun K hK => ?_) AllReadyH.nil
      go_simp
      refine (c_darkenB W a b c (.func (.func 171) #[] #[.pointer (some ⟨gu, 0, none⟩), .pointer (some ⟨gb, 0, none⟩)]) v h.f cs k _ HF.out L5.out O5.out F4.out.mark.col HKC.out HKF.out HK1.out HIN.out HRL.out).mono ?_
      rintro e w6 ⟨rfl, ho6, hg6⟩
      have F6 := Lib.hid (Finis.next O5.out M5.out B5.out L5.out FR5.out S5.out U5.out HMK.out hg6 ho6 HN1.out HGM.out HN2.out)
      have M6 := Lib.hid F6.out.m
      have dt6 : w6.cell? ⟨tb, r, none⟩ = some (.int .i64 (k : Int)) := by rw [World.cell?, hg6.block tb (block_lt_of_cell dt5) (HTV.out ·.symm)]; exact dt5
      clear ho6 hg6
      refine hK.out _ _ (⟨M6.out.cell 0, M6.out.cell 1, M6.out.cell 2, M6.out.cell 3, M6.out.cell 4, dt6⟩) (fun hHeld => ?_)
      clear hK K
      (try simp only [Act.put, List.getElem_toArray, List.getElem_cons_zero, List.getElem_cons_succ, List.setIfInBounds_toArray, List.set_cons_zero, List.set_cons_succ])
      refine wpAnyH_done (by kernel_rfl) ?_ _
      clear hHeld d0 d1 d2 d3 d4 dt
      go_wp2_with fail
      go_roundw
      case rel => exact ⟨n + 1, _, by go_num, hn1, F6⟩
      case measure => simp [intOf]; omega
end Go.Proofs.Ytkkigoamphkalaa
namespace Go.Proofs.Ytkkigoamphkalaa
open Go.RowKit Ph

set_option maxRecDepth 100000 in
set_option maxHeartbeats 3200000 in
theorem c_MarkAll (a b c v : Value) (h : H) (zs : List Int) (w : World) (hA : HeapAt w a b c h) (hz : IntsAt w v zs) : Calls Try.prog 68 #[hv a b c, v] w (EndII (markR h zs).1 ((markR h zs).2 : Int) (markOk h zs) w) := by
  have hb0 := below1 w (.cells (c3 a b c) 30)
  have A0 := Lib.hid (hA.below hb0)
  have Z0 := Lib.hid (hz.below hb0)
  have HB := Lib.hid hb0
  have R0 := Lib.hid (show RowH _ _ a b c from Row.new w 30 (c3 a b c))
  have HF := Lib.hid hA.f
  clear hA hb0
  have HC := Lib.hid (c_GoodHeap a b c h _ A0.out)
  have HE1 := Lib.hid (markR_no (h := h) (zs := zs))
  have HE2 := Lib.hid (markR_yes (h := h) (zs := zs))
  have hE : markOk h zs = (good h && choB zs) := rfl
  have HGI := Lib.hid (good_iff (h := h)).1
  have HAL : Hid (∀ w', IntsAt w' v zs → Calls Try.prog 132 #[v] w' fun e w'' => e = .returned (.bool (choB zs)) ∧ w' = w'') := fun w' hh => c_areChoices v zs w' hh
  obtain ⟨va, vc, rfl⟩ := hz.shape
  have HZ := Lib.hid hz
  clear hz
  generalize good h = x at *
  generalize hy : choB zs = y at *
  have HY := Lib.hid hy; clear hy
  generalize hok : markOk h zs = ok at *
  clear hok
  generalize (markR h zs).1 = g1 at *
  generalize ((markR h zs).2 : Int) = g2 at *
  generalize zs.length = m at *
  have c0 := R0.out.c0
  have c1 := R0.out.c1
  have c2 := R0.out.c2
  cases x
  · have HE : Hid (ok = false) := by unfold Hid; rw [hE]; rfl
    clear hE
    obtain ⟨HR1, HR2⟩ := HE1.out HE.out
    have HR1 := Lib.hid HR1; have HR2 := Lib.hid HR2
    go_enter Try.func68, Try.ntmps68
    go_wp2_with (go_at_call 55; refine HC.out.mono ?_; rintro e w1 ⟨rfl, hb1⟩; have B1 := Lib.hid (bst HB.out hb1 HB.out.size); have Z1 := Lib.hid (Z0.out.below hb1); have A1 := Lib.hid (A0.out.below hb1); have R1 := Lib.hid (R0.out.below hb1); have d0 := R1.out.c0; have d1 := R1.out.c1; have d2 := R1.out.c2; clear hb1)
    go_ret3
    exact endII_no B1.out HR1.out HR2.out HE.out
  cases y
  · have HE : Hid (ok = false) := by unfold Hid; rw [hE]; rfl
    clear hE
    obtain ⟨HR1, HR2⟩ := HE1.out HE.out
    have HR1 := Lib.hid HR1; have HR2 := Lib.hid HR2
    go_enter Try.func68, Try.ntmps68
    go_wp2_with (first
      | (go_at_call 55; refine HC.out.mono ?_; rintro e w1 ⟨rfl, hb1⟩; have B1 := Lib.hid (bst HB.out hb1 HB.out.size); have Z1 := Lib.hid (Z0.out.below hb1); have A1 := Lib.hid (A0.out.below hb1); have R1 := Lib.hid (R0.out.below hb1); have d0 := R1.out.c0; have d1 := R1.out.c1; have d2 := R1.out.c2; clear hb1)
      | (go_at_call 132; refine (HAL.out _ Z1.out).mono ?_; rintro e w2 ⟨rfl, rfl⟩))
    go_ret3
    exact endII_no B1.out HR1.out HR2.out HE.out
  have HE : Hid (ok = true) := by unfold Hid; rw [hE]; rfl
  clear hE
  obtain ⟨HR1, HR2⟩ := HE2.out HE.out
  have HR1 := Lib.hid HR1; have HR2 := Lib.hid HR2
  have HG := Lib.hid (HGI.out rfl)
  clear HGI HE1 HE2
  obtain ⟨aa, ac, rfl⟩ := A0.out.f.shape
  obtain ⟨ba, bc, rfl⟩ := A0.out.l.shape
  obtain ⟨ca, cc, rfl⟩ := A0.out.r.shape
  generalize h.f.length = na at *
  generalize h.l.length = nb at *
  generalize h.r.length = nc at *
  go_enter Try.func68, Try.ntmps68
  go_wp2_with (first
    | (go_at_call 55; refine HC.out.mono ?_; rintro e w1 ⟨rfl, hb1⟩; have B1 := Lib.hid (bst HB.out hb1 HB.out.size); have Z1 := Lib.hid (Z0.out.below hb1); have A1 := Lib.hid (A0.out.below hb1); have R1 := Lib.hid (R0.out.below hb1); have d0 := R1.out.c0; have d1 := R1.out.c1; have d2 := R1.out.c2; clear hb1)
    | (go_at_call 132; refine (HAL.out _ Z1.out).mono ?_; rintro e w2 ⟨rfl, rfl⟩))
  have BD := Lib.hid (below_drew B1.out)
  have AD := Lib.hid (A1.out.below (below_drew (Below.refl w1.heap.size w1)))
  have RD : Hid (RowH w1.drew w.heap.size (.slice aa na ac) (.slice ba nb bc) (.slice ca nc cc)) := R1.out
  clear d0 d1 d2 c0 c1 c2
  have d0 := RD.out.c0
  have d1 := RD.out.c1
  have d2 := RD.out.c2
  refine wp_region_held_drew (S := (fun w' => w'.cell? ⟨w.heap.size, 0, none⟩ = some (.slice aa na ac) ∧ w'.cell? ⟨w.heap.size, 1, none⟩ = some (.slice ba nb bc) ∧ w'.cell? ⟨w.heap.size, 2, none⟩ = some (.slice ca nc cc))) (by kernel_rfl) (⟨d0, d1, d2⟩) (fun hHeld => ?_)
  refine wpAnyH_take (i := 0) (v := ?va0x1) rfl (by kernel_rfl) (by kernel_rfl) (by kernel_rfl) (fun _ _ _ h => h) (Or.inl ⟨by rfl, ?hy0x1⟩) (by assumption) ?rest0x1
  case hy0x1 => (intro w hSw; (try dsimp only at hSw); go_simp; try with_reducible rfl)
  (try simp only [Act.put, List.getElem_toArray, List.getElem_cons_zero, List.setIfInBounds_toArray, List.set_cons_zero, List.set_cons_succ])
  refine wpAnyH_take (i := 1) (v := ?va1x2) rfl (by kernel_rfl) (by kernel_rfl) (by kernel_rfl) (fun _ _ _ h => h) (Or.inl ⟨by rfl, ?hy1x2⟩) (by assumption) ?rest1x2
  case hy1x2 => (intro w hSw; (try dsimp only at hSw); go_simp; try with_reducible rfl)
  (try simp only [Act.put, List.getElem_toArray, List.getElem_cons_zero, List.getElem_cons_succ, List.setIfInBounds_toArray, List.set_cons_zero, List.set_cons_succ])
  refine wpAnyH_take (i := 3) (v := ?va3x3) rfl (by kernel_rfl) (by kernel_rfl) (by kernel_rfl) (fun _ _ _ h => h) (Or.inl ⟨by rfl, ?hy3x3⟩) (by assumption) ?rest3x3
  case hy3x3 => (intro w hSw; (try dsimp only at hSw); go_simp; try with_reducible rfl)
  (try simp only [Act.put, List.getElem_toArray, List.getElem_cons_zero, List.getElem_cons_succ, List.setIfInBounds_toArray, List.set_cons_zero, List.set_cons_succ])
  generalize w1.drew = wd at *
  clear d0 d1 d2
  refine wpAnyH_ready (rs := [2, 6]) (by kernel_rfl) (by simp) ?_
  refine AllReadyH.cons rfl (fun K hK => ?_) (AllReadyH.cons rfl (fun K hK => ?_) AllReadyH.nil)
  · skip
    go_simp
    refine (c_coloursAtStart (.slice aa na ac) (.slice ba nb bc) (.slice ca nc cc) h _ AD.out HG.out).mono ?_
    rintro e w3 ⟨v3, rfl, ho3, hb3⟩
    obtain ⟨pn, qn, rfl⟩ := ho3.ints.shape
    have RC := Lib.hid (RD.out.below hb3)
    have BC := Lib.hid (bst BD.out hb3 BD.out.size)
    have OC := Lib.hid (ho3.mono BD.out.size)
    have HV : Hid (∀ g, (Value.slice pn (startC h).length qn).ownBlock = some g → g < w3.heap.size) := fun g e => (owns_lt ho3 e).2
    generalize hnl : (startC h).length = n at *
    clear hnl
    clear ho3 hb3
    refine hK.out _ _ ⟨RC.out.c0, RC.out.c1, RC.out.c2⟩ (fun hHeld => ?_)
    clear hK K
    (try simp only [Act.put, List.getElem_toArray, List.getElem_cons_zero, List.getElem_cons_succ, List.setIfInBounds_toArray, List.set_cons_zero, List.set_cons_succ])
    refine wpAnyH_ready (rs := [4, 6]) (by kernel_rfl) (by simp) ?_
    refine AllReadyH.cons rfl (fun K hK => ?_) (AllReadyH.cons rfl (fun K hK => ?_) AllReadyH.nil)
    · skip
      go_simp
      refine (c_byChoices va m vc w3).mono ?_
      rintro e w4 ⟨rfl, hw4⟩
      have hb4 : Below w3.heap.size w3 w4 := by rw [hw4]; exact ((below1 w3 (.cells #[(.slice va m vc)] 24)).alloc (below1 w3 (.cells #[(.slice va m vc)] 24)).size (.cells #[.int .i64 0] 3))
      have RB4 : Hid (Row w4 w3.heap.size 24 #[(.slice va m vc)]) := by unfold Hid; rw [hw4]; exact (Row.new w3 24 #[(.slice va m vc)]).alloc (.cells #[.int .i64 0] 3)
      have RU4 : Hid (Row w4 (w3.heap.size + 1) 3 #[.int .i64 0]) := by unfold Hid; rw [hw4]; exact Row.new1 w3 (.cells #[(.slice va m vc)] 24) 3 #[.int .i64 0]
      have R4 := Lib.hid (RC.out.below hb4)
      have B4 := Lib.hid (bst BC.out hb4 BC.out.size)
      have O4 := Lib.hid (OC.out.below hb4)
      have LB : Hid (w.heap.size ≤ w3.heap.size) := BC.out.size
      have HVB : Hid (∀ g, (Value.slice pn n qn).ownBlock = some g → g < w3.heap.size) := HV.out
      clear hb4 hw4
      refine hK.out _ _ ⟨R4.out.c0, R4.out.c1, R4.out.c2⟩ (fun hHeld => ?_)
      clear hK K
      (try simp only [Act.put, List.getElem_toArray, List.getElem_cons_zero, List.getElem_cons_succ, List.setIfInBounds_toArray, List.set_cons_zero, List.set_cons_succ])
      generalize w3.heap.size = gb at *
      refine wpAnyH_take (i := 5) (v := ?va5x4) rfl (by kernel_rfl) (by kernel_rfl) (by kernel_rfl) (fun _ _ _ h => h) (Or.inl ⟨by rfl, ?hy5x4⟩) (by assumption) ?rest5x4
      case hy5x4 => (intro w hSw; (try dsimp only at hSw); go_simp; try with_reducible rfl)
      (try simp only [Act.put, List.getElem_toArray, List.getElem_cons_zero, List.getElem_cons_succ, List.setIfInBounds_toArray, List.set_cons_zero, List.set_cons_succ])
      refine wpAnyH_ready (rs := [6]) (by kernel_rfl) (by simp) ?_
      refine AllReadyH.cons rfl (fun K hK => ?_) AllReadyH.nil
      have R4z := Lib.hid (show RowH _ _ _ _ _ from Row.alloc R4.out (.cells (c5 (.slice none 0 0) (.slice none 0 0) (.slice none 0 0) (.slice none 0 0) .nilFunc) 113))
      go_simp
      refine hK.out _ _ ⟨R4z.out.c0, R4z.out.c1, R4z.out.c2⟩ (fun hHeld => ?_)
      clear hK K
      (try simp only [Act.put, List.getElem_toArray, List.getElem_cons_zero, List.getElem_cons_succ, List.setIfInBounds_toArray, List.set_cons_zero, List.set_cons_succ])
      have RN := Lib.hid (show RowH _ _ _ _ _ from Row.alloc R4.out (.cells (c5 (.slice aa na ac) (.slice ba nb bc) (.slice ca nc cc) (.slice pn n qn) (.func (.func 171) #[] #[.pointer (some ⟨gb + 1, 0, none⟩), .pointer (some ⟨gb, 0, none⟩)])) 113))
      have RM := Lib.hid (Row.new w4 113 (c5 (.slice aa na ac) (.slice ba nb bc) (.slice ca nc cc) (.slice pn n qn) (.func (.func 171) #[] #[.pointer (some ⟨gb + 1, 0, none⟩), .pointer (some ⟨gb, 0, none⟩)])))
      have BN := Lib.hid (B4.out.alloc B4.out.size (.cells (c5 (.slice aa na ac) (.slice ba nb bc) (.slice ca nc cc) (.slice pn n qn) (.func (.func 171) #[] #[.pointer (some ⟨gb + 1, 0, none⟩), .pointer (some ⟨gb, 0, none⟩)])) 113))
      have ON := Lib.hid (O4.out.below (below1 w4 (.cells (c5 (.slice aa na ac) (.slice ba nb bc) (.slice ca nc cc) (.slice pn n qn) (.func (.func 171) #[] #[.pointer (some ⟨gb + 1, 0, none⟩), .pointer (some ⟨gb, 0, none⟩)])) 113)))
      have UN := Lib.hid (Row.alloc RU4.out (.cells (c5 (.slice aa na ac) (.slice ba nb bc) (.slice ca nc cc) (.slice pn n qn) (.func (.func 171) #[] #[.pointer (some ⟨gb + 1, 0, none⟩), .pointer (some ⟨gb, 0, none⟩)])) 113))
      have CN := Lib.hid (Row.alloc RB4.out (.cells (c5 (.slice aa na ac) (.slice ba nb bc) (.slice ca nc cc) (.slice pn n qn) (.func (.func 171) #[] #[.pointer (some ⟨gb + 1, 0, none⟩), .pointer (some ⟨gb, 0, none⟩)])) 113))
      have HVM : Hid ((Value.slice pn n qn).ownBlock ≠ some w4.heap.size) := fun e => by have := HVB.out _ e; have := RB4.out.lt; omega
      have HGU : Hid (w4.heap.size ≠ gb + 1) := by unfold Hid; have := RU4.out.lt; omega
      refine wpAnyH_ready (rs := [7]) (by kernel_rfl) (by simp) ?_
      refine AllReadyH.cons rfl (fun K hK => ?_) AllReadyH.nil
      go_simp
      refine hK.out _ _ ⟨RN.out.c0, RN.out.c1, RN.out.c2⟩ (fun hHeld => ?_)
      clear hK K
      (try simp only [Act.put, List.getElem_toArray, List.getElem_cons_zero, List.getElem_cons_succ, List.setIfInBounds_toArray, List.set_cons_zero, List.set_cons_succ])
      refine wpAnyH_done (by kernel_rfl) ?_ _
      clear hHeld
      generalize w4.heap.size = gz at *
      generalize (w4.alloc (.cells (c5 (.slice aa na ac) (.slice ba nb bc) (.slice ca nc cc) (.slice pn n qn) (.func (.func 171) #[] #[.pointer (some ⟨gb + 1, 0, none⟩), .pointer (some ⟨gb, 0, none⟩)])) 113)) = w5 at *
      have m0 := RM.out.cell 0
      have m1 := RM.out.cell 1
      have m2 := RM.out.cell 2
      have m3 := RM.out.cell 3
      have m4 := RM.out.cell 4
      go_wp2_with fail
      refine (c_finish w (.slice aa na ac) (.slice ba nb bc) (.slice ca nc cc) (.slice pn n qn) (.slice va m vc) h zs (gb + 1) gb _ HF.out HG.out HZ.out HY.out BN.out ON.out UN.out CN.out (by have := LB.out; omega) (fun e => by have := HVB.out _ e; omega) (fun e => by have := HVB.out _ e; omega) (by omega)).mono ?_
      rintro e w6 ⟨rfl, ho6, hb6, hf6⟩
      have O6 := Lib.hid ho6; have B6 := Lib.hid hb6
      have R6 : Row w6 gz 113 (c5 (.slice aa na ac) (.slice ba nb bc) (.slice ca nc cc) (.slice pn n qn) (.func (.func 171) #[] #[.pointer (some ⟨gb + 1, 0, none⟩), .pointer (some ⟨gb, 0, none⟩)])) := (hf6 gz RM.out.lt HVM.out HGU.out).trans RM.out
      clear m0 m1 m2 m3 m4
      have m3 := R6.cell 3
      clear ho6 hb6 hf6 R6
      go_wp2_with fail
      go_ret3
      exact endII_yes B6.out O6.out (Nat.le_refl _) HR1.out HR2.out HE.out
    · skip
      have LZ : Hid (w.heap.size < w3.heap.size) := RC.out.lt
      have hbz := below1 w3 (.cells (c5 (.slice none 0 0) (.slice none 0 0) (.slice none 0 0) (.slice none 0 0) .nilFunc) 113)
      have RZ := Lib.hid (show RowH _ _ _ _ _ from Row.alloc RC.out (.cells (c5 (.slice none 0 0) (.slice none 0 0) (.slice none 0 0) (.slice none 0 0) .nilFunc) 113))
      have BZ := Lib.hid (bst BC.out hbz BC.out.size)
      have GZ := Lib.hid (Row.new w3 113 (c5 (.slice none 0 0) (.slice none 0 0) (.slice none 0 0) (.slice none 0 0) .nilFunc))
      have OZ := Lib.hid (OC.out.below hbz)
      have HVZ : Hid (∀ g, (Value.slice pn n qn).ownBlock = some g → g ≠ w3.heap.size) := fun g e => by have := HV.out g e; omega
      go_simp
      refine hK.out _ _ ⟨RZ.out.c0, RZ.out.c1, RZ.out.c2⟩ (fun hHeld => ?_)
      clear hK K hbz
      (try simp only [Act.put, List.getElem_toArray, List.getElem_cons_zero, List.getElem_cons_succ, List.setIfInBounds_toArray, List.set_cons_zero, List.set_cons_succ])
      have SZ : Hid (w3.heap.size < (w3.alloc (.cells (c5 (.slice none 0 0) (.slice none 0 0) (.slice none 0 0) (.slice none 0 0) .nilFunc) 113)).heap.size) := by unfold Hid; simp
      have HV2 : Hid (∀ g, (Value.slice pn n qn).ownBlock = some g → g < (w3.alloc (.cells (c5 (.slice none 0 0) (.slice none 0 0) (.slice none 0 0) (.slice none 0 0) .nilFunc) 113)).heap.size) := fun g e => by have := HV.out g e; have := SZ.out; omega
      generalize w3.heap.size = gz at *
      generalize w3.alloc (.cells (c5 (.slice none 0 0) (.slice none 0 0) (.slice none 0 0) (.slice none 0 0) .nilFunc) 113) = wz at *
      refine wpAnyH_ready (rs := [4]) (by kernel_rfl) (by simp) ?_
      refine AllReadyH.cons rfl (fun K hK => ?_) AllReadyH.nil
      go_simp
      refine (c_byChoices va m vc wz).mono ?_
      rintro e w4 ⟨rfl, hw4⟩
      have hb4 : Below wz.heap.size wz w4 := by rw [hw4]; exact ((below1 wz (.cells #[(.slice va m vc)] 24)).alloc (below1 wz (.cells #[(.slice va m vc)] 24)).size (.cells #[.int .i64 0] 3))
      have RB4 : Hid (Row w4 wz.heap.size 24 #[(.slice va m vc)]) := by unfold Hid; rw [hw4]; exact (Row.new wz 24 #[(.slice va m vc)]).alloc (.cells #[.int .i64 0] 3)
      have RU4 : Hid (Row w4 (wz.heap.size + 1) 3 #[.int .i64 0]) := by unfold Hid; rw [hw4]; exact Row.new1 wz (.cells #[(.slice va m vc)] 24) 3 #[.int .i64 0]
      have R4 := Lib.hid (RZ.out.below hb4)
      have B4 := Lib.hid (bst BZ.out hb4 BZ.out.size)
      have O4 := Lib.hid (OZ.out.below hb4)
      have LB : Hid (w.heap.size ≤ wz.heap.size) := BZ.out.size
      have HVB : Hid (∀ g, (Value.slice pn n qn).ownBlock = some g → g < wz.heap.size) := HV2.out
      have G4 := Lib.hid (Row.below GZ.out hb4)
      have LG : Hid (gz < wz.heap.size) := GZ.out.lt
      clear hb4 hw4
      refine hK.out _ _ ⟨R4.out.c0, R4.out.c1, R4.out.c2⟩ (fun hHeld => ?_)
      clear hK K
      (try simp only [Act.put, List.getElem_toArray, List.getElem_cons_zero, List.getElem_cons_succ, List.setIfInBounds_toArray, List.set_cons_zero, List.set_cons_succ])
      generalize wz.heap.size = gb at *
      refine wpAnyH_take (i := 5) (v := ?va5x5) rfl (by kernel_rfl) (by kernel_rfl) (by kernel_rfl) (fun _ _ _ h => h) (Or.inl ⟨by rfl, ?hy5x5⟩) (by assumption) ?rest5x5
      case hy5x5 => (intro w hSw; (try dsimp only at hSw); go_simp; try with_reducible rfl)
      (try simp only [Act.put, List.getElem_toArray, List.getElem_cons_zero, List.getElem_cons_succ, List.setIfInBounds_toArray, List.set_cons_zero, List.set_cons_succ])
      have hch := chgRow w4 gz (c5 (.slice aa na ac) (.slice ba nb bc) (.slice ca nc cc) (.slice pn n qn) (.func (.func 171) #[] #[.pointer (some ⟨gb + 1, 0, none⟩), .pointer (some ⟨gb, 0, none⟩)]))
      have RM := Lib.hid (Row.put G4.out (c5 (.slice aa na ac) (.slice ba nb bc) (.slice ca nc cc) (.slice pn n qn) (.func (.func 171) #[] #[.pointer (some ⟨gb + 1, 0, none⟩), .pointer (some ⟨gb, 0, none⟩)])))
      have RN := Lib.hid (show RowH _ _ _ _ _ from Row.chg R4.out hch (by have := LZ.out; omega))
      have BN := Lib.hid (below_chg B4.out hch (by have := LZ.out; omega) B4.out.size)
      have ON := Lib.hid (Own.chg O4.out hch (fun g' e => by have := HVZ.out g' e; omega))
      have UN := Lib.hid (Row.chg RU4.out hch (by have := LG.out; omega))
      have CN := Lib.hid (Row.chg RB4.out hch (by have := LG.out; omega))
      have HVM : Hid ((Value.slice pn n qn).ownBlock ≠ some gz) := fun e => HVZ.out _ e rfl
      have HGU : Hid (gz ≠ gb + 1) := by unfold Hid; have := LG.out; omega
      clear hch
      refine wpAnyH_ready (rs := [7]) (by kernel_rfl) (by simp) ?_
      refine AllReadyH.cons rfl (fun K hK => ?_) AllReadyH.nil
      refine wp_store_row 113 _ _ rfl gz (c5 (.slice aa na ac) (.slice ba nb bc) (.slice ca nc cc) (.slice pn n qn) (.func (.func 171) #[] #[.pointer (some ⟨gb + 1, 0, none⟩), .pointer (some ⟨gb, 0, none⟩)])) rfl rfl 113 _ G4.out info_marker rfl (by simp [Value.oneCell']) ?_
      refine hK.out _ _ ⟨RN.out.c0, RN.out.c1, RN.out.c2⟩ (fun hHeld => ?_)
      clear hK K
      (try simp only [Act.put, List.getElem_toArray, List.getElem_cons_zero, List.getElem_cons_succ])
      refine wpAnyH_done (by kernel_rfl) ?_ _
      clear hHeld
      generalize w4.setRow gz (c5 (.slice aa na ac) (.slice ba nb bc) (.slice ca nc cc) (.slice pn n qn) (.func (.func 171) #[] #[.pointer (some ⟨gb + 1, 0, none⟩), .pointer (some ⟨gb, 0, none⟩)])) = w5 at *
      have m0 := RM.out.cell 0
      have m1 := RM.out.cell 1
      have m2 := RM.out.cell 2
      have m3 := RM.out.cell 3
      have m4 := RM.out.cell 4
      go_wp2_with fail
      refine (c_finish w (.slice aa na ac) (.slice ba nb bc) (.slice ca nc cc) (.slice pn n qn) (.slice va m vc) h zs (gb + 1) gb _ HF.out HG.out HZ.out HY.out BN.out ON.out UN.out CN.out (by have := LB.out; omega) (fun e => by have := HVB.out _ e; omega) (fun e => by have := HVB.out _ e; omega) (by omega)).mono ?_
      rintro e w6 ⟨rfl, ho6, hb6, hf6⟩
      have O6 := Lib.hid ho6; have B6 := Lib.hid hb6
      have R6 : Row w6 gz 113 (c5 (.slice aa na ac) (.slice ba nb bc) (.slice ca nc cc) (.slice pn n qn) (.func (.func 171) #[] #[.pointer (some ⟨gb + 1, 0, none⟩), .pointer (some ⟨gb, 0, none⟩)])) := (hf6 gz RM.out.lt HVM.out HGU.out).trans RM.out
      clear m0 m1 m2 m3 m4
      have m3 := R6.cell 3
      clear ho6 hb6 hf6 R6
      go_wp2_with fail
      go_ret3
      exact endII_yes B6.out O6.out (Nat.le_refl _) HR1.out HR2.out HE.out
  · skip
    have LZ : Hid (w.heap.size < wd.heap.size) := RD.out.lt
    have hbz := below1 wd (.cells (c5 (.slice none 0 0) (.slice none 0 0) (.slice none 0 0) (.slice none 0 0) .nilFunc) 113)
    have RZ := Lib.hid (show RowH _ _ _ _ _ from Row.alloc RD.out (.cells (c5 (.slice none 0 0) (.slice none 0 0) (.slice none 0 0) (.slice none 0 0) .nilFunc) 113))
    have BZ := Lib.hid (bst BD.out hbz BD.out.size)
    have GZ := Lib.hid (Row.new wd 113 (c5 (.slice none 0 0) (.slice none 0 0) (.slice none 0 0) (.slice none 0 0) .nilFunc))
    have AZ := Lib.hid (AD.out.below hbz)
    go_simp
    refine hK.out _ _ ⟨RZ.out.c0, RZ.out.c1, RZ.out.c2⟩ (fun hHeld => ?_)
    clear hK K hbz
    (try simp only [Act.put, List.getElem_toArray, List.getElem_cons_zero, List.getElem_cons_succ, List.setIfInBounds_toArray, List.set_cons_zero, List.set_cons_succ])
    have SZ : Hid (wd.heap.size < (wd.alloc (.cells (c5 (.slice none 0 0) (.slice none 0 0) (.slice none 0 0) (.slice none 0 0) .nilFunc) 113)).heap.size) := by unfold Hid; simp
    generalize wd.heap.size = gz at *
    generalize wd.alloc (.cells (c5 (.slice none 0 0) (.slice none 0 0) (.slice none 0 0) (.slice none 0 0) .nilFunc) 113) = wz at *
    replace RD := RZ; replace BD := BZ; replace AD := AZ
    clear RZ BZ AZ
    refine wpAnyH_ready (rs := [2]) (by kernel_rfl) (by simp) ?_
    refine AllReadyH.cons rfl (fun K hK => ?_) AllReadyH.nil
    go_simp
    refine (c_coloursAtStart (.slice aa na ac) (.slice ba nb bc) (.slice ca nc cc) h _ AD.out HG.out).mono ?_
    rintro e w3 ⟨v3, rfl, ho3, hb3⟩
    obtain ⟨pn, qn, rfl⟩ := ho3.ints.shape
    have RC := Lib.hid (RD.out.below hb3)
    have BC := Lib.hid (bst BD.out hb3 BD.out.size)
    have OC := Lib.hid (ho3.mono BD.out.size)
    have HV : Hid (∀ g, (Value.slice pn (startC h).length qn).ownBlock = some g → g < w3.heap.size) := fun g e => (owns_lt ho3 e).2
    generalize hnl : (startC h).length = n at *
    clear hnl
    have GC := Lib.hid (Row.below GZ.out hb3)
    have HVZ : Hid (∀ g, (Value.slice pn n qn).ownBlock = some g → g ≠ gz) := fun g e => by have := (owns_lt ho3 e).1; have := GZ.out.lt; omega
    clear ho3 hb3
    refine hK.out _ _ ⟨RC.out.c0, RC.out.c1, RC.out.c2⟩ (fun hHeld => ?_)
    clear hK K
    (try simp only [Act.put, List.getElem_toArray, List.getElem_cons_zero, List.getElem_cons_succ, List.setIfInBounds_toArray, List.set_cons_zero, List.set_cons_succ])
    refine wpAnyH_ready (rs := [4]) (by kernel_rfl) (by simp) ?_
    refine AllReadyH.cons rfl (fun K hK => ?_) AllReadyH.nil
    go_simp
    refine (c_byChoices va m vc w3).mono ?_
    rintro e w4 ⟨rfl, hw4⟩
    have hb4 : Below w3.heap.size w3 w4 := by rw [hw4]; exact ((below1 w3 (.cells #[(.slice va m vc)] 24)).alloc (below1 w3 (.cells #[(.slice va m vc)] 24)).size (.cells #[.int .i64 0] 3))
    have RB4 : Hid (Row w4 w3.heap.size 24 #[(.slice va m vc)]) := by unfold Hid; rw [hw4]; exact (Row.new w3 24 #[(.slice va m vc)]).alloc (.cells #[.int .i64 0] 3)
    have RU4 : Hid (Row w4 (w3.heap.size + 1) 3 #[.int .i64 0]) := by unfold Hid; rw [hw4]; exact Row.new1 w3 (.cells #[(.slice va m vc)] 24) 3 #[.int .i64 0]
    have R4 := Lib.hid (RC.out.below hb4)
    have B4 := Lib.hid (bst BC.out hb4 BC.out.size)
    have O4 := Lib.hid (OC.out.below hb4)
    have LB : Hid (w.heap.size ≤ w3.heap.size) := BC.out.size
    have HVB : Hid (∀ g, (Value.slice pn n qn).ownBlock = some g → g < w3.heap.size) := HV.out
    have G4 := Lib.hid (Row.below GC.out hb4)
    have LG : Hid (gz < w3.heap.size) := GC.out.lt
    clear hb4 hw4
    refine hK.out _ _ ⟨R4.out.c0, R4.out.c1, R4.out.c2⟩ (fun hHeld => ?_)
    clear hK K
    (try simp only [Act.put, List.getElem_toArray, List.getElem_cons_zero, List.getElem_cons_succ, List.setIfInBounds_toArray, List.set_cons_zero, List.set_cons_succ])
    generalize w3.heap.size = gb at *
    refine wpAnyH_take (i := 5) (v := ?va5x6) rfl (by kernel_rfl) (by kernel_rfl) (by kernel_rfl) (fun _ _ _ h => h) (Or.inl ⟨by rfl, ?hy5x6⟩) (by assumption) ?rest5x6
    case hy5x6 => (intro w hSw; (try dsimp only at hSw); go_simp; try with_reducible rfl)
    (try simp only [Act.put, List.getElem_toArray, List.getElem_cons_zero, List.getElem_cons_succ, List.setIfInBounds_toArray, List.set_cons_zero, List.set_cons_succ])
    have hch := chgRow w4 gz (c5 (.slice aa na ac) (.slice ba nb bc) (.slice ca nc cc) (.slice pn n qn) (.func (.func 171) #[] #[.pointer (some ⟨gb + 1, 0, none⟩), .pointer (some ⟨gb, 0, none⟩)]))
    have RM := Lib.hid (Row.put G4.out (c5 (.slice aa na ac) (.slice ba nb bc) (.slice ca nc cc) (.slice pn n qn) (.func (.func 171) #[] #[.pointer (some ⟨gb + 1, 0, none⟩), .pointer (some ⟨gb, 0, none⟩)])))
    have RN := Lib.hid (show RowH _ _ _ _ _ from Row.chg R4.out hch (by have := LZ.out; omega))
    have BN := Lib.hid (below_chg B4.out hch (by have := LZ.out; omega) B4.out.size)
    have ON := Lib.hid (Own.chg O4.out hch (fun g' e => by have := HVZ.out g' e; omega))
    have UN := Lib.hid (Row.chg RU4.out hch (by have := LG.out; omega))
    have CN := Lib.hid (Row.chg RB4.out hch (by have := LG.out; omega))
    have HVM : Hid ((Value.slice pn n qn).ownBlock ≠ some gz) := fun e => HVZ.out _ e rfl
    have HGU : Hid (gz ≠ gb + 1) := by unfold Hid; have := LG.out; omega
    clear hch
    refine wpAnyH_ready (rs := [7]) (by kernel_rfl) (by simp) ?_
    refine AllReadyH.cons rfl (fun K hK => ?_) AllReadyH.nil
    refine wp_store_row 113 _ _ rfl gz (c5 (.slice aa na ac) (.slice ba nb bc) (.slice ca nc cc) (.slice pn n qn) (.func (.func 171) #[] #[.pointer (some ⟨gb + 1, 0, none⟩), .pointer (some ⟨gb, 0, none⟩)])) rfl rfl 113 _ G4.out info_marker rfl (by simp [Value.oneCell']) ?_
    refine hK.out _ _ ⟨RN.out.c0, RN.out.c1, RN.out.c2⟩ (fun hHeld => ?_)
    clear hK K
    (try simp only [Act.put, List.getElem_toArray, List.getElem_cons_zero, List.getElem_cons_succ])
    refine wpAnyH_done (by kernel_rfl) ?_ _
    clear hHeld
    generalize w4.setRow gz (c5 (.slice aa na ac) (.slice ba nb bc) (.slice ca nc cc) (.slice pn n qn) (.func (.func 171) #[] #[.pointer (some ⟨gb + 1, 0, none⟩), .pointer (some ⟨gb, 0, none⟩)])) = w5 at *
    have m0 := RM.out.cell 0
    have m1 := RM.out.cell 1
    have m2 := RM.out.cell 2
    have m3 := RM.out.cell 3
    have m4 := RM.out.cell 4
    go_wp2_with fail
    refine (c_finish w (.slice aa na ac) (.slice ba nb bc) (.slice ca nc cc) (.slice pn n qn) (.slice va m vc) h zs (gb + 1) gb _ HF.out HG.out HZ.out HY.out BN.out ON.out UN.out CN.out (by have := LB.out; omega) (fun e => by have := HVB.out _ e; omega) (fun e => by have := HVB.out _ e; omega) (by omega)).mono ?_
    rintro e w6 ⟨rfl, ho6, hb6, hf6⟩
    have O6 := Lib.hid ho6; have B6 := Lib.hid hb6
    have R6 : Row w6 gz 113 (c5 (.slice aa na ac) (.slice ba nb bc) (.slice ca nc cc) (.slice pn n qn) (.func (.func 171) #[] #[.pointer (some ⟨gb + 1, 0, none⟩), .pointer (some ⟨gb, 0, none⟩)])) := (hf6 gz RM.out.lt HVM.out HGU.out).trans RM.out
    clear m0 m1 m2 m3 m4
    have m3 := R6.cell 3
    clear ho6 hb6 hf6 R6
    go_wp2_with fail
    go_ret3
    exact endII_yes B6.out O6.out (Nat.le_refl _) HR1.out HR2.out HE.out
end Go.Proofs.Ytkkigoamphkalaa
namespace Go.Proofs.Ytkkigoamphkalaa
open Go.RowKit Ph

set_option maxRecDepth 100000 in
set_option maxHeartbeats 3200000 in
theorem c_choices (c n : Nat) (w : World) (hc : CurIs w c n) (hn : n ≤ 999990000) :
    Calls Try.prog 131 #[.pointer (some ⟨c, 0, none⟩)] w fun e w' => ∃ v l, e = .returned v ∧ l.length ≤ 41 ∧ Own w' w.heap.size v l ∧ CurIs w' c (n + 100) ∧ w.grownBy w' (some c) := by
  obtain ⟨i0, hi, hz0, hz1, hz2⟩ := info_parts info_int
  have HD := Lib.hid (Dv.start hc)
  have hcw := hc.lt
  clear hc
  go_enter Try.func131, Try.ntmps131
  go_wp2_with fail
  refine (c_pick c n 12 _ HD.out.1 (by omega) (by omega) (by omega)).mono ?_
  rintro e w2 ⟨x2, hx2, rfl, hc2, hg2⟩
  obtain ⟨k2, rfl⟩ : ∃ k : Nat, x2 = k := ⟨x2.toNat, by omega⟩
  have D2 := Lib.hid (HD.out.step hc2 hg2)
  clear hc2 hg2 HD
  go_wp2_with fail
  refine (c_one c (n + 2) 20 _ D2.out.1 (by omega) (by omega) (by omega)).mono ?_
  rintro e w3 ⟨bo, rfl, hc3, hg3⟩
  have D3 := Lib.hid (D2.out.step hc3 hg3)
  clear hc3 hg3 D2
  cases bo
  · skip
    go_wp2_with fail
    go_loopw [3, 4] (fun t i wr => ∃ (j : Nat) (l : List Int), j ≤ 41 ∧ i = .int .i64 (j : Int) ∧ Hid (l.length + j ≤ 41) ∧ Hid (Own wr w.heap.size t l) ∧ Hid (Dv w c (n + 6 + 2 * (41 - j)) wr)) (fun _ i _ => (intOf i).toNat)
    case atStart => exact ⟨k2, [], by omega, by go_num, by unfold Hid; simp; omega, Own.nil _ _, D3.out.mono (by omega)⟩
    case round =>
      obtain ⟨j, l, hj, rfl, hl, how, hD⟩ := hrel
      by_cases hlt : 0 < j
      · have i1 : (0 : Int) < (j : Int) := by omega
        have hwj : IntKind.i64.wrap ((j : Int) - 1) = ((j - 1 : Nat) : Int) := by rw [IntWalk.i64_in _ (by omega)]; omega
        go_wp2_with fail
        refine (c_pick c (n + 6 + 2 * (41 - j)) 100 _ hD.out.1 (by omega) (by omega) (by omega)).mono ?_
        rintro e w6 ⟨x, hx, rfl, hc6, hg6⟩
        have D6 := Lib.hid (hD.out.step hc6 hg6)
        have O6 : Own w6 w.heap.size u3 l := Own.chg how.out (chgC hg6) (fun g e => .inr (by have := (owns_lt how.out e).1; omega))
        have HO1 := Lib.hid (O6.below (below1 w6 (.cells #[.int .i64 x] 3)))
        have HB1 := Lib.hid ((Below.refl w.heap.size w6).alloc D6.out.size (.cells #[.int .i64 x] 3))
        have HS := Lib.hid (src_int w6 x)
        have HL2 : Hid (l.length ≤ 41) := by unfold Hid; have := hl.out; omega
        have HWS : Hid (w.heap.size ≤ (w6.alloc (.cells #[.int .i64 x] 3)).heap.size) := by unfold Hid; have := D6.out.size; simp; omega
        clear hc6 hg6 O6
        go_wp2_with (at_builtin; refine wl_appOwn _ rfl _ _ 24 rfl w.heap.size 3 i0 (.int .i64 0) 8 Try.underlying24 hi hz0 hz1 hz2 rfl u3 _ _ rfl HO1.out _ _ rfl HS.out (by have := HL2.out; simp; unfold maxLen; omega) (by have := HL2.out; simp; omega) HWS.out ?_; intro v1 w1 ho1 hg1 hbl; have O1 : Hid (Own w1 w.heap.size v1 (l ++ [x])) := (by { unfold Hid Own; rw [List.map_append, List.length_append]; exact ho1 }); have D1 := Lib.hid (D6.out.low (HB1.out.grown hg1 HWS.out (fun g' hg' => (owns_lt HO1.out hg').1))); clear ho1 hg1 hbl)
        go_roundw
        case rel => exact ⟨j - 1, l ++ [x], by omega, by go_num, by unfold Hid; have := hl.out; simp; omega, O1, D1.out.mono (by omega)⟩
        case measure => simp [intOf]; omega
      · have i1 : ¬ (0 : Int) < (j : Int) := by omega
        go_wp2_with fail
        go_ret
        first | exact ⟨_, rfl, l, by have := hl.out; omega, how.out, hD.out.1.mono (by omega), hD.out.2.1⟩ | exact ⟨_, l, rfl, by have := hl.out; omega, how.out, hD.out.1.mono (by omega), hD.out.2.1⟩
  · go_wp2_with fail
    refine (c_pick c (n + 2 + 2) 2 _ D3.out.1 (by omega) (by omega) (by omega)).mono ?_
    rintro e w4 ⟨x4, hx4, rfl, hc4, hg4⟩
    obtain ⟨k4, rfl⟩ : ∃ k : Nat, x4 = k := ⟨x4.toNat, by omega⟩
    have D4 := Lib.hid (D3.out.step hc4 hg4)
    have hw4 : IntKind.i64.wrap (40 + (k4 : Int)) = ((40 + k4 : Nat) : Int) := by rw [IntWalk.i64_in _ (by omega)]; omega
    clear hc4 hg4 D3
    go_wp2_with fail
    go_loopw [3, 4] (fun t i wr => ∃ (j : Nat) (l : List Int), j ≤ 41 ∧ i = .int .i64 (j : Int) ∧ Hid (l.length + j ≤ 41) ∧ Hid (Own wr w.heap.size t l) ∧ Hid (Dv w c (n + 6 + 2 * (41 - j)) wr)) (fun _ i _ => (intOf i).toNat)
    case atStart => exact ⟨40 + k4, [], by omega, by go_num, by unfold Hid; simp; omega, Own.nil _ _, D4.out.mono (by omega)⟩
    case round =>
      obtain ⟨j, l, hj, rfl, hl, how, hD⟩ := hrel
      by_cases hlt : 0 < j
      · have i1 : (0 : Int) < (j : Int) := by omega
        have hwj : IntKind.i64.wrap ((j : Int) - 1) = ((j - 1 : Nat) : Int) := by rw [IntWalk.i64_in _ (by omega)]; omega
        go_wp2_with fail
        refine (c_pick c (n + 6 + 2 * (41 - j)) 100 _ hD.out.1 (by omega) (by omega) (by omega)).mono ?_
        rintro e w6 ⟨x, hx, rfl, hc6, hg6⟩
        have D6 := Lib.hid (hD.out.step hc6 hg6)
        have O6 : Own w6 w.heap.size u3 l := Own.chg how.out (chgC hg6) (fun g e => .inr (by have := (owns_lt how.out e).1; omega))
        have HO1 := Lib.hid (O6.below (below1 w6 (.cells #[.int .i64 x] 3)))
        have HB1 := Lib.hid ((Below.refl w.heap.size w6).alloc D6.out.size (.cells #[.int .i64 x] 3))
        have HS := Lib.hid (src_int w6 x)
        have HL2 : Hid (l.length ≤ 41) := by unfold Hid; have := hl.out; omega
        have HWS : Hid (w.heap.size ≤ (w6.alloc (.cells #[.int .i64 x] 3)).heap.size) := by unfold Hid; have := D6.out.size; simp; omega
        clear hc6 hg6 O6
        go_wp2_with (at_builtin; refine wl_appOwn _ rfl _ _ 24 rfl w.heap.size 3 i0 (.int .i64 0) 8 Try.underlying24 hi hz0 hz1 hz2 rfl u3 _ _ rfl HO1.out _ _ rfl HS.out (by have := HL2.out; simp; unfold maxLen; omega) (by have := HL2.out; simp; omega) HWS.out ?_; intro v1 w1 ho1 hg1 hbl; have O1 : Hid (Own w1 w.heap.size v1 (l ++ [x])) := (by { unfold Hid Own; rw [List.map_append, List.length_append]; exact ho1 }); have D1 := Lib.hid (D6.out.low (HB1.out.grown hg1 HWS.out (fun g' hg' => (owns_lt HO1.out hg').1))); clear ho1 hg1 hbl)
        go_roundw
        case rel => exact ⟨j - 1, l ++ [x], by omega, by go_num, by unfold Hid; have := hl.out; simp; omega, O1, D1.out.mono (by omega)⟩
        case measure => simp [intOf]; omega
      · have i1 : ¬ (0 : Int) < (j : Int) := by omega
        go_wp2_with fail
        go_ret
        first | exact ⟨_, rfl, l, by have := hl.out; omega, how.out, hD.out.1.mono (by omega), hD.out.2.1⟩ | exact ⟨_, l, rfl, by have := hl.out; omega, how.out, hD.out.1.mono (by omega), hD.out.2.1⟩
set_option maxRecDepth 100000 in
set_option maxHeartbeats 3200000 in
theorem d_GoodHeap (v : Value) (zs : List Int) (w : World) (hby : BytesAt w v zs) : Calls Try.prog 118 #[v] w fun e w' => ∃ a b cc h hi, e = .returned (hv a b cc) ∧ Sh h ∧ OwnH w' w.heap.size hi a b cc h ∧ Below w.heap.size w w' := by
  have hb1 := below1 w (.cells (c3 (.slice none 0 0) (.slice none 0 0) (.slice none 0 0)) 30)
  have D0 := Lib.hid (dv_new (hby.below hb1))
  have hs1 : (w.alloc (.cells (c3 (.slice none 0 0) (.slice none 0 0) (.slice none 0 0)) 30)).heap.size = w.heap.size + 1 := World.size_alloc _ _
  have hsW : ((w.alloc (.cells (c3 (.slice none 0 0) (.slice none 0 0) (.slice none 0 0)) 30)).alloc (.cells #[v, .int .i64 0, .int .u64 0] 128)).heap.size = w.heap.size + 1 + 1 := by simp
  rw [hs1] at D0
  have R0 := Lib.hid (show zrow ((w.alloc (.cells (c3 (.slice none 0 0) (.slice none 0 0) (.slice none 0 0)) 30)).alloc (.cells #[v, .int .i64 0, .int .u64 0] 128)) w.heap.size from (Row.new w 30 (c3 (.slice none 0 0) (.slice none 0 0) (.slice none 0 0))).alloc (.cells #[v, .int .i64 0, .int .u64 0] 128))
  have HB1 := Lib.hid hb1
  have HS1 := Lib.hid hs1; have HSW := Lib.hid hsW
  have DB : Hid (∀ X m, Dv ((w.alloc (.cells (c3 (.slice none 0 0) (.slice none 0 0) (.slice none 0 0)) 30)).alloc (.cells #[v, .int .i64 0, .int .u64 0] 128)) (w.heap.size + 1) m X → Below w.heap.size w X) := fun X m q => HB1.out.trans ((dv_below (w := w.alloc (.cells (c3 (.slice none 0 0) (.slice none 0 0) (.slice none 0 0)) 30)) (v := v) (m := m) (X := X) (by rw [HS1.out]; exact q)).mono HB1.out.size)
  obtain ⟨_, _, va, vc, rfl, _⟩ := hby
  clear hb1 hs1 hsW
  go_enter Try.func118, Try.ntmps118
  go_wp2_with fail
  refine (c_heap (w.heap.size + 1) 0 _ D0.out.1 (by omega)).mono ?_
  rintro e w2 ⟨a, b, cc, h, rfl, hsh, hf1, ho2, hc2, hg2⟩
  obtain ⟨⟨pa, qa, rfl⟩, ⟨pb, qb, rfl⟩, ⟨pc, qc, rfl⟩⟩ := ho2.shapes
  rw [HSW.out] at ho2
  have SH := Lib.hid hsh
  have hf12 := hsh.n
  generalize h.f.length = nf at *
  generalize h.l.length = nl at *
  generalize h.r.length = nr at *
  have D2 := Lib.hid (D0.out.step hc2 hg2)
  have R2 := Lib.hid (show zrow w2 w.heap.size from row_stepC R0.out (by omega) hg2)
  have OH := Lib.hid ho2
  clear hsh ho2 hc2 hg2 D0 R0
  have ON := Lib.hid (OH.out.chg (chgRow w2 w.heap.size (c3 (.slice pa nf qa) (.slice pb nl qb) (.slice pc nr qc))) (.inr (by omega)))
  have BN := Lib.hid (below_setRow (g := w.heap.size) (DB.out _ _ D2.out) (Nat.le_refl _) (c3 (.slice pa nf qa) (.slice pb nl qb) (.slice pc nr qc)))
  go_wp2_with (refine wl_storeH rfl _ _ rfl w.heap.size (.slice pa nf qa) (.slice pb nl qb) (.slice pc nr qc) _ _ _ R2.out rfl rfl rfl rfl rfl ?_)
  refine bodyPost_ret (res_row Try.results118 (Row.put R2.out (c3 (.slice pa nf qa) (.slice pb nl qb) (.slice pc nr qc))) rfl Try.underlying30 rfl info_heap) rfl ⟨_, _, _, h, _, rfl, SH.out, ON.out.wide (by omega) (Nat.le_refl _), BN.out⟩
set_option maxRecDepth 100000 in
set_option maxHeartbeats 3200000 in
theorem d_StartColours (v : Value) (zs : List Int) (w : World) (hby : BytesAt w v zs) : Calls Try.prog 74 #[v] w fun e w' => ∃ a b cc h, e = .returned (hv a b cc) ∧ Sh h ∧ HeapAt w' a b cc h ∧ Below w.heap.size w w' := by
  have hb1 := below1 w (.cells (c3 (.slice none 0 0) (.slice none 0 0) (.slice none 0 0)) 30)
  have hs1 : (w.alloc (.cells (c3 (.slice none 0 0) (.slice none 0 0) (.slice none 0 0)) 30)).heap.size = w.heap.size + 1 := World.size_alloc _ _
  have HY := Lib.hid (hby.below hb1)
  have R0 := Lib.hid (show zrow (w.alloc (.cells (c3 (.slice none 0 0) (.slice none 0 0) (.slice none 0 0)) 30)) w.heap.size from Row.new w 30 (c3 (.slice none 0 0) (.slice none 0 0) (.slice none 0 0)))
  have HB1 := Lib.hid hb1; have HS1 := Lib.hid hs1
  obtain ⟨_, _, va, vc, rfl, _⟩ := hby
  clear hb1 hs1
  go_enter Try.func74, Try.ntmps74
  go_wp2_with fail
  refine (d_GoodHeap _ zs _ HY.out).mono ?_
  rintro e w2 ⟨a, b, cc, h, hi, rfl, hsh, ho2, hb2⟩
  obtain ⟨⟨pa, qa, rfl⟩, ⟨pb, qb, rfl⟩, ⟨pc, qc, rfl⟩⟩ := ho2.shapes
  rw [HS1.out] at ho2
  have SH := Lib.hid hsh
  generalize h.f.length = nf at *
  generalize h.l.length = nl at *
  generalize h.r.length = nr at *
  have R2 := Lib.hid (show zrow w2 w.heap.size from Row.below R0.out hb2)
  have ON := Lib.hid (ho2.chg (chgRow w2 w.heap.size (c3 (.slice pa nf qa) (.slice pb nl qb) (.slice pc nr qc))) (.inr (Nat.le_refl _)))
  have BN := Lib.hid (below_setRow (g := w.heap.size) (bst HB1.out hb2 HB1.out.size) (Nat.le_refl _) (c3 (.slice pa nf qa) (.slice pb nl qb) (.slice pc nr qc)))
  clear hsh ho2 hb2
  go_wp2_with (refine wl_storeH rfl _ _ rfl w.heap.size (.slice pa nf qa) (.slice pb nl qb) (.slice pc nr qc) _ _ _ R2.out rfl rfl rfl rfl rfl ?_)
  refine bodyPost_ret (res_row Try.results74 (Row.put R2.out (c3 (.slice pa nf qa) (.slice pb nl qb) (.slice pc nr qc))) rfl Try.underlying30 rfl info_heap) rfl ⟨_, _, _, h, rfl, SH.out, ON.out.reads, BN.out⟩
set_option maxRecDepth 100000 in
set_option maxHeartbeats 3200000 in
theorem d_MarkAll (v : Value) (zs : List Int) (w : World) (hby : BytesAt w v zs) : Calls Try.prog 67 #[v] w fun e w' => ∃ a b cc h v' l, e = .returned (.tuple #[hv a b cc, v']) ∧ Sh h ∧ l.length ≤ 41 ∧ HeapAt w' a b cc h ∧ IntsAt w' v' l ∧ Below w.heap.size w w' := by
  have hb1 := below1 w (.cells (c3 (.slice none 0 0) (.slice none 0 0) (.slice none 0 0)) 30)
  have D0 := Lib.hid (dv_new (hby.below hb1))
  have hs1 : (w.alloc (.cells (c3 (.slice none 0 0) (.slice none 0 0) (.slice none 0 0)) 30)).heap.size = w.heap.size + 1 := World.size_alloc _ _
  have hsW : ((w.alloc (.cells (c3 (.slice none 0 0) (.slice none 0 0) (.slice none 0 0)) 30)).alloc (.cells #[v, .int .i64 0, .int .u64 0] 128)).heap.size = w.heap.size + 1 + 1 := by simp
  rw [hs1] at D0
  have R0 := Lib.hid (show zrow ((w.alloc (.cells (c3 (.slice none 0 0) (.slice none 0 0) (.slice none 0 0)) 30)).alloc (.cells #[v, .int .i64 0, .int .u64 0] 128)) w.heap.size from (Row.new w 30 (c3 (.slice none 0 0) (.slice none 0 0) (.slice none 0 0))).alloc (.cells #[v, .int .i64 0, .int .u64 0] 128))
  have HB1 := Lib.hid hb1
  have HS1 := Lib.hid hs1; have HSW := Lib.hid hsW
  have DB : Hid (∀ X m, Dv ((w.alloc (.cells (c3 (.slice none 0 0) (.slice none 0 0) (.slice none 0 0)) 30)).alloc (.cells #[v, .int .i64 0, .int .u64 0] 128)) (w.heap.size + 1) m X → Below w.heap.size w X) := fun X m q => HB1.out.trans ((dv_below (w := w.alloc (.cells (c3 (.slice none 0 0) (.slice none 0 0) (.slice none 0 0)) 30)) (v := v) (m := m) (X := X) (by rw [HS1.out]; exact q)).mono HB1.out.size)
  obtain ⟨_, _, va, vc, rfl, _⟩ := hby
  clear hb1 hs1 hsW
  go_enter Try.func67, Try.ntmps67
  go_wp2_with fail
  refine (c_heap (w.heap.size + 1) 0 _ D0.out.1 (by omega)).mono ?_
  rintro e w2 ⟨a, b, cc, h, rfl, hsh, hf1, ho2, hc2, hg2⟩
  obtain ⟨⟨pa, qa, rfl⟩, ⟨pb, qb, rfl⟩, ⟨pc, qc, rfl⟩⟩ := ho2.shapes
  rw [HSW.out] at ho2
  have SH := Lib.hid hsh
  have hf12 := hsh.n
  generalize h.f.length = nf at *
  generalize h.l.length = nl at *
  generalize h.r.length = nr at *
  have D2 := Lib.hid (D0.out.step hc2 hg2)
  have R2 := Lib.hid (show zrow w2 w.heap.size from row_stepC R0.out (by omega) hg2)
  have OH := Lib.hid ho2
  clear hsh ho2 hc2 hg2 D0 R0
  go_wp2_with fail
  refine (c_choices (w.heap.size + 1) (0 + 200) _ D2.out.1 (by omega)).mono ?_
  rintro e w3 ⟨v3, l, rfl, hl, ho3, hc3, hg3⟩
  have D3 := Lib.hid (D2.out.step hc3 hg3)
  have R3 := Lib.hid (show zrow w3 w.heap.size from row_stepC R2.out (by omega) hg3)
  have O3 := OH.out.stepC (by omega) hg3
  have U3 := ho3.mono (show w.heap.size + 1 + 1 ≤ w2.heap.size by have := D2.out.size; rw [HSW.out] at this; exact this)
  have ON := Lib.hid (O3.chg (chgRow w3 w.heap.size (c3 (.slice pa nf qa) (.slice pb nl qb) (.slice pc nr qc))) (.inr (by omega)))
  have UN := Lib.hid (Own.chg U3 (chgRow w3 w.heap.size (c3 (.slice pa nf qa) (.slice pb nl qb) (.slice pc nr qc))) (fun g e => .inr (by have := (owns_lt U3 e).1; omega)))
  have BN := Lib.hid (below_setRow (g := w.heap.size) (DB.out _ _ D3.out) (Nat.le_refl _) (c3 (.slice pa nf qa) (.slice pb nl qb) (.slice pc nr qc)))
  have HL := Lib.hid hl
  clear hc3 hg3 ho3 O3 U3 hl
  go_wp2_with (refine wl_storeH rfl _ _ rfl w.heap.size (.slice pa nf qa) (.slice pb nl qb) (.slice pc nr qc) _ _ _ R3.out rfl rfl rfl rfl rfl ?_)
  refine bodyPost_ret (res_row_slot Try.results67 (Row.put R3.out (c3 (.slice pa nf qa) (.slice pb nl qb) (.slice pc nr qc))) rfl rfl Try.underlying30 rfl info_heap) rfl ⟨_, _, _, h, _, l, rfl, SH.out, HL.out, ON.out.reads, UN.out.ints, BN.out⟩
set_option maxRecDepth 100000 in
set_option maxHeartbeats 3200000 in
theorem d_IsSound (v : Value) (zs : List Int) (w : World) (hby : BytesAt w v zs) : Calls Try.prog 72 #[v] w fun e w' => ∃ a b cc h v' l, e = .returned (.tuple #[hv a b cc, v']) ∧ Sh h ∧ HeapAt w' a b cc h ∧ IntsAt w' v' l ∧ l.length ≤ 1000 ∧ Below w.heap.size w w' := by
  have hb1 := below1 w (.cells (c3 (.slice none 0 0) (.slice none 0 0) (.slice none 0 0)) 30)
  have D0 := Lib.hid (dv_new (hby.below hb1))
  have hs1 : (w.alloc (.cells (c3 (.slice none 0 0) (.slice none 0 0) (.slice none 0 0)) 30)).heap.size = w.heap.size + 1 := World.size_alloc _ _
  have hsW : ((w.alloc (.cells (c3 (.slice none 0 0) (.slice none 0 0) (.slice none 0 0)) 30)).alloc (.cells #[v, .int .i64 0, .int .u64 0] 128)).heap.size = w.heap.size + 1 + 1 := by simp
  rw [hs1] at D0
  have R0 := Lib.hid (show zrow ((w.alloc (.cells (c3 (.slice none 0 0) (.slice none 0 0) (.slice none 0 0)) 30)).alloc (.cells #[v, .int .i64 0, .int .u64 0] 128)) w.heap.size from (Row.new w 30 (c3 (.slice none 0 0) (.slice none 0 0) (.slice none 0 0))).alloc (.cells #[v, .int .i64 0, .int .u64 0] 128))
  have HB1 := Lib.hid hb1
  have HS1 := Lib.hid hs1; have HSW := Lib.hid hsW
  have DB : Hid (∀ X m, Dv ((w.alloc (.cells (c3 (.slice none 0 0) (.slice none 0 0) (.slice none 0 0)) 30)).alloc (.cells #[v, .int .i64 0, .int .u64 0] 128)) (w.heap.size + 1) m X → Below w.heap.size w X) := fun X m q => HB1.out.trans ((dv_below (w := w.alloc (.cells (c3 (.slice none 0 0) (.slice none 0 0) (.slice none 0 0)) 30)) (v := v) (m := m) (X := X) (by rw [HS1.out]; exact q)).mono HB1.out.size)
  obtain ⟨_, _, va, vc, rfl, _⟩ := hby
  clear hb1 hs1 hsW
  go_enter Try.func72, Try.ntmps72
  go_wp2_with fail
  refine (c_heap (w.heap.size + 1) 0 _ D0.out.1 (by omega)).mono ?_
  rintro e w2 ⟨a, b, cc, h, rfl, hsh, hf1, ho2, hc2, hg2⟩
  obtain ⟨⟨pa, qa, rfl⟩, ⟨pb, qb, rfl⟩, ⟨pc, qc, rfl⟩⟩ := ho2.shapes
  rw [HSW.out] at ho2
  have SH := Lib.hid hsh
  have hf12 := hsh.n
  generalize h.f.length = nf at *
  generalize h.l.length = nl at *
  generalize h.r.length = nr at *
  have D2 := Lib.hid (D0.out.step hc2 hg2)
  have R2 := Lib.hid (show zrow w2 w.heap.size from row_stepC R0.out (by omega) hg2)
  have OH := Lib.hid ho2
  clear hsh ho2 hc2 hg2 D0 R0
  have hba := below1 w2 (.cells (c3 (.slice pa nf qa) (.slice pb nl qb) (.slice pc nr qc)) 30)
  have hs2 := D2.out.size
  rw [HSW.out] at hs2
  have DA := Lib.hid (D2.out.low (hba.mono D2.out.size))
  have RA := Lib.hid (show zrow _ _ from Row.alloc R2.out (.cells (c3 (.slice pa nf qa) (.slice pb nl qb) (.slice pc nr qc)) 30))
  have VA := Lib.hid (show RowH _ _ _ _ _ from Row.new w2 30 (c3 (.slice pa nf qa) (.slice pb nl qb) (.slice pc nr qc)))
  have OA := Lib.hid (OH.out.below hba)
  have LV : Hid (w.heap.size + 1 + 1 ≤ w2.heap.size) := hs2
  have c0 := VA.out.c0
  have c1 := VA.out.c1
  have c2 := VA.out.c2
  clear hba hs2 D2 R2 OH
  go_wp2_with fail
  refine (s_MarkAll (.slice pa nf qa) (.slice pb nl qb) (.slice pc nr qc) (.slice none 0 0) h [] _ OA.out.reads ⟨none, 0, rfl, fun q => by simp at q⟩).mono ?_
  rintro e w4 ⟨v4, rfl, ho4, hb4⟩
  have D4 := Lib.hid (DA.out.low (hb4.mono DA.out.size))
  have R4 := Lib.hid (show zrow _ _ from Row.below RA.out hb4)
  have V4 := Lib.hid (show RowH _ _ _ _ _ from Row.below VA.out hb4)
  have O4 := Lib.hid (OA.out.below hb4)
  have hl4 := markR_len h []
  have U4 : Hid (OwnH w4 (w.heap.size + 1 + 1) w4.heap.size (.slice none 0 0) (.slice none 0 0) v4 ⟨[], [], (markR h []).1⟩) := ho4.wide (by have := DA.out.size; rw [HSW.out] at this; exact this) (Nat.le_refl _)
  obtain ⟨p4, q4, rfl⟩ := ho4.reads.r.shape
  simp only at hl4 U4 ⊢
  generalize (markR h []).1 = l4 at *
  generalize (markR h []).2 = n4 at *
  generalize markOk h [] = ok4 at *
  generalize hll : l4.length = ln at *
  have HLL := Lib.hid hll; clear hll
  clear ho4 hb4 DA RA VA OA c0 c1 c2
  have HGV : Hid (w2.heap.size = w2.heap.size) := rfl
  generalize w2.heap.size = gv at *
  clear HGV
  cases ok4
  · skip
    go_wp2_with fail
    have DD := Lib.hid (D4.out.low (below_drew (Below.refl _ w4)))
    have RD : Hid (zrow w4.drew w.heap.size) := R4.out
    have VD : Hid (RowH w4.drew gv (.slice pa nf qa) (.slice pb nl qb) (.slice pc nr qc)) := V4.out
    have OD := Lib.hid (O4.out.below (below_drew (Below.refl w4.heap.size w4)))
    have d0 := VD.out.c0
    have d1 := VD.out.c1
    have d2 := VD.out.c2
    refine wp_region_held_drew (S := (fun w' => w'.cell? ⟨gv, 0, none⟩ = some (.slice pa nf qa) ∧ w'.cell? ⟨gv, 1, none⟩ = some (.slice pb nl qb) ∧ w'.cell? ⟨gv, 2, none⟩ = some (.slice pc nr qc))) (by kernel_rfl) (⟨d0, d1, d2⟩) (fun hHeld => ?_)
    refine wpAnyH_take (i := 0) (v := ?va0x1) rfl (by kernel_rfl) (by kernel_rfl) (by kernel_rfl) (fun _ _ _ h => h) (Or.inl ⟨by rfl, ?hy0x1⟩) (by assumption) ?rest0x1
    case hy0x1 => (intro w hSw; (try dsimp only at hSw); go_simp; try with_reducible rfl)
    (try simp only [Act.put, List.getElem_toArray, List.getElem_cons_zero, List.setIfInBounds_toArray, List.set_cons_zero, List.set_cons_succ])
    refine wpAnyH_take (i := 1) (v := ?va1x2) rfl (by kernel_rfl) (by kernel_rfl) (by kernel_rfl) (fun _ _ _ h => h) (Or.inl ⟨by rfl, ?hy1x2⟩) (by assumption) ?rest1x2
    case hy1x2 => (intro w hSw; (try dsimp only at hSw); go_simp; try with_reducible rfl)
    (try simp only [Act.put, List.getElem_toArray, List.getElem_cons_zero, List.getElem_cons_succ, List.setIfInBounds_toArray, List.set_cons_zero, List.set_cons_succ])
    refine wpAnyH_take (i := 2) (v := ?va2x3) rfl (by kernel_rfl) (by kernel_rfl) (by kernel_rfl) (fun _ _ _ h => h) (Or.inl ⟨by rfl, ?hy2x3⟩) (by assumption) ?rest2x3
    case hy2x3 => (intro w hSw; (try dsimp only at hSw); go_simp; try with_reducible rfl)
    (try simp only [Act.put, List.getElem_toArray, List.getElem_cons_zero, List.getElem_cons_succ, List.setIfInBounds_toArray, List.set_cons_zero, List.set_cons_succ])
    refine wpAnyH_take (i := 3) (v := ?va3x4) rfl (by kernel_rfl) (by kernel_rfl) (by kernel_rfl) (fun _ _ _ h => h) (Or.inl ⟨by rfl, ?hy3x4⟩) (by assumption) ?rest3x4
    case hy3x4 => (intro w hSw; (try dsimp only at hSw); go_simp; try with_reducible rfl)
    (try simp only [Act.put, List.getElem_toArray, List.getElem_cons_zero, List.getElem_cons_succ, List.setIfInBounds_toArray, List.set_cons_zero, List.set_cons_succ])
    refine wpAnyH_take (i := 4) (v := ?va4x5) rfl (by kernel_rfl) (by kernel_rfl) (by kernel_rfl) (fun _ _ _ h => h) (Or.inl ⟨by rfl, ?hy4x5⟩) (by assumption) ?rest4x5
    case hy4x5 => (intro w hSw; (try dsimp only at hSw); go_simp; try with_reducible rfl)
    (try simp only [Act.put, List.getElem_toArray, List.getElem_cons_zero, List.getElem_cons_succ, List.setIfInBounds_toArray, List.set_cons_zero, List.set_cons_succ])
    refine wpAnyH_take (i := 5) (v := ?va5x6) rfl (by kernel_rfl) (by kernel_rfl) (by kernel_rfl) (fun _ _ _ h => h) (Or.inl ⟨by rfl, ?hy5x6⟩) (by assumption) ?rest5x6
    case hy5x6 => (intro w hSw; (try dsimp only at hSw); go_simp; try with_reducible rfl)
    (try simp only [Act.put, List.getElem_toArray, List.getElem_cons_zero, List.getElem_cons_succ, List.setIfInBounds_toArray, List.set_cons_zero, List.set_cons_succ])
    generalize w4.drew = wd at *
    clear d0 d1 d2
    refine wpAnyH_ready (rs := [6]) (by kernel_rfl) (by simp) ?_
    refine AllReadyH.cons rfl (fun K hK => ?_) AllReadyH.nil
    go_simp
    refine (c_pick (w.heap.size + 1) (0 + 200) 20 _ DD.out.1 (by omega) (by omega) (by omega)).mono ?_
    rintro e w6 ⟨x6, hx6, rfl, hc5, hg5⟩
    have D6 := Lib.hid (DD.out.step hc5 hg5)
    have R6 := Lib.hid (show zrow _ _ from row_stepC RD.out (by omega) hg5)
    have V6 := Lib.hid (show RowH _ _ _ _ _ from row_stepC VD.out (by have := LV.out; omega) hg5)
    have O6 := Lib.hid (OD.out.stepC (by omega) hg5)
    clear hc5 hg5
    refine hK.out _ _ ⟨V6.out.c0, V6.out.c1, V6.out.c2⟩ (fun hHeld => ?_)
    clear hK K
    (try simp only [Act.put, List.getElem_toArray, List.getElem_cons_zero, List.getElem_cons_succ, List.setIfInBounds_toArray, List.set_cons_zero, List.set_cons_succ])
    have hq7 : x6.tdiv 19 = x6 / 19 := Int.tdiv_eq_ediv_of_nonneg hx6.1
    obtain ⟨y8, hy8⟩ : ∃ y : Nat, x6 / 19 = y := ⟨(x6 / 19).toNat, by omega⟩
    have hy1 : y8 ≤ 1 := by omega
    rw [hy8] at hq7
    have HY8 := Lib.hid hy8; clear hy8
    have hwy : IntKind.i64.wrap (y8 : Int) = (y8 : Int) := IntWalk.i64_in _ (by omega)
    have hws : IntKind.i64.wrap ((nf : Int) + (y8 : Int)) = ((nf + y8 : Nat) : Int) := by rw [IntWalk.i64_in _ (by omega)]; omega
    have hq8 : x6 / 19 = (y8 : Int) := HY8.out
    refine wpAnyH_take (i := 7) (v := ?va7x7) rfl (by kernel_rfl) (by kernel_rfl) (by kernel_rfl) (fun _ _ _ h => h) (Or.inl ⟨by rfl, ?hy7x7⟩) (by assumption) ?rest7x7
    case hy7x7 => (intro w hSw; (try dsimp only at hSw); go_simp; try with_reducible rfl)
    (try simp only [Act.put, List.getElem_toArray, List.getElem_cons_zero, List.getElem_cons_succ, List.setIfInBounds_toArray, List.set_cons_zero, List.set_cons_succ])
    refine wpAnyH_take (i := 8) (v := ?va8x8) rfl (by kernel_rfl) (by kernel_rfl) (by kernel_rfl) (fun _ _ _ h => h) (Or.inl ⟨by rfl, ?hy8x8⟩) (by assumption) ?rest8x8
    case hy8x8 => (intro w hSw; (try dsimp only at hSw); go_simp; try with_reducible rfl)
    (try simp only [Act.put, List.getElem_toArray, List.getElem_cons_zero, List.getElem_cons_succ, List.setIfInBounds_toArray, List.set_cons_zero, List.set_cons_succ])
    refine wpAnyH_ready (rs := [9]) (by kernel_rfl) (by simp) ?_
    refine AllReadyH.cons rfl (fun K hK => ?_) AllReadyH.nil
    go_simp
    refine (c_colours (w.heap.size + 1) (0 + 200 + 2) (nf + y8) _ D6.out.1 (by omega) (by omega)).mono ?_
    rintro e w7 ⟨v7, l7, rfl, hl7, ho7, hc5, hg5⟩
    have D7 := Lib.hid (D6.out.step hc5 hg5)
    have R7 := Lib.hid (show zrow _ _ from row_stepC R6.out (by omega) hg5)
    have V7 := Lib.hid (show RowH _ _ _ _ _ from row_stepC V6.out (by have := LV.out; omega) hg5)
    have O7 := Lib.hid (O6.out.stepC (by omega) hg5)
    have U7 := Lib.hid (ho7.mono (show w.heap.size + 1 + 1 ≤ w6.heap.size by have := V6.out.lt; have := LV.out; omega))
    have HL7 : Hid (l7.length ≤ 1000) := by unfold Hid; omega
    clear hc5 hg5 ho7 hl7
    refine hK.out _ _ ⟨V7.out.c0, V7.out.c1, V7.out.c2⟩ (fun hHeld => ?_)
    clear hK K
    (try simp only [Act.put, List.getElem_toArray, List.getElem_cons_zero, List.getElem_cons_succ, List.setIfInBounds_toArray, List.set_cons_zero, List.set_cons_succ])
    refine wpAnyH_ready (rs := [10]) (by kernel_rfl) (by simp) ?_
    refine AllReadyH.cons rfl (fun K hK => ?_) AllReadyH.nil
    have hch := chgRow w7 w.heap.size (c3 (.slice pa nf qa) (.slice pb nl qb) (.slice pc nr qc))
    have VN := Lib.hid (show RowH _ _ _ _ _ from Row.chg V7.out hch (.inr (by have := LV.out; omega)))
    have ON := Lib.hid (O7.out.chg hch (.inr (by omega)))
    have UN := Lib.hid (Own.chg U7.out hch (fun g e => .inr (by have := (owns_lt U7.out e).1; omega)))
    have BN := Lib.hid (below_setRow (g := w.heap.size) (DB.out _ _ D7.out) (Nat.le_refl _) (c3 (.slice pa nf qa) (.slice pb nl qb) (.slice pc nr qc)))
    clear hch
    refine wp_store_row 30 _ _ rfl w.heap.size (c3 (.slice pa nf qa) (.slice pb nl qb) (.slice pc nr qc)) rfl rfl 30 _ R7.out info_heap rfl (by simp [Value.oneCell']) ?_
    refine hK.out _ _ ⟨VN.out.c0, VN.out.c1, VN.out.c2⟩ (fun hHeld => ?_)
    clear hK K
    (try simp only [Act.put, List.getElem_toArray, List.getElem_cons_zero, List.getElem_cons_succ])
    refine wpAnyH_take (i := 11) (v := ?va11x9) rfl (by kernel_rfl) (by kernel_rfl) (by kernel_rfl) (fun _ _ _ h => h) (Or.inl ⟨by rfl, ?hy11x9⟩) (by assumption) ?rest11x9
    case hy11x9 => (intro w hSw; (try dsimp only at hSw); go_simp; try with_reducible rfl)
    (try simp only [Act.put, List.getElem_toArray, List.getElem_cons_zero, List.getElem_cons_succ, List.setIfInBounds_toArray, List.set_cons_zero, List.set_cons_succ])
    refine wpAnyH_done (by kernel_rfl) ?_ _
    clear hHeld
    go_wp2_with fail
    refine bodyPost_ret (res_row_slot Try.results72 (Row.put R7.out (c3 (.slice pa nf qa) (.slice pb nl qb) (.slice pc nr qc))) rfl rfl Try.underlying30 rfl info_heap) rfl ⟨_, _, _, h, _, l7, rfl, SH.out, ON.out.reads, UN.out.ints, HL7.out, BN.out⟩
  · go_wp2_with fail
    refine (c_one (w.heap.size + 1) (0 + 200) 2 _ D4.out.1 (by omega) (by omega) (by omega)).mono ?_
    rintro e w5 ⟨bo, rfl, hc5, hg5⟩
    have D5 := Lib.hid (D4.out.step hc5 hg5)
    have R5 := Lib.hid (show zrow _ _ from row_stepC R4.out (by omega) hg5)
    have V5 := Lib.hid (show RowH _ _ _ _ _ from row_stepC V4.out (by have := LV.out; omega) hg5)
    have O5 := Lib.hid (O4.out.stepC (by omega) hg5)
    have U5 := Lib.hid (U4.out.stepC (by omega) hg5)
    clear hc5 hg5 D4 R4 V4 O4 U4
    cases bo
    · skip
      go_wp2_with fail
      have DD := Lib.hid (D5.out.low (below_drew (Below.refl _ w5)))
      have RD : Hid (zrow w5.drew w.heap.size) := R5.out
      have VD : Hid (RowH w5.drew gv (.slice pa nf qa) (.slice pb nl qb) (.slice pc nr qc)) := V5.out
      have OD := Lib.hid (O5.out.below (below_drew (Below.refl w5.heap.size w5)))
      have d0 := VD.out.c0
      have d1 := VD.out.c1
      have d2 := VD.out.c2
      refine wp_region_held_drew (S := (fun w' => w'.cell? ⟨gv, 0, none⟩ = some (.slice pa nf qa) ∧ w'.cell? ⟨gv, 1, none⟩ = some (.slice pb nl qb) ∧ w'.cell? ⟨gv, 2, none⟩ = some (.slice pc nr qc))) (by kernel_rfl) (⟨d0, d1, d2⟩) (fun hHeld => ?_)
      refine wpAnyH_take (i := 0) (v := ?va0x10) rfl (by kernel_rfl) (by kernel_rfl) (by kernel_rfl) (fun _ _ _ h => h) (Or.inl ⟨by rfl, ?hy0x10⟩) (by assumption) ?rest0x10
      case hy0x10 => (intro w hSw; (try dsimp only at hSw); go_simp; try with_reducible rfl)
      (try simp only [Act.put, List.getElem_toArray, List.getElem_cons_zero, List.setIfInBounds_toArray, List.set_cons_zero, List.set_cons_succ])
      refine wpAnyH_take (i := 1) (v := ?va1x11) rfl (by kernel_rfl) (by kernel_rfl) (by kernel_rfl) (fun _ _ _ h => h) (Or.inl ⟨by rfl, ?hy1x11⟩) (by assumption) ?rest1x11
      case hy1x11 => (intro w hSw; (try dsimp only at hSw); go_simp; try with_reducible rfl)
      (try simp only [Act.put, List.getElem_toArray, List.getElem_cons_zero, List.getElem_cons_succ, List.setIfInBounds_toArray, List.set_cons_zero, List.set_cons_succ])
      refine wpAnyH_take (i := 2) (v := ?va2x12) rfl (by kernel_rfl) (by kernel_rfl) (by kernel_rfl) (fun _ _ _ h => h) (Or.inl ⟨by rfl, ?hy2x12⟩) (by assumption) ?rest2x12
      case hy2x12 => (intro w hSw; (try dsimp only at hSw); go_simp; try with_reducible rfl)
      (try simp only [Act.put, List.getElem_toArray, List.getElem_cons_zero, List.getElem_cons_succ, List.setIfInBounds_toArray, List.set_cons_zero, List.set_cons_succ])
      refine wpAnyH_take (i := 3) (v := ?va3x13) rfl (by kernel_rfl) (by kernel_rfl) (by kernel_rfl) (fun _ _ _ h => h) (Or.inl ⟨by rfl, ?hy3x13⟩) (by assumption) ?rest3x13
      case hy3x13 => (intro w hSw; (try dsimp only at hSw); go_simp; try with_reducible rfl)
      (try simp only [Act.put, List.getElem_toArray, List.getElem_cons_zero, List.getElem_cons_succ, List.setIfInBounds_toArray, List.set_cons_zero, List.set_cons_succ])
      refine wpAnyH_take (i := 4) (v := ?va4x14) rfl (by kernel_rfl) (by kernel_rfl) (by kernel_rfl) (fun _ _ _ h => h) (Or.inl ⟨by rfl, ?hy4x14⟩) (by assumption) ?rest4x14
      case hy4x14 => (intro w hSw; (try dsimp only at hSw); go_simp; try with_reducible rfl)
      (try simp only [Act.put, List.getElem_toArray, List.getElem_cons_zero, List.getElem_cons_succ, List.setIfInBounds_toArray, List.set_cons_zero, List.set_cons_succ])
      refine wpAnyH_take (i := 5) (v := ?va5x15) rfl (by kernel_rfl) (by kernel_rfl) (by kernel_rfl) (fun _ _ _ h => h) (Or.inl ⟨by rfl, ?hy5x15⟩) (by assumption) ?rest5x15
      case hy5x15 => (intro w hSw; (try dsimp only at hSw); go_simp; try with_reducible rfl)
      (try simp only [Act.put, List.getElem_toArray, List.getElem_cons_zero, List.getElem_cons_succ, List.setIfInBounds_toArray, List.set_cons_zero, List.set_cons_succ])
      generalize w5.drew = wd at *
      clear d0 d1 d2
      refine wpAnyH_ready (rs := [6]) (by kernel_rfl) (by simp) ?_
      refine AllReadyH.cons rfl (fun K hK => ?_) AllReadyH.nil
      go_simp
      refine (c_pick (w.heap.size + 1) (0 + 200 + 2) 20 _ DD.out.1 (by omega) (by omega) (by omega)).mono ?_
      rintro e w6 ⟨x6, hx6, rfl, hc5, hg5⟩
      have D6 := Lib.hid (DD.out.step hc5 hg5)
      have R6 := Lib.hid (show zrow _ _ from row_stepC RD.out (by omega) hg5)
      have V6 := Lib.hid (show RowH _ _ _ _ _ from row_stepC VD.out (by have := LV.out; omega) hg5)
      have O6 := Lib.hid (OD.out.stepC (by omega) hg5)
      clear hc5 hg5
      refine hK.out _ _ ⟨V6.out.c0, V6.out.c1, V6.out.c2⟩ (fun hHeld => ?_)
      clear hK K
      (try simp only [Act.put, List.getElem_toArray, List.getElem_cons_zero, List.getElem_cons_succ, List.setIfInBounds_toArray, List.set_cons_zero, List.set_cons_succ])
      have hq7 : x6.tdiv 19 = x6 / 19 := Int.tdiv_eq_ediv_of_nonneg hx6.1
      obtain ⟨y8, hy8⟩ : ∃ y : Nat, x6 / 19 = y := ⟨(x6 / 19).toNat, by omega⟩
      have hy1 : y8 ≤ 1 := by omega
      rw [hy8] at hq7
      have HY8 := Lib.hid hy8; clear hy8
      have hwy : IntKind.i64.wrap (y8 : Int) = (y8 : Int) := IntWalk.i64_in _ (by omega)
      have hws : IntKind.i64.wrap ((nf : Int) + (y8 : Int)) = ((nf + y8 : Nat) : Int) := by rw [IntWalk.i64_in _ (by omega)]; omega
      have hq8 : x6 / 19 = (y8 : Int) := HY8.out
      refine wpAnyH_take (i := 7) (v := ?va7x16) rfl (by kernel_rfl) (by kernel_rfl) (by kernel_rfl) (fun _ _ _ h => h) (Or.inl ⟨by rfl, ?hy7x16⟩) (by assumption) ?rest7x16
      case hy7x16 => (intro w hSw; (try dsimp only at hSw); go_simp; try with_reducible rfl)
      (try simp only [Act.put, List.getElem_toArray, List.getElem_cons_zero, List.getElem_cons_succ, List.setIfInBounds_toArray, List.set_cons_zero, List.set_cons_succ])
      refine wpAnyH_take (i := 8) (v := ?va8x17) rfl (by kernel_rfl) (by kernel_rfl) (by kernel_rfl) (fun _ _ _ h => h) (Or.inl ⟨by rfl, ?hy8x17⟩) (by assumption) ?rest8x17
      case hy8x17 => (intro w hSw; (try dsimp only at hSw); go_simp; try with_reducible rfl)
      (try simp only [Act.put, List.getElem_toArray, List.getElem_cons_zero, List.getElem_cons_succ, List.setIfInBounds_toArray, List.set_cons_zero, List.set_cons_succ])
      refine wpAnyH_ready (rs := [9]) (by kernel_rfl) (by simp) ?_
      refine AllReadyH.cons rfl (fun K hK => ?_) AllReadyH.nil
      go_simp
      refine (c_colours (w.heap.size + 1) (0 + 200 + 2 + 2) (nf + y8) _ D6.out.1 (by omega) (by omega)).mono ?_
      rintro e w7 ⟨v7, l7, rfl, hl7, ho7, hc5, hg5⟩
      have D7 := Lib.hid (D6.out.step hc5 hg5)
      have R7 := Lib.hid (show zrow _ _ from row_stepC R6.out (by omega) hg5)
      have V7 := Lib.hid (show RowH _ _ _ _ _ from row_stepC V6.out (by have := LV.out; omega) hg5)
      have O7 := Lib.hid (O6.out.stepC (by omega) hg5)
      have U7 := Lib.hid (ho7.mono (show w.heap.size + 1 + 1 ≤ w6.heap.size by have := V6.out.lt; have := LV.out; omega))
      have HL7 : Hid (l7.length ≤ 1000) := by unfold Hid; omega
      clear hc5 hg5 ho7 hl7
      refine hK.out _ _ ⟨V7.out.c0, V7.out.c1, V7.out.c2⟩ (fun hHeld => ?_)
      clear hK K
      (try simp only [Act.put, List.getElem_toArray, List.getElem_cons_zero, List.getElem_cons_succ, List.setIfInBounds_toArray, List.set_cons_zero, List.set_cons_succ])
      refine wpAnyH_ready (rs := [10]) (by kernel_rfl) (by simp) ?_
      refine AllReadyH.cons rfl (fun K hK => ?_) AllReadyH.nil
      have hch := chgRow w7 w.heap.size (c3 (.slice pa nf qa) (.slice pb nl qb) (.slice pc nr qc))
      have VN := Lib.hid (show RowH _ _ _ _ _ from Row.chg V7.out hch (.inr (by have := LV.out; omega)))
      have ON := Lib.hid (O7.out.chg hch (.inr (by omega)))
      have UN := Lib.hid (Own.chg U7.out hch (fun g e => .inr (by have := (owns_lt U7.out e).1; omega)))
      have BN := Lib.hid (below_setRow (g := w.heap.size) (DB.out _ _ D7.out) (Nat.le_refl _) (c3 (.slice pa nf qa) (.slice pb nl qb) (.slice pc nr qc)))
      clear hch
      refine wp_store_row 30 _ _ rfl w.heap.size (c3 (.slice pa nf qa) (.slice pb nl qb) (.slice pc nr qc)) rfl rfl 30 _ R7.out info_heap rfl (by simp [Value.oneCell']) ?_
      refine hK.out _ _ ⟨VN.out.c0, VN.out.c1, VN.out.c2⟩ (fun hHeld => ?_)
      clear hK K
      (try simp only [Act.put, List.getElem_toArray, List.getElem_cons_zero, List.getElem_cons_succ])
      refine wpAnyH_take (i := 11) (v := ?va11x18) rfl (by kernel_rfl) (by kernel_rfl) (by kernel_rfl) (fun _ _ _ h => h) (Or.inl ⟨by rfl, ?hy11x18⟩) (by assumption) ?rest11x18
      case hy11x18 => (intro w hSw; (try dsimp only at hSw); go_simp; try with_reducible rfl)
      (try simp only [Act.put, List.getElem_toArray, List.getElem_cons_zero, List.getElem_cons_succ, List.setIfInBounds_toArray, List.set_cons_zero, List.set_cons_succ])
      refine wpAnyH_done (by kernel_rfl) ?_ _
      clear hHeld
      go_wp2_with fail
      refine bodyPost_ret (res_row_slot Try.results72 (Row.put R7.out (c3 (.slice pa nf qa) (.slice pb nl qb) (.slice pc nr qc))) rfl rfl Try.underlying30 rfl info_heap) rfl ⟨_, _, _, h, _, l7, rfl, SH.out, ON.out.reads, UN.out.ints, HL7.out, BN.out⟩
    · skip
      have ON := Lib.hid (O5.out.chg (chgRow w5 w.heap.size (c3 (.slice pa nf qa) (.slice pb nl qb) (.slice pc nr qc))) (.inr (by omega)))
      have UN := Lib.hid (U5.out.chg (chgRow w5 w.heap.size (c3 (.slice pa nf qa) (.slice pb nl qb) (.slice pc nr qc))) (.inr (by omega)))
      have BN := Lib.hid (below_setRow (g := w.heap.size) (DB.out _ _ D5.out) (Nat.le_refl _) (c3 (.slice pa nf qa) (.slice pb nl qb) (.slice pc nr qc)))
      go_wp2_with (first
        | (refine wl_loadH rfl _ rfl gv _ _ _ V5.out rfl ?_)
        | (refine wl_storeH rfl _ _ rfl w.heap.size (.slice pa nf qa) (.slice pb nl qb) (.slice pc nr qc) _ _ _ R5.out rfl rfl rfl rfl rfl ?_))
      refine bodyPost_ret (res_row_slot Try.results72 (Row.put R5.out (c3 (.slice pa nf qa) (.slice pb nl qb) (.slice pc nr qc))) rfl rfl Try.underlying30 rfl info_heap) rfl ⟨_, _, _, h, _, l4, rfl, SH.out, ON.out.reads, UN.out.reads.r, by rw [HLL.out]; exact hl4, BN.out⟩
end Go.Proofs.Ytkkigoamphkalaa
namespace Go.Proofs.Ytkkigoamphkalaa
open Go.ChangeShapes Go.WideShapes Go.ChangeAt Go.RowKit

theorem own : ownKnob Try.prog.godebug = none := by kernel_rfl
theorem laidOut : laidOutB Try.prog = true := by kernel_rfl

section
variable {H : Type} {enc : TypeId × Value → H} {P : Program}
theorem trodAll_below (hl : laidOutB P = true) {W W' : World} (hb : Below W.heap.size W W') :
    ∀ (ts : List TypeId) (vs : List Value) (ds : List (DataW H)) (ps : List MemPlace), (∀ t ∈ ts, P.readableRec t = true ∧ t < P.types.size) →
      DataW.TrodAll enc P W 0 (fun _ => true) true ts vs ds ps → (∀ x ∈ ps, x.block < W.heap.size) →
      DataW.TrodAll enc P W' 0 (fun b => decide (b < W.heap.size)) true ts vs ds ps
  | [], [], [], _, _, h, _ => h
  | t :: ts, v :: vs, d :: ds, ps, hr, h, hlt => by
    obtain ⟨p, q, h1, h2, rfl⟩ := h
    exact ⟨p, q, Below.trod hl (hr t (by simp)).1 (hr t (by simp)).2 h1 hb (fun x hx => hlt x (by simp [hx])),
      trodAll_below hl hb ts vs ds q (fun t ht => hr t (by simp [ht])) h2 (fun x hx => hlt x (by simp [hx])), rfl⟩
  | [], [], _ :: _, _, _, h, _ => h.elim
  | [], _ :: _, _, _, _, h, _ => h.elim
  | _ :: _, [], _, _, _, h, _ => h.elim
  | _ :: _, _ :: _, [], _, _, h, _ => h.elim
theorem var_lt {W : World} {n : String} {g : Nat} {cs : Array Value} (hg : P.globalNamed n = some g) (hv : W.var? P n = some cs) : g < W.heap.size := by
  unfold World.var? at hv
  simp only [hg, Option.bind_some] at hv
  by_cases h : g < W.heap.size
  · exact h
  · have hn : W.heap[g]? = none := by simp; omega
    simp [hn] at hv
theorem trodVars_below (hl : laidOutB P = true) {W W' : World} (hb : Below W.heap.size W W') :
    ∀ (ns : List String) (ds : List (DataW H)) (ps : List MemPlace), (∀ n ∈ ns, ∀ g t, P.globalNamed n = some g → (P.globals[g]?).map (·.type) = some t → P.readableRec t = true ∧ t < P.types.size) →
      DataW.TrodVars enc P W (fun _ => true) ns ds ps → (∀ x ∈ ps, x.block < W.heap.size) →
      DataW.TrodVars enc P W' (fun b => decide (b < W.heap.size)) ns ds ps
  | [], [], _, _, h, _ => h
  | n :: ns, d :: ds, ps, hr, h, hlt => by
    obtain ⟨g, t, cs, fuel, p, q, h1, h2, h3, h4, h5, rfl⟩ := h
    have ht : DataW.Trod enc P W 0 (fun _ => true) true t (.agg cs) d p := ⟨fuel, h4⟩
    obtain ⟨fuel', h4'⟩ := Below.trod hl (hr n (by simp) g t h1 h2).1 (hr n (by simp) g t h1 h2).2 ht hb (fun x hx => hlt x (by simp [hx]))
    exact ⟨g, t, cs, fuel', p, q, h1, h2, var?_below hb h1 (var_lt h1 h3) h3, h4', trodVars_below hl hb ns ds q (fun n hn => hr n (by simp [hn])) h5 (fun x hx => hlt x (by simp [hx])), rfl⟩
  | [], _ :: _, _, _, h, _ => h.elim
  | _ :: _, [], _, _, h, _ => h.elim

/-- THE END OF A LAW: it answered true, nothing old has turned. -/
theorem law_post {fn : Func} {s : ChangeSpec} {W W' : World} {args : Array Value} {ds gs : List (DataW H)} {before : List MemPlace} {tb : TypeId} (hl : laidOutB P = true)
    (hps : ∀ t ∈ fn.params.toList, P.readableRec t = true ∧ t < P.types.size) (hvs : ∀ n ∈ s.vars, ∀ g t, P.globalNamed n = some g → (P.globals[g]?).map (·.type) = some t → P.readableRec t = true ∧ t < P.types.size)
    (hW : DataW.Whole enc P fn.params.toList s.vars false W args.toList ds gs before) (hb : Below W.heap.size W W') (hs : s.fn H (ds ++ gs) = { results := [.lit (.bool true)], args := ds, vars := gs })
    (hr : fn.resultTypes = #[tb]) (ht : P.underlying tb = some .bool) : s.post enc P fn false true false false W args (.bool true) W' := by
  have hW' := hW
  obtain ⟨p, q, hA, hV, rfl, hfz, hnd⟩ := hW
  have hlt : ∀ x ∈ p ++ q, x.block < W.heap.size := fun x hx => hW'.lt x hx
  refine ⟨ds, gs, p ++ q, [], p, q, hW', ?_, ?_, ?_, hb.frame _, fun h => by cases h⟩
  · rw [hs, hr]
    exact trodAll_cons_mk (shut_bool ht _) trodAll_mk0
  · rw [hs]
    exact trodAll_below hl hb _ _ _ _ hps hA (fun x hx => hlt x (by simp [hx]))
  · rw [hs]
    exact trodVars_below hl hb _ _ _ hvs hV (fun x hx => hlt x (by simp [hx]))
end

theorem r_bytes : Try.prog.readableRec 75 = true ∧ 75 < Try.prog.types.size := ⟨by kernel_rfl, of_decide_eq_true (by kernel_rfl)⟩
theorem cellsByte : Try.prog.cellsOf 5 = 1 := by kernel_rfl
set_option maxRecDepth 100000 in
theorem bytes_of_arg {H : Type} {enc : TypeId × Value → H} {W : World} {base : Nat} {v : Value} {d : DataW H} {p : List MemPlace} (hval : Value.okWide Try.prog W .any base 75 v)
    (h : DataW.Trod enc Try.prog W 0 (fun _ => true) true 75 v d p) : ∃ zs, BytesAt W v zs := by
  obtain ⟨a0, len, cap, rfl⟩ := okWide_slice Try.underlying75 hval
  obtain ⟨fuel, hf⟩ := h
  rcases open_ints Try.underlying75 Try.underlying5 cellsByte hf with ⟨hcs, hx⟩ | ⟨a, len', cap', zs, hcs, _, hl, hm, hz, hx, hcell, hwz⟩
  · simp [Value.cells] at hcs
    obtain ⟨rfl, rfl, rfl⟩ := hcs
    exact ⟨[], by simp, by simp, none, 0, rfl, fun h => absurd h (by simp)⟩
  · simp [Value.cells] at hcs
    obtain ⟨rfl, rfl, rfl⟩ := hcs
    simp only [if_true] at hz
    have hlen : (zs.take len).length = len := by rw [List.length_take]; omega
    refine ⟨zs.take len, by rw [hlen]; unfold maxLen at hm; omega, fun z hz => ?_, some a, cap, by rw [hlen], fun h0 => ?_⟩
    · exact bounds_u8 (hwz z (List.mem_of_mem_take hz))
    rw [hlen] at h0 ⊢
    obtain ⟨b, off, rfl, hc⟩ := ints_at hcell (by omega)
    refine ⟨b, off, rfl, fun i hi => ?_⟩
    rw [hc i (by omega)]
    simp [List.getD, hi]
end Go.Proofs.Ytkkigoamphkalaa
