/- What the laws rest on, part 10. -/
import Derived.Test.YtbmfkgfmibpkjaaPC9
import Derived.Deep.CutRange
namespace Go.Proofs.Ytbmfkgfmibpkjaa
open Go.RowKit Ph

/-- A move done, in a variable of its own. -/
structure TellP (x0 x : World) (g : Nat) (a b c d : Value) (sk : Bool) (SH : H) (SC : List Int) : Prop where
  u : RowM x g a b c d
  l : Below x0.heap.size x0 x
  gl : x0.heap.size ≤ g
  z : sk = true → ∀ w'' : World, (∀ i, x0.heap.size ≤ i → i < x.heap.size → w''.heap[i]? = x.heap[i]?) → x.heap.size ≤ w''.heap.size → HeapAt w'' a b c SH ∧ IntsAt w'' d SC
theorem stayM {lo hi s : Nat} {y w'' : World} {a b c d : Value} {HH : H} {CC : List Int} (k : ∀ w'' : World, (∀ i, ((lo ≤ i ∧ i < hi) ∨ s ≤ i) → w''.heap[i]? = y.heap[i]?) → HeapAt w'' a b c HH ∧ IntsAt w'' d CC) (hh : ∀ i, ((lo ≤ i ∧ i < hi) ∨ s ≤ i) → i < y.heap.size → w''.heap[i]? = y.heap[i]?) (hs : y.heap.size ≤ w''.heap.size) : HeapAt w'' a b c HH ∧ IntsAt w'' d CC := by
  obtain ⟨h1, h2⟩ := k (cutW w'' y.heap.size) fun i hi => by
    by_cases q : i < y.heap.size
    · rw [cutW_block q]; exact hh i hi q
    · rw [Array.getElem?_eq_none (by rw [cutW_size hs]; omega), Array.getElem?_eq_none (by omega)]
  exact ⟨h1.below (cutW_below hs), h2.below (cutW_below hs)⟩
set_option maxHeartbeats 25600000 in
set_option maxRecDepth 100000 in
theorem s_PlayMarking (a b c v : Value) (h : H) (ms : List Mv) (put : Bool) (w : World) (hA : HeapAt w a b c h) (hM : MovesAt w v ms) (hml : ms.length ≤ 9223372036854775806) :
    Calls Try.prog 27 #[hv a b c, v, .bool put] w (EndMM (playH h ms put) (playC h ms put) (playD h ms put) (playOk h ms) w) := by
  obtain ⟨ib, hib, hbz0, hbz1, hbz2⟩ := info_parts info_boolz
  have b0 := (below1 w (.cells (c3 a b c) 32)).alloc (by simp) (.cells (m4 nilS nilS nilS nilS) 34)
  have A0 := Lib.hid (hA.below b0); have B0 := Lib.hid b0
  have R0 := Lib.hid (show RowM _ (w.heap.size + 1) nilS nilS nilS nilS from Row.new1 w (.cells (c3 a b c) 32) 34 (m4 nilS nilS nilS nilS))
  have P0 := Lib.hid (show RowH _ w.heap.size a b c from (Row.new w 32 (c3 a b c)).alloc (.cells (m4 nilS nilS nilS nilS) 34))
  have HST := Lib.hid (s_StartMarking a b c h _ A0.out)
  have HMV := Lib.hid hM
  have HOK : Hid (playOk h ms = (good h && decide (ms.length ≤ 60))) := rfl
  have HPH : Hid (playH h ms put = if playOk h ms = true then (playTo put (h, startC h) ms ms.length).1.1 else ⟨[], [], []⟩) := rfl
  have HPC : Hid (playC h ms put = if playOk h ms = true then (playTo put (h, startC h) ms ms.length).1.2 else []) := rfl
  have HPD : Hid (playD h ms put = if playOk h ms = true then (playTo put (h, startC h) ms ms.length).2 else []) := rfl
  have HG1 := Lib.hid (good_iff (h := h)).1
  have HSH : Hid (good h = true → startH h = h) := fun q => by unfold startH; rw [q]; rfl
  have HSR : Hid (good h = true → startR h = startC h) := fun q => startR_yes q
  have HBG : Hid (Ph.Good h → ∀ k, bothB (playTo put (h, startC h) ms k).1.1 (playTo put (h, startC h) ms k).1.2 = true) := fun g => playTo_good (put := put) (m := (h, startC h)) (ms := ms) (start_both g)
  have HLN := Lib.hid (playTo_len put (h, startC h) ms)
  obtain ⟨la, lc, rfl, hmc⟩ := hM
  have HMC := Lib.hid hmc
  clear hA b0 hmc
  generalize playH h ms put = RH at *
  generalize playC h ms put = RC at *
  generalize playD h ms put = RD at *
  generalize playOk h ms = ok at *
  generalize startH h = SH0 at *
  generalize startR h = SR0 at *
  generalize hn : ms.length = n at *
  have HN := Lib.hid hn; clear hn
  have p0 := P0.out.c0
  have p1 := P0.out.c1
  have p2 := P0.out.c2
  go_enter Try.func27, Try.ntmps27
  go_wp2_with fail
  refine HST.out.mono ?_
  rintro e w1 ⟨a0, b0, c0, d0, rfl, om, hb⟩
  obtain ⟨⟨z1, y1, e1⟩, ⟨z2, y2, e2⟩, ⟨z3, y3, e3⟩, ⟨z4, y4, e4⟩⟩ := om.shapes
  have HA0 := Lib.hid (Stab.ofOwn om)
  replace B0 := Lib.hid (bst B0.out hb B0.out.size); replace R0 := Lib.hid (show RowM _ _ _ _ _ _ from Row.below R0.out hb)
  subst e1 e2 e3 e4
  clear om hb p0 p1 p2 HST A0 P0
  generalize SH0.f.length = l1 at *
  generalize SH0.l.length = l2 at *
  generalize SH0.r.length = l3 at *
  generalize SR0.length = l4 at *
  have GMW : Hid (w.heap.size + 1 < w1.heap.size) := Row.lt R0.out
  have hb := below1 w1 (.cells (m4 (.slice z1 l1 y1) (.slice z2 l2 y2) (.slice z3 l3 y3) (.slice z4 l4 y4)) 34)
  have M0 := Lib.hid (show RowM (w1.alloc (.cells (m4 (.slice z1 l1 y1) (.slice z2 l2 y2) (.slice z3 l3 y3) (.slice z4 l4 y4)) 34)) w1.heap.size (.slice z1 l1 y1) (.slice z2 l2 y2) (.slice z3 l3 y3) (.slice z4 l4 y4) from Row.new w1 _ _)
  replace B0 := Lib.hid (bst B0.out hb B0.out.size); replace R0 := Lib.hid (show RowM _ _ _ _ _ _ from Row.below R0.out hb)
  replace HA0 := Lib.hid (HA0.out.below hb)
  clear hb
  generalize hgd : good h = gd at *
  have HGD := Lib.hid hgd; clear hgd
  cases gd
  · have HE : Hid (ok = false) := by unfold Hid; rw [HOK.out]; rfl
    have HE1 : Hid (RH = ⟨[], [], []⟩) := by unfold Hid; rw [HPH.out, HE.out]; rfl
    have HE2 : Hid (RC = []) := by unfold Hid; rw [HPC.out, HE.out]; rfl
    have HE3 : Hid (RD = []) := by unfold Hid; rw [HPD.out, HE.out]; rfl
    go_wp2_with (refine wl_storeM rfl _ _ rfl (w.heap.size + 1) nilS nilS nilS nilS _ _ _ _ R0.out rfl rfl rfl rfl rfl rfl ?_)
    refine bodyPost_ret (res_row_slot2 Try.results27 (Row.put R0.out (m4 nilS nilS nilS nilS)) rfl rfl rfl Try.underlying34 rfl info_marking) rfl (endMM_none (below_setRow B0.out (by omega) _) HE1.out HE2.out HE3.out HE.out)
  have HG := Lib.hid (HG1.out (by first | rfl | trivial))
  have HSH1 := Lib.hid (HSH.out (by first | rfl | trivial))
  have HSR1 := Lib.hid (HSR.out (by first | rfl | trivial))
  by_cases h60 : n ≤ 60
  case neg =>
    have HE : Hid (ok = false) := by unfold Hid; rw [HOK.out, decide_eq_false h60]; rfl
    have HE1 : Hid (RH = ⟨[], [], []⟩) := by unfold Hid; rw [HPH.out, HE.out]; rfl
    have HE2 : Hid (RC = []) := by unfold Hid; rw [HPC.out, HE.out]; rfl
    have HE3 : Hid (RD = []) := by unfold Hid; rw [HPD.out, HE.out]; rfl
    have i1 : (60 : Int) < (n : Int) := by omega
    go_wp2_with (refine wl_storeM rfl _ _ rfl (w.heap.size + 1) nilS nilS nilS nilS _ _ _ _ R0.out rfl rfl rfl rfl rfl rfl ?_)
    refine bodyPost_ret (res_row_slot2 Try.results27 (Row.put R0.out (m4 nilS nilS nilS nilS)) rfl rfl rfl Try.underlying34 rfl info_marking) rfl (endMM_none (below_setRow B0.out (by omega) _) HE1.out HE2.out HE3.out HE.out)
  have HE : Hid (ok = true) := by unfold Hid; rw [HOK.out, decide_eq_true h60]; rfl
  have HE1 : Hid (RH = (playTo put (h, startC h) ms n).1.1) := by unfold Hid; rw [HPH.out, HE.out]; rfl
  have HE2 : Hid (RC = (playTo put (h, startC h) ms n).1.2) := by unfold Hid; rw [HPC.out, HE.out]; rfl
  have HE3 : Hid (RD = (playTo put (h, startC h) ms n).2) := by unfold Hid; rw [HPD.out, HE.out]; rfl
  have HBK := Lib.hid (HBG.out HG.out)
  have hs1 := HSH1.out; have hs2 := HSR1.out
  subst hs1
  have i1 : ¬ (60 : Int) < (n : Int) := by omega
  go_wp2_with fail
  generalize hgm : w1.heap.size = gm at *
  clear hgm
  go_loopw [11, 31] (fun t i wr => ∃ k : Nat, k ≤ n ∧ i = .int .i64 k ∧ ∃ (a b c d : Value), Hid (a.oneCell' = true ∧ b.oneCell' = true ∧ c.oneCell' = true ∧ d.oneCell' = true) ∧ Hid (RowM wr gm a b c d) ∧ Hid (Stab wr t a b c d (playTo put (SH0, startC SH0) ms k).1.1 (playTo put (SH0, startC SH0) ms k).1.2) ∧ Hid (OwnBs wr w.heap.size t (playTo put (SH0, startC SH0) ms k).2) ∧ Hid (RowM wr (w.heap.size + 1) nilS nilS nilS nilS) ∧ Hid (Below w.heap.size w wr)) (fun _ i _ => n - (intOf i).toNat)
  case atStart => exact ⟨0, Nat.zero_le _, rfl, _, _, _, _, ⟨rfl, rfl, rfl, rfl⟩, M0, by unfold Hid; have := HA0.out; rw [hs2] at this; exact this, OwnBs.nil _ _, R0, B0⟩
  case round =>
    obtain ⟨k, hk, rfl, a, b, c, d, hone, hm, hst, hdi, hre, hbe⟩ := hrel
    by_cases hlt : k < n
    · have HY := Lib.hid (fun q => playTo_yes (put := put) (m := (SH0, startC SH0)) (ms := ms) (k := k) q)
      have HNO := Lib.hid (fun q => playTo_no (put := put) (m := (SH0, startC SH0)) (ms := ms) (k := k) q)
      have HLK := Lib.hid (HLN.out k)
      have HBB := Lib.hid (HBK.out k)
      generalize hpt : playTo put (SH0, startC SH0) ms k = pt at *
      clear hpt
      obtain ⟨⟨h1, cs1⟩, ds⟩ := pt
      simp only at HY HNO HLK HBB hst hdi
      obtain ⟨mb, mo', rfl, hmv⟩ := HMC.out (by omega)
      obtain ⟨q0, q1, q2, q3⟩ := hmv k hlt
      replace q0 := cellBelow hbe.out (Nat.le_refl _) q0
      replace q1 := cellBelow hbe.out (Nat.le_refl _) q1
      replace q2 := cellBelow hbe.out (Nat.le_refl _) q2
      replace q3 := cellBelow hbe.out (Nat.le_refl _) q3
      have i2 : (k : Int) < (n : Int) := by omega
      have i3 : (0 : Int) ≤ (k : Int) := by omega
      clear hmv
      generalize ms.getD k ⟨0, 0, 0, 0⟩ = vm at *
      have HS := Lib.hid (fun (lo hi : Nat) (a b c d : Value) (x : World) hO hl hs => s_l7Step lo hi a b c d h1 cs1 vm put x hO HBB.out hl hs)
      have HGS := Lib.hid (bothB_iff (h := h1) (cs := cs1)).1
      obtain ⟨hG1, hlc1, hcol1⟩ := HGS.out HBB.out
      have HG1' := Lib.hid hG1; have HLC1 := Lib.hid hlc1
      clear hG1 hlc1 hcol1 HGS
      obtain ⟨vk, va, vb, vt⟩ := vm
      generalize stepH h1 ⟨vk, va, vb, vt⟩ = SH at *
      generalize stepC h1 cs1 ⟨vk, va, vb, vt⟩ put = SC at *
      generalize stepOk h1 cs1 ⟨vk, va, vb, vt⟩ = sk at *
      have c0 := hm.out.cell 0
      have c1 := hm.out.cell 1
      have c2 := hm.out.cell 2
      have c3' := hm.out.cell 3
      have ba := below1 wr (.cells (mo4 ⟨vk, va, vb, vt⟩) 38)
      have V1 := Lib.hid (show Row _ wr.heap.size 38 (mo4 ⟨vk, va, vb, vt⟩) from Row.new wr _ _)
      have M1 := Lib.hid (show RowM _ _ _ _ _ _ from Row.below hm.out ba); have ST1 := Lib.hid (Stab.below hst.out ba); have A1 := Lib.hid (ST1.out.reads.1); have Z1 := Lib.hid (ST1.out.reads.2)
      have D1 := Lib.hid (OwnBs.below hdi.out ba); have R1 := Lib.hid (show RowM _ _ _ _ _ _ from Row.below hre.out ba); have B1 := Lib.hid (bst hbe.out ba hbe.out.size)
      go_upto_region 8 with fail
      clear q0 q1 q2 q3 c0 c1 c2 c3' ba hm hst hdi hre hbe
      generalize hgv : wr.heap.size = gv at *
      generalize wr.alloc (.cells (mo4 ⟨vk, va, vb, vt⟩) 38) = x0 at *
      clear hgv
      have GM : Hid (gm < x0.heap.size) := Row.lt M1.out
      have GV : Hid (gv < x0.heap.size) := Row.lt V1.out
      go_cut [14, 15] from 36 to 49 (fun p q wk => ∃ gU a7 b7 c7 d7, p = .pointer (some ⟨gU, 0, none⟩) ∧ q = .bool sk ∧ (a7.oneCell' = true ∧ b7.oneCell' = true ∧ c7.oneCell' = true ∧ d7.oneCell' = true) ∧ Hid (TellP x0 wk gU a7 b7 c7 d7 sk SH SC))
      case first =>
        have bd := below_drew (Below.refl x0.heap.size x0)
        have L1 := Lib.hid bd
        have M2 := Lib.hid (show RowM x0.drew _ _ _ _ _ from Row.below M1.out bd); have V2 := Lib.hid (show Row x0.drew _ _ _ from Row.below V1.out bd)
        have A2 := Lib.hid (show HeapAt x0.drew _ _ _ _ from A1.out.below bd); have Z2 := Lib.hid (show IntsAt x0.drew _ _ from Z1.out.below bd)
        clear bd M1 V1 A1 Z1 D1 R1 B1
        have M1 := M2; have V1 := V2; have A1 := A2; have Z1 := Z2
        clear M2 V2 A2 Z2
        refine wp_region_held_drew (S := (fun w' => w'.cell? ⟨gm, 0, none⟩ = some a ∧ w'.cell? ⟨gm, 1, none⟩ = some b ∧ w'.cell? ⟨gm, 2, none⟩ = some c ∧ w'.cell? ⟨gm, 3, none⟩ = some d ∧ w'.cell? ⟨gv, 0, none⟩ = some (.int .i64 vk) ∧ w'.cell? ⟨gv, 1, none⟩ = some (.int .i64 va) ∧ w'.cell? ⟨gv, 2, none⟩ = some (.int .i64 vb) ∧ w'.cell? ⟨gv, 3, none⟩ = some (.int .i64 vt))) (by kernel_rfl) (⟨M1.out.cell 0, M1.out.cell 1, M1.out.cell 2, M1.out.cell 3, V1.out.cell 0, V1.out.cell 1, V1.out.cell 2, V1.out.cell 3⟩) (fun hHeld => ?_)
        generalize x0.drew = x1 at *
        refine wpAnyH_take (i := 0) (v := ?va0x1) rfl (by kernel_rfl) (by kernel_rfl) (by kernel_rfl) (fun _ _ _ h => h) (Or.inl ⟨by rfl, ?hy0x1⟩) (by assumption) ?rest0x1
        case hy0x1 => (intro w hSw; (try dsimp only at hSw); go_simp; try with_reducible rfl)
        (try simp only [Act.put, List.getElem_toArray, List.getElem_cons_zero, List.setIfInBounds_toArray, List.set_cons_zero, List.set_cons_succ])
        refine wpAnyH_take (i := 2) (v := ?va2x2) rfl (by kernel_rfl) (by kernel_rfl) (by kernel_rfl) (fun _ _ _ h => h) (Or.inl ⟨by rfl, ?hy2x2⟩) (by assumption) ?rest2x2
        case hy2x2 => (intro w hSw; (try dsimp only at hSw); go_simp; try with_reducible rfl)
        (try simp only [Act.put, List.getElem_toArray, List.getElem_cons_zero, List.getElem_cons_succ, List.setIfInBounds_toArray, List.set_cons_zero, List.set_cons_succ])
        refine wpAnyH_take (i := 3) (v := ?va3x3) rfl (by kernel_rfl) (by kernel_rfl) (by kernel_rfl) (fun _ _ _ h => h) (Or.inl ⟨by rfl, ?hy3x3⟩) (by assumption) ?rest3x3
        case hy3x3 => (intro w hSw; (try dsimp only at hSw); go_simp; try with_reducible rfl)
        (try simp only [Act.put, List.getElem_toArray, List.getElem_cons_zero, List.getElem_cons_succ, List.setIfInBounds_toArray, List.set_cons_zero, List.set_cons_succ])
        refine wpAnyH_ready (rs := [1, 8]) (by kernel_rfl) (by simp) ?_
        refine AllReadyH.cons rfl (fun K hK => ?_) (AllReadyH.cons rfl (fun K hK => ?_) AllReadyH.nil)
        · skip
          go_simp
          refine (s_l7Own a b c d h1 cs1 _ A1.out Z1.out (small_good HG1'.out) (by have := HG1'.out.n; have := HLC1.out; omega)).mono ?_
          rintro e y1 ⟨a1, b1, c1, d1, rfl, ho1, hb1⟩
          have LX : Hid (x0.heap.size ≤ x1.heap.size) := L1.out.size
          replace M1 := Lib.hid (show RowM _ _ _ _ _ _ from Row.below M1.out hb1); replace V1 := Lib.hid (Row.below V1.out hb1)
          replace L1 := Lib.hid (bst L1.out hb1 L1.out.size)
          have LOI : Hid (x1.heap.size ≤ y1.heap.size) := hb1.size
          have O1 := Lib.hid ho1
          refine hK.out _ _ ⟨M1.out.cell 0, M1.out.cell 1, M1.out.cell 2, M1.out.cell 3, V1.out.cell 0, V1.out.cell 1, V1.out.cell 2, V1.out.cell 3⟩ (fun hHeld => ?_)
          clear hK K hb1 ho1 A1 Z1
          (try simp only [Act.put, List.getElem_toArray, List.getElem_cons_zero, List.getElem_cons_succ, List.setIfInBounds_toArray, List.set_cons_zero, List.set_cons_succ])
          generalize x1.heap.size = lo at *
          refine wpAnyH_ready (rs := [4, 8]) (by kernel_rfl) (by simp) ?_
          refine AllReadyH.cons rfl (fun K hK => ?_) (AllReadyH.cons rfl (fun K hK => ?_) AllReadyH.nil)
          · skip
            have HIS := Nat.le_refl y1.heap.size
            go_simp
            refine (HS.out lo y1.heap.size a1 b1 c1 d1 _ O1.out (by have := LOI.out; omega) HIS).mono ?_
            rintro e y2 ⟨a2, b2, c2, d2, rfl, one2, hz2, hc2⟩
            have ONE := Lib.hid one2
            have LOX : Hid (x0.heap.size ≤ lo) := (by unfold Hid; have := LX.out; omega)
            replace M1 := Lib.hid (show RowM _ _ _ _ _ _ from Row.chg M1.out hc2 (.inl (by have := GM.out; have := GV.out; have := L1.out.size; have := LOX.out; omega))); replace V1 := Lib.hid (Row.chg V1.out hc2 (.inl (by have := GM.out; have := GV.out; have := L1.out.size; have := LOX.out; omega)))
            replace L1 := Lib.hid (below_chg L1.out hc2 LOX.out L1.out.size)
            refine hK.out _ _ ⟨M1.out.cell 0, M1.out.cell 1, M1.out.cell 2, M1.out.cell 3, V1.out.cell 0, V1.out.cell 1, V1.out.cell 2, V1.out.cell 3⟩ (fun hHeld => ?_)
            clear hK K hc2 one2 O1
            (try simp only [Act.put, List.getElem_toArray, List.getElem_cons_zero, List.getElem_cons_succ, List.setIfInBounds_toArray, List.set_cons_zero, List.set_cons_succ])
            refine wpAnyH_take (i := 5) (v := ?va5x4) rfl (by kernel_rfl) (by kernel_rfl) (by kernel_rfl) (fun _ _ _ h => h) (Or.inl ⟨by rfl, ?hy5x4⟩) (by assumption) ?rest5x4
            case hy5x4 => (intro w hSw; (try dsimp only at hSw); go_simp; try with_reducible rfl)
            (try simp only [Act.put, List.getElem_toArray, List.getElem_cons_zero, List.getElem_cons_succ, List.setIfInBounds_toArray, List.set_cons_zero, List.set_cons_succ])
            refine wpAnyH_take (i := 6) (v := ?va6x5) rfl (by kernel_rfl) (by kernel_rfl) (by kernel_rfl) (fun _ _ _ h => h) (Or.inl ⟨by rfl, ?hy6x5⟩) (by assumption) ?rest6x5
            case hy6x5 => (intro w hSw; (try dsimp only at hSw); go_simp; try with_reducible rfl)
            (try simp only [Act.put, List.getElem_toArray, List.getElem_cons_zero, List.getElem_cons_succ, List.setIfInBounds_toArray, List.set_cons_zero, List.set_cons_succ])
            refine wpAnyH_take (i := 7) (v := ?va7x6) rfl (by kernel_rfl) (by kernel_rfl) (by kernel_rfl) (fun _ _ _ h => h) (Or.inl ⟨by rfl, ?hy7x6⟩) (by assumption) ?rest7x6
            case hy7x6 => (intro w hSw; (try dsimp only at hSw); go_simp; try with_reducible rfl)
            (try simp only [Act.put, List.getElem_toArray, List.getElem_cons_zero, List.getElem_cons_succ, List.setIfInBounds_toArray, List.set_cons_zero, List.set_cons_succ])
            refine wpAnyH_ready (rs := [8]) (by kernel_rfl) (by simp) ?_
            refine AllReadyH.cons rfl (fun K hK => ?_) AllReadyH.nil
            have ba := below1 y2 (.cells (m4 nilS nilS nilS nilS) 34)
            have U1 := Lib.hid (show RowM _ y2.heap.size nilS nilS nilS nilS from Row.new y2 34 (m4 nilS nilS nilS nilS))
            have GU : Hid (x0.heap.size ≤ y2.heap.size) := L1.out.size
            replace M1 := Lib.hid (show RowM _ _ _ _ _ _ from Row.below M1.out ba); replace V1 := Lib.hid (Row.below V1.out ba)
            replace L1 := Lib.hid (bst L1.out ba L1.out.size)
            have HZ5 : Hid (sk = true → ∀ w'' : World, (∀ i, x0.heap.size ≤ i → i < ((y2.alloc (.cells (m4 nilS nilS nilS nilS) 34)).setRow y2.heap.size (m4 a2 b2 c2 d2)).heap.size → w''.heap[i]? = ((y2.alloc (.cells (m4 nilS nilS nilS nilS) 34)).setRow y2.heap.size (m4 a2 b2 c2 d2)).heap[i]?) → ((y2.alloc (.cells (m4 nilS nilS nilS nilS) 34)).setRow y2.heap.size (m4 a2 b2 c2 d2)).heap.size ≤ w''.heap.size → HeapAt w'' a2 b2 c2 SH ∧ IntsAt w'' d2 SC) := fun q w'' hh hs => stayM (hz2 q) (fun i hi hy => by
              have hlx := LX.out; have hlo := LOI.out
              rw [hh i (by omega) (by rw [size_setRow, World.size_alloc]; omega), setRow_other _ _ i _ (by omega)]
              exact (ba.block i hy)) (by rw [size_setRow, World.size_alloc] at hs; omega)
            go_simp
            refine hK.out _ _ ⟨M1.out.cell 0, M1.out.cell 1, M1.out.cell 2, M1.out.cell 3, V1.out.cell 0, V1.out.cell 1, V1.out.cell 2, V1.out.cell 3⟩ (fun hHeld => ?_)
            clear hK K ba hz2
            (try simp only [Act.put, List.getElem_toArray, List.getElem_cons_zero, List.getElem_cons_succ, List.setIfInBounds_toArray, List.set_cons_zero, List.set_cons_succ])
            generalize hgU : y2.heap.size = gU at *
            generalize y2.alloc (.cells (m4 nilS nilS nilS nilS) 34) = y2a at *
            have GN := GU.out
            have n1 : gU ≠ gm := by have := GM.out; omega
            have n2 : gU ≠ gv := by have := GV.out; omega
            have M5 := Lib.hid (show RowM _ _ _ _ _ _ from Row.putOther M1.out (m4 a2 b2 c2 d2) (Ne.symm n1)); have V5 := Lib.hid (Row.putOther V1.out (m4 a2 b2 c2 d2) (Ne.symm n2))
            have U5 := Lib.hid (Row.put U1.out (m4 a2 b2 c2 d2))
            have L5 := Lib.hid (below_setRow L1.out (by omega : x0.heap.size ≤ gU) (m4 a2 b2 c2 d2))
            refine wpAnyH_ready (rs := [9]) (by kernel_rfl) (by simp) ?_
            refine AllReadyH.cons rfl (fun K hK => ?_) AllReadyH.nil
            refine wp_store_row 34 _ _ rfl gU (m4 a2 b2 c2 d2) rfl rfl 34 _ U1.out info_marking rfl (by obtain ⟨z1, z2, z3, z4⟩ := ONE.out; simp [z1, z2, z3, z4]) ?_
            refine hK.out _ _ ⟨M5.out.cell 0, M5.out.cell 1, M5.out.cell 2, M5.out.cell 3, V5.out.cell 0, V5.out.cell 1, V5.out.cell 2, V5.out.cell 3⟩ (fun hHeld => ?_)
            clear hK K
            (try simp only [Act.put, List.getElem_toArray, List.getElem_cons_zero, List.getElem_cons_succ])
            refine wpAnyH_take (i := 10) (v := ?va10x7) rfl (by kernel_rfl) (by kernel_rfl) (by kernel_rfl) (fun _ _ _ h => h) (Or.inl ⟨by rfl, ?hy10x7⟩) (by assumption) ?rest10x7
            case hy10x7 => (intro w hSw; (try dsimp only at hSw); go_simp; try with_reducible rfl)
            (try simp only [Act.put, List.getElem_toArray, List.getElem_cons_zero, List.getElem_cons_succ, List.setIfInBounds_toArray, List.set_cons_zero, List.set_cons_succ])
            refine wpAnyH_done (by kernel_rfl) ?_ _
            go_wp2_with fail
            go_meet
            case rel => exact ⟨gU, a2, b2, c2, d2, rfl, rfl, ONE.out, Lib.hid ⟨U5.out, L5.out, GN, HZ5.out⟩⟩
          · skip
            have HIS0 := Nat.le_succ y1.heap.size
            have ba := below1 y1 (.cells (m4 nilS nilS nilS nilS) 34)
            have U1 := Lib.hid (show RowM _ y1.heap.size nilS nilS nilS nilS from Row.new y1 34 (m4 nilS nilS nilS nilS))
            have GU : Hid (x0.heap.size ≤ y1.heap.size) := L1.out.size
            replace M1 := Lib.hid (show RowM _ _ _ _ _ _ from Row.below M1.out ba); replace V1 := Lib.hid (Row.below V1.out ba)
            replace L1 := Lib.hid (bst L1.out ba L1.out.size)
            replace O1 := Lib.hid (O1.out.below ba)
            have GSZ : Hid (y1.heap.size + 1 = (y1.alloc (.cells (m4 nilS nilS nilS nilS) 34)).heap.size) := (by unfold Hid; simp)
            go_simp
            refine hK.out _ _ ⟨M1.out.cell 0, M1.out.cell 1, M1.out.cell 2, M1.out.cell 3, V1.out.cell 0, V1.out.cell 1, V1.out.cell 2, V1.out.cell 3⟩ (fun hHeld => ?_)
            clear hK K ba
            (try simp only [Act.put, List.getElem_toArray, List.getElem_cons_zero, List.getElem_cons_succ, List.setIfInBounds_toArray, List.set_cons_zero, List.set_cons_succ])
            generalize y1.alloc (.cells (m4 nilS nilS nilS nilS) 34) = y1a at *
            have HIS : y1.heap.size ≤ y1a.heap.size := by have := GSZ.out; omega
            refine wpAnyH_ready (rs := [4]) (by kernel_rfl) (by simp) ?_
            refine AllReadyH.cons rfl (fun K hK => ?_) AllReadyH.nil
            go_simp
            refine (HS.out lo y1.heap.size a1 b1 c1 d1 _ O1.out (by have := LOI.out; omega) HIS).mono ?_
            rintro e y2 ⟨a2, b2, c2, d2, rfl, one2, hz2, hc2⟩
            have ONE := Lib.hid one2
            have LOX : Hid (x0.heap.size ≤ lo) := (by unfold Hid; have := LX.out; omega)
            replace M1 := Lib.hid (show RowM _ _ _ _ _ _ from Row.chg M1.out hc2 (.inl (by have := GM.out; have := GV.out; have := L1.out.size; have := LOX.out; omega))); replace V1 := Lib.hid (Row.chg V1.out hc2 (.inl (by have := GM.out; have := GV.out; have := L1.out.size; have := LOX.out; omega)))
            replace L1 := Lib.hid (below_chg L1.out hc2 LOX.out L1.out.size)
            have U2 := Lib.hid (show RowM _ _ _ _ _ _ from Row.chg U1.out hc2 (.inr (Nat.le_refl _))); clear U1; have U1 := U2; clear U2
            have HZ5 : Hid (sk = true → ∀ w'' : World, (∀ i, x0.heap.size ≤ i → i < (y2.setRow y1.heap.size (m4 a2 b2 c2 d2)).heap.size → w''.heap[i]? = (y2.setRow y1.heap.size (m4 a2 b2 c2 d2)).heap[i]?) → (y2.setRow y1.heap.size (m4 a2 b2 c2 d2)).heap.size ≤ w''.heap.size → HeapAt w'' a2 b2 c2 SH ∧ IntsAt w'' d2 SC) := fun q w'' hh hs => stayM (hz2 q) (fun i hi hy => by
              have hlx := LX.out; have hlo := LOI.out; have hgs := GSZ.out
              rw [hh i (by omega) (by rw [size_setRow]; exact hy), setRow_other _ _ i _ (by omega)]) (by rw [size_setRow] at hs; exact hs)
            refine hK.out _ _ ⟨M1.out.cell 0, M1.out.cell 1, M1.out.cell 2, M1.out.cell 3, V1.out.cell 0, V1.out.cell 1, V1.out.cell 2, V1.out.cell 3⟩ (fun hHeld => ?_)
            clear hK K hc2 one2 O1 hz2
            (try simp only [Act.put, List.getElem_toArray, List.getElem_cons_zero, List.getElem_cons_succ, List.setIfInBounds_toArray, List.set_cons_zero, List.set_cons_succ])
            refine wpAnyH_take (i := 5) (v := ?va5x8) rfl (by kernel_rfl) (by kernel_rfl) (by kernel_rfl) (fun _ _ _ h => h) (Or.inl ⟨by rfl, ?hy5x8⟩) (by assumption) ?rest5x8
            case hy5x8 => (intro w hSw; (try dsimp only at hSw); go_simp; try with_reducible rfl)
            (try simp only [Act.put, List.getElem_toArray, List.getElem_cons_zero, List.getElem_cons_succ, List.setIfInBounds_toArray, List.set_cons_zero, List.set_cons_succ])
            refine wpAnyH_take (i := 6) (v := ?va6x9) rfl (by kernel_rfl) (by kernel_rfl) (by kernel_rfl) (fun _ _ _ h => h) (Or.inl ⟨by rfl, ?hy6x9⟩) (by assumption) ?rest6x9
            case hy6x9 => (intro w hSw; (try dsimp only at hSw); go_simp; try with_reducible rfl)
            (try simp only [Act.put, List.getElem_toArray, List.getElem_cons_zero, List.getElem_cons_succ, List.setIfInBounds_toArray, List.set_cons_zero, List.set_cons_succ])
            refine wpAnyH_take (i := 7) (v := ?va7x10) rfl (by kernel_rfl) (by kernel_rfl) (by kernel_rfl) (fun _ _ _ h => h) (Or.inl ⟨by rfl, ?hy7x10⟩) (by assumption) ?rest7x10
            case hy7x10 => (intro w hSw; (try dsimp only at hSw); go_simp; try with_reducible rfl)
            (try simp only [Act.put, List.getElem_toArray, List.getElem_cons_zero, List.getElem_cons_succ, List.setIfInBounds_toArray, List.set_cons_zero, List.set_cons_succ])
            have GN := GU.out
            have n1 : y1.heap.size ≠ gm := by have := GM.out; omega
            have n2 : y1.heap.size ≠ gv := by have := GV.out; omega
            have M5 := Lib.hid (show RowM _ _ _ _ _ _ from Row.putOther M1.out (m4 a2 b2 c2 d2) (Ne.symm n1)); have V5 := Lib.hid (Row.putOther V1.out (m4 a2 b2 c2 d2) (Ne.symm n2))
            have U5 := Lib.hid (Row.put U1.out (m4 a2 b2 c2 d2))
            have L5 := Lib.hid (below_setRow L1.out (by omega : x0.heap.size ≤ y1.heap.size) (m4 a2 b2 c2 d2))
            refine wpAnyH_ready (rs := [9]) (by kernel_rfl) (by simp) ?_
            refine AllReadyH.cons rfl (fun K hK => ?_) AllReadyH.nil
            refine wp_store_row 34 _ _ rfl y1.heap.size (m4 a2 b2 c2 d2) rfl rfl 34 _ U1.out info_marking rfl (by obtain ⟨z1, z2, z3, z4⟩ := ONE.out; simp [z1, z2, z3, z4]) ?_
            refine hK.out _ _ ⟨M5.out.cell 0, M5.out.cell 1, M5.out.cell 2, M5.out.cell 3, V5.out.cell 0, V5.out.cell 1, V5.out.cell 2, V5.out.cell 3⟩ (fun hHeld => ?_)
            clear hK K
            (try simp only [Act.put, List.getElem_toArray, List.getElem_cons_zero, List.getElem_cons_succ])
            refine wpAnyH_take (i := 10) (v := ?va10x11) rfl (by kernel_rfl) (by kernel_rfl) (by kernel_rfl) (fun _ _ _ h => h) (Or.inl ⟨by rfl, ?hy10x11⟩) (by assumption) ?rest10x11
            case hy10x11 => (intro w hSw; (try dsimp only at hSw); go_simp; try with_reducible rfl)
            (try simp only [Act.put, List.getElem_toArray, List.getElem_cons_zero, List.getElem_cons_succ, List.setIfInBounds_toArray, List.set_cons_zero, List.set_cons_succ])
            refine wpAnyH_done (by kernel_rfl) ?_ _
            go_wp2_with fail
            go_meet
            case rel => exact ⟨y1.heap.size, a2, b2, c2, d2, rfl, rfl, ONE.out, Lib.hid ⟨U5.out, L5.out, GN, HZ5.out⟩⟩
        · skip
          have ba := below1 x1 (.cells (m4 nilS nilS nilS nilS) 34)
          have U1 := Lib.hid (show RowM _ x1.heap.size nilS nilS nilS nilS from Row.new x1 34 (m4 nilS nilS nilS nilS))
          have GU : Hid (x0.heap.size ≤ x1.heap.size) := L1.out.size
          replace M1 := Lib.hid (show RowM _ _ _ _ _ _ from Row.below M1.out ba); replace V1 := Lib.hid (Row.below V1.out ba)
          replace L1 := Lib.hid (bst L1.out ba L1.out.size)
          replace A1 := Lib.hid (A1.out.below ba); replace Z1 := Lib.hid (Z1.out.below ba)
          have GLO : Hid (x1.heap.size < (x1.alloc (.cells (m4 nilS nilS nilS nilS) 34)).heap.size) := (by unfold Hid; simp)
          go_simp
          refine hK.out _ _ ⟨M1.out.cell 0, M1.out.cell 1, M1.out.cell 2, M1.out.cell 3, V1.out.cell 0, V1.out.cell 1, V1.out.cell 2, V1.out.cell 3⟩ (fun hHeld => ?_)
          clear hK K ba
          (try simp only [Act.put, List.getElem_toArray, List.getElem_cons_zero, List.getElem_cons_succ, List.setIfInBounds_toArray, List.set_cons_zero, List.set_cons_succ])
          generalize hgU : x1.heap.size = gU at *
          generalize x1.alloc (.cells (m4 nilS nilS nilS nilS) 34) = x2 at *
          refine wpAnyH_ready (rs := [1]) (by kernel_rfl) (by simp) ?_
          refine AllReadyH.cons rfl (fun K hK => ?_) AllReadyH.nil
          go_simp
          refine (s_l7Own a b c d h1 cs1 _ A1.out Z1.out (small_good HG1'.out) (by have := HG1'.out.n; have := HLC1.out; omega)).mono ?_
          rintro e y1 ⟨a1, b1, c1, d1, rfl, ho1, hb1⟩
          have LX : Hid (x0.heap.size ≤ x2.heap.size) := L1.out.size
          replace M1 := Lib.hid (show RowM _ _ _ _ _ _ from Row.below M1.out hb1); replace V1 := Lib.hid (Row.below V1.out hb1)
          replace L1 := Lib.hid (bst L1.out hb1 L1.out.size)
          replace U1 := Lib.hid (show RowM _ _ _ _ _ _ from Row.below U1.out hb1)
          have LOI : Hid (x2.heap.size ≤ y1.heap.size) := hb1.size
          have O1 := Lib.hid ho1
          refine hK.out _ _ ⟨M1.out.cell 0, M1.out.cell 1, M1.out.cell 2, M1.out.cell 3, V1.out.cell 0, V1.out.cell 1, V1.out.cell 2, V1.out.cell 3⟩ (fun hHeld => ?_)
          clear hK K hb1 ho1 A1 Z1
          (try simp only [Act.put, List.getElem_toArray, List.getElem_cons_zero, List.getElem_cons_succ, List.setIfInBounds_toArray, List.set_cons_zero, List.set_cons_succ])
          generalize x2.heap.size = lo at *
          refine wpAnyH_ready (rs := [4]) (by kernel_rfl) (by simp) ?_
          refine AllReadyH.cons rfl (fun K hK => ?_) AllReadyH.nil
          have HIS := Nat.le_refl y1.heap.size
          go_simp
          refine (HS.out lo y1.heap.size a1 b1 c1 d1 _ O1.out (by have := LOI.out; omega) HIS).mono ?_
          rintro e y2 ⟨a2, b2, c2, d2, rfl, one2, hz2, hc2⟩
          have ONE := Lib.hid one2
          have LOX : Hid (x0.heap.size ≤ lo) := (by unfold Hid; have := LX.out; have := GLO.out; omega)
          replace M1 := Lib.hid (show RowM _ _ _ _ _ _ from Row.chg M1.out hc2 (.inl (by have := GM.out; have := GV.out; have := L1.out.size; have := LOX.out; omega))); replace V1 := Lib.hid (Row.chg V1.out hc2 (.inl (by have := GM.out; have := GV.out; have := L1.out.size; have := LOX.out; omega)))
          replace L1 := Lib.hid (below_chg L1.out hc2 LOX.out L1.out.size)
          have U2 := Lib.hid (show RowM _ _ _ _ _ _ from Row.chg U1.out hc2 (.inl (by have := GLO.out; omega))); clear U1; have U1 := U2; clear U2
          have HZ5 : Hid (sk = true → ∀ w'' : World, (∀ i, x0.heap.size ≤ i → i < (y2.setRow gU (m4 a2 b2 c2 d2)).heap.size → w''.heap[i]? = (y2.setRow gU (m4 a2 b2 c2 d2)).heap[i]?) → (y2.setRow gU (m4 a2 b2 c2 d2)).heap.size ≤ w''.heap.size → HeapAt w'' a2 b2 c2 SH ∧ IntsAt w'' d2 SC) := fun q w'' hh hs => stayM (hz2 q) (fun i hi hy => by
            have hlx := LX.out; have hlo := LOI.out; have hgs := GLO.out
            rw [hh i (by omega) (by rw [size_setRow]; exact hy), setRow_other _ _ i _ (by omega)]) (by rw [size_setRow] at hs; exact hs)
          refine hK.out _ _ ⟨M1.out.cell 0, M1.out.cell 1, M1.out.cell 2, M1.out.cell 3, V1.out.cell 0, V1.out.cell 1, V1.out.cell 2, V1.out.cell 3⟩ (fun hHeld => ?_)
          clear hK K hc2 one2 O1 hz2
          (try simp only [Act.put, List.getElem_toArray, List.getElem_cons_zero, List.getElem_cons_succ, List.setIfInBounds_toArray, List.set_cons_zero, List.set_cons_succ])
          refine wpAnyH_take (i := 5) (v := ?va5x12) rfl (by kernel_rfl) (by kernel_rfl) (by kernel_rfl) (fun _ _ _ h => h) (Or.inl ⟨by rfl, ?hy5x12⟩) (by assumption) ?rest5x12
          case hy5x12 => (intro w hSw; (try dsimp only at hSw); go_simp; try with_reducible rfl)
          (try simp only [Act.put, List.getElem_toArray, List.getElem_cons_zero, List.getElem_cons_succ, List.setIfInBounds_toArray, List.set_cons_zero, List.set_cons_succ])
          refine wpAnyH_take (i := 6) (v := ?va6x13) rfl (by kernel_rfl) (by kernel_rfl) (by kernel_rfl) (fun _ _ _ h => h) (Or.inl ⟨by rfl, ?hy6x13⟩) (by assumption) ?rest6x13
          case hy6x13 => (intro w hSw; (try dsimp only at hSw); go_simp; try with_reducible rfl)
          (try simp only [Act.put, List.getElem_toArray, List.getElem_cons_zero, List.getElem_cons_succ, List.setIfInBounds_toArray, List.set_cons_zero, List.set_cons_succ])
          refine wpAnyH_take (i := 7) (v := ?va7x14) rfl (by kernel_rfl) (by kernel_rfl) (by kernel_rfl) (fun _ _ _ h => h) (Or.inl ⟨by rfl, ?hy7x14⟩) (by assumption) ?rest7x14
          case hy7x14 => (intro w hSw; (try dsimp only at hSw); go_simp; try with_reducible rfl)
          (try simp only [Act.put, List.getElem_toArray, List.getElem_cons_zero, List.getElem_cons_succ, List.setIfInBounds_toArray, List.set_cons_zero, List.set_cons_succ])
          have GN := GU.out
          have n1 : gU ≠ gm := by have := GM.out; omega
          have n2 : gU ≠ gv := by have := GV.out; omega
          have M5 := Lib.hid (show RowM _ _ _ _ _ _ from Row.putOther M1.out (m4 a2 b2 c2 d2) (Ne.symm n1)); have V5 := Lib.hid (Row.putOther V1.out (m4 a2 b2 c2 d2) (Ne.symm n2))
          have U5 := Lib.hid (Row.put U1.out (m4 a2 b2 c2 d2))
          have L5 := Lib.hid (below_setRow L1.out (by omega : x0.heap.size ≤ gU) (m4 a2 b2 c2 d2))
          refine wpAnyH_ready (rs := [9]) (by kernel_rfl) (by simp) ?_
          refine AllReadyH.cons rfl (fun K hK => ?_) AllReadyH.nil
          refine wp_store_row 34 _ _ rfl gU (m4 a2 b2 c2 d2) rfl rfl 34 _ U1.out info_marking rfl (by obtain ⟨z1, z2, z3, z4⟩ := ONE.out; simp [z1, z2, z3, z4]) ?_
          refine hK.out _ _ ⟨M5.out.cell 0, M5.out.cell 1, M5.out.cell 2, M5.out.cell 3, V5.out.cell 0, V5.out.cell 1, V5.out.cell 2, V5.out.cell 3⟩ (fun hHeld => ?_)
          clear hK K
          (try simp only [Act.put, List.getElem_toArray, List.getElem_cons_zero, List.getElem_cons_succ])
          refine wpAnyH_take (i := 10) (v := ?va10x15) rfl (by kernel_rfl) (by kernel_rfl) (by kernel_rfl) (fun _ _ _ h => h) (Or.inl ⟨by rfl, ?hy10x15⟩) (by assumption) ?rest10x15
          case hy10x15 => (intro w hSw; (try dsimp only at hSw); go_simp; try with_reducible rfl)
          (try simp only [Act.put, List.getElem_toArray, List.getElem_cons_zero, List.getElem_cons_succ, List.setIfInBounds_toArray, List.set_cons_zero, List.set_cons_succ])
          refine wpAnyH_done (by kernel_rfl) ?_ _
          go_wp2_with fail
          go_meet
          case rel => exact ⟨gU, a2, b2, c2, d2, rfl, rfl, ONE.out, Lib.hid ⟨U5.out, L5.out, GN, HZ5.out⟩⟩
      case rest =>
        obtain ⟨gU, a7, b7, c7, d7, rfl, rfl, ⟨o1, o2, o3, o4⟩, HT⟩ := hcut
        have lb := HT.out.l
        have M2 := Lib.hid (show RowM wc _ _ _ _ _ from Row.below M1.out lb); have S2 := Lib.hid (Stab.below ST1.out lb)
        have D2 := Lib.hid (OwnBs.below D1.out lb); have R2 := Lib.hid (show RowM wc _ _ _ _ _ from Row.below R1.out lb); have B2 := Lib.hid (bst B1.out lb B1.out.size)
        have D1L := D1
        clear lb M1 A1 Z1 ST1 D1 R1 B1 V1 HS
        cases sk
        · have HPT := Lib.hid (HNO.out (by first | rfl | trivial))
          go_upto_region 11 with fail
          have HSB := Lib.hid (src_bool9 wc false)
          have bb := below1 wc (.cells #[.bool false] 4)
          have DX := Lib.hid (OwnBs.below D2.out bb); have BX := Lib.hid (bst B2.out bb B2.out.size)
          have MX := Lib.hid (show RowM _ _ _ _ _ _ from Row.below M2.out bb); have SX := Lib.hid (Stab.below S2.out bb); have RX := Lib.hid (show RowM _ _ _ _ _ _ from Row.below R2.out bb)
          have LDS : Hid (ds.length ≤ 60) := by unfold Hid; rw [HLK.out]; omega
          clear bb
          clear HT M2 S2 D2 R2 B2
          go_wp2_with (at_builtin; refine wl_appOwn _ rfl _ _ 23 rfl w.heap.size 4 ib (.bool false) 1 Try.underlying23 hib hbz0 hbz1 hbz2 rfl u11 _ _ rfl DX.out _ _ rfl HSB.out (by have := LDS.out; simp; unfold maxLen; omega) (by have := LDS.out; simp; omega) BX.out.size ?_; intro v4 x4 ho4 hg4 hbl; have HO4 := Lib.hid ho4; have HG4 := Lib.hid hg4; have HB4 := Lib.hid hbl; clear ho4 hg4 hbl)
          have O4 : Hid (OwnBs x4 w.heap.size v4 (ds ++ [false])) := by
            have := HO4.out
            unfold Hid OwnBs
            rw [List.map_append, List.length_append]; exact this
          obtain ⟨f1, f4, f5⟩ := round9 HG4.out DX.out MX.out RX.out BX.out
          have F1 := Lib.hid f1; have F2 := Lib.hid (Stab.app (t' := v4) SX.out HG4.out (HB4.out.imp Eq.symm id)); have F4 := Lib.hid f4; have F5 := Lib.hid f5
          clear f1 f4 f5 HG4 HO4 HB4
          go_roundw
          case rel => exact ⟨k + 1, by omega, by go_num, a, b, c, d, hone, F1, by rw [HPT.out]; exact F2, by rw [HPT.out]; exact O4, F4, F5⟩
          case measure => simp [intOf]; omega
        · have HPT := Lib.hid (HY.out (by first | rfl | trivial))
          have u0 := HT.out.u.cell 0
          have u1 := HT.out.u.cell 1
          have u2 := HT.out.u.cell 2
          have u3 := HT.out.u.cell 3
          have hgx := Row.lt M2.out
          have S3 := Lib.hid (show Stab (wc.setRow gm (m4 a7 b7 c7 d7)) u11 a7 b7 c7 d7 SH SC from fun w'' hh hs => HT.out.z (by first | rfl | trivial) w'' (fun i hi hl => by
            have hgm := GM.out
            rw [hh i (fun q => by have := (owns_lt D1L.out q).2; omega) (by rw [size_setRow]; exact hl), setRow_other _ _ i _ (by omega)]) (by rw [size_setRow] at hs; exact hs))
          have M3 := Lib.hid (show RowM (wc.setRow gm (m4 a7 b7 c7 d7)) gm a7 b7 c7 d7 from Row.put M2.out (m4 a7 b7 c7 d7))
          have D3 := Lib.hid (show OwnBs (wc.setRow gm (m4 a7 b7 c7 d7)) w.heap.size _ ds from owns_block D2.out (fun g hg => setRow_other _ _ g _ (fun q => ne_rowB9 D2.out M2.out (by decide) (q ▸ hg))))
          have R3 := Lib.hid (show RowM (wc.setRow gm (m4 a7 b7 c7 d7)) _ _ _ _ _ from Row.putOther R2.out (m4 a7 b7 c7 d7) (show w.heap.size + 1 ≠ gm by have := GMW.out; omega))
          have B3 := Lib.hid (below_setRow B2.out (show w.heap.size ≤ gm by have := GMW.out; omega) (m4 a7 b7 c7 d7))
          clear hgx S2 D2 R2 B2
          go_upto_region 11 with (refine wl_storeM rfl _ _ rfl gm a7 b7 c7 d7 _ _ _ _ M2.out rfl rfl o1 o2 o3 o4 ?_)
          clear u0 u1 u2 u3 HT M2
          generalize wc.setRow gm (m4 a7 b7 c7 d7) = wd at *
          have HSB := Lib.hid (src_bool9 wd true)
          have bb := below1 wd (.cells #[.bool true] 4)
          have DX := Lib.hid (OwnBs.below D3.out bb); have BX := Lib.hid (bst B3.out bb B3.out.size)
          have MX := Lib.hid (show RowM _ _ _ _ _ _ from Row.below M3.out bb); have SX := Lib.hid (Stab.below S3.out bb); have RX := Lib.hid (show RowM _ _ _ _ _ _ from Row.below R3.out bb)
          have LDS : Hid (ds.length ≤ 60) := by unfold Hid; rw [HLK.out]; omega
          clear bb
          clear M3 S3 D3 R3 B3
          go_wp2_with (at_builtin; refine wl_appOwn _ rfl _ _ 23 rfl w.heap.size 4 ib (.bool false) 1 Try.underlying23 hib hbz0 hbz1 hbz2 rfl u11 _ _ rfl DX.out _ _ rfl HSB.out (by have := LDS.out; simp; unfold maxLen; omega) (by have := LDS.out; simp; omega) BX.out.size ?_; intro v4 x4 ho4 hg4 hbl; have HO4 := Lib.hid ho4; have HG4 := Lib.hid hg4; have HB4 := Lib.hid hbl; clear ho4 hg4 hbl)
          have O4 : Hid (OwnBs x4 w.heap.size v4 (ds ++ [true])) := by
            have := HO4.out
            unfold Hid OwnBs
            rw [List.map_append, List.length_append]; exact this
          obtain ⟨f1, f4, f5⟩ := round9 HG4.out DX.out MX.out RX.out BX.out
          have F1 := Lib.hid f1; have F2 := Lib.hid (Stab.app (t' := v4) SX.out HG4.out (HB4.out.imp Eq.symm id)); have F4 := Lib.hid f4; have F5 := Lib.hid f5
          clear f1 f4 f5 HG4 HO4 HB4
          go_roundw
          case rel => exact ⟨k + 1, by omega, by go_num, a7, b7, c7, d7, ⟨o1, o2, o3, o4⟩, F1, by rw [HPT.out]; exact F2, by rw [HPT.out]; exact O4, F4, F5⟩
          case measure => simp [intOf]; omega
    · obtain rfl : k = n := by omega
      have HBB := Lib.hid (bothB_iff.1 (HBK.out k))
      have hG := HBB.out.1
      have m0 := hm.out.cell 0
      have m1 := hm.out.cell 1
      have m2 := hm.out.cell 2
      have m3 := hm.out.cell 3
      have HCL : Hid ((playTo put (SH0, startC SH0) ms k).1.2.length ≤ 13) := by unfold Hid; have := hG.n; have := HBB.out.2.1; omega
      have HSM := Lib.hid (small_good hG)
      clear hG
      go_wp2_with fail
      refine (s_l7Own a b c d _ _ _ hst.out.reads.1 hst.out.reads.2 HSM.out HCL.out).mono ?_
      rintro e w7 ⟨a8, b8, c8, d8, rfl, om, hb7⟩
      obtain ⟨⟨p1, q1, e1⟩, ⟨p2, q2, e2⟩, ⟨p3, q3, e3⟩, ⟨p4, q4, e4⟩⟩ := om.shapes
      have SZ : Hid (w.heap.size + 1 < wr.heap.size) := Row.lt hre.out
      have OM := Lib.hid (om.whole (w.heap.size + 1) SZ.out (m4 a8 b8 c8 d8))
      have L7 := Lib.hid (bst hbe.out hb7 hbe.out.size)
      have R7 := Lib.hid (show RowM _ _ _ _ _ _ from Row.below hre.out hb7)
      have D7 := Lib.hid (OwnBs.below hdi.out hb7)
      have D8 := Lib.hid (show OwnBs (w7.setRow (w.heap.size + 1) (m4 a8 b8 c8 d8)) w.heap.size _ _ from owns_block D7.out (fun g hg => setRow_other _ _ g _ (fun q => ne_rowB9 D7.out R7.out (by decide) (q ▸ hg))))
      have S7 : Hid (wr.heap.size ≤ w7.heap.size) := hb7.size
      have HDB : Hid (∀ g, u11.ownBlock = some g → g < wr.heap.size) := fun g hg => (owns_lt hdi.out hg).2
      subst e1 e2 e3 e4
      clear om hb7 m0 m1 m2 m3
      generalize (playTo put (SH0, startC SH0) ms k).1.1.f.length = n1 at *
      generalize (playTo put (SH0, startC SH0) ms k).1.1.l.length = n2 at *
      generalize (playTo put (SH0, startC SH0) ms k).1.1.r.length = n3 at *
      generalize (playTo put (SH0, startC SH0) ms k).1.2.length = n4 at *
      go_wp2_with (refine wl_storeM rfl _ _ rfl (w.heap.size + 1) (.slice p1 n1 q1) (.slice p2 n2 q2) (.slice p3 n3 q3) (.slice p4 n4 q4) _ _ _ _ R7.out rfl rfl rfl rfl rfl rfl ?_)
      refine bodyPost_ret (res_row_slot2 Try.results27 (Row.put R7.out (m4 (.slice p1 n1 q1) (.slice p2 n2 q2) (.slice p3 n3 q3) (.slice p4 n4 q4))) rfl rfl rfl Try.underlying34 rfl info_marking) rfl (endMM_yes (below_setRow L7.out (by omega) _) OM.out (by have := SZ.out; omega) S7.out (by rw [size_setRow]; exact Nat.le_refl _) D8.out HDB.out HE1.out HE2.out HE3.out HE.out)
end Go.Proofs.Ytbmfkgfmibpkjaa
namespace Go.Proofs.Ytbmfkgfmibpkjaa.Ph
/-- The answers so far, the rest false. -/
def padB (ds : List Bool) (n : Nat) : List Bool := ds ++ List.replicate (n - ds.length) false
theorem padB_nil (n : Nat) : padB [] n = List.replicate n false := by simp [padB]
theorem padB_len {ds : List Bool} {n : Nat} (h : ds.length ≤ n) : (padB ds n).length = n := by simp [padB]; omega
theorem padB_set {ds : List Bool} {n k : Nat} {x : Bool} (h : ds.length = k) (hk : k < n) : (padB ds n).set k x = padB (ds ++ [x]) n := by
  unfold padB
  have e2 : (ds ++ [x]).length = k + 1 := by simp [h]
  rw [List.set_append_right k _ (by omega), e2, h, Nat.sub_self]
  have e : n - k = (n - (k + 1)) + 1 := by omega
  rw [e, List.replicate_succ, List.set_cons_zero, List.append_assoc]; rfl
theorem padB_all {ds : List Bool} {n : Nat} (h : ds.length = n) : padB ds n = ds := by simp [padB, h]
end Go.Proofs.Ytbmfkgfmibpkjaa.Ph
namespace Go.Proofs.Ytbmfkgfmibpkjaa
open Go.RowKit Ph
structure PlayW (w wr : World) (gm gd n : Nat) (a b c d : Value) (lo hi : Nat) (h : H) (cs : List Int) (ds : List Bool) : Prop where
  m : RowM wr gm a b c d
  own : OwnM wr lo hi a b c d h cs
  did : OwnBs wr w.heap.size (.slice (some ⟨gd, 0, none⟩) n n) (padB ds n)
  r : RowM wr (w.heap.size + 1) nilS nilS nilS nilS
  b : Below w.heap.size w wr
  l1 : w.heap.size + 2 ≤ lo
  l2 : lo ≤ hi
  l3 : hi ≤ wr.heap.size
  fm : gm < lo ∨ hi ≤ gm
  fd : gd < lo ∨ hi ≤ gd
  gm1 : w.heap.size + 2 ≤ gm
structure TellI (x0 x : World) (g : Nat) (a b c d : Value) (lo hi : Nat) (sk : Bool) (SH : H) (SC : List Int) : Prop where
  u : RowM x g a b c d
  l : Below x0.heap.size x0 x
  o : OwnM x lo hi a b c d (outH sk SH) (outC sk SC)
  l1 : x0.heap.size ≤ lo
  l2 : lo ≤ hi
  l3 : hi ≤ x.heap.size
section
variable {w wr x : World} {gm gd n : Nat} {a b c d : Value} {lo hi : Nat} {h : H} {cs : List Int} {ds : List Bool}
theorem PlayW.below (k : PlayW w wr gm gd n a b c d lo hi h cs ds) (hb : Below wr.heap.size wr x) : PlayW w x gm gd n a b c d lo hi h cs ds where
  m := Row.below k.m hb
  own := k.own.below hb
  did := OwnBs.below k.did hb
  r := Row.below k.r hb
  b := bst k.b hb k.b.size
  l1 := k.l1
  l2 := k.l2
  l3 := Nat.le_trans k.l3 hb.size
  fm := k.fm
  fd := k.fd
  gm1 := k.gm1
theorem PlayW.cell (k : PlayW w wr gm gd n a b c d lo hi h cs ds) {j : Nat} (hl : ds.length = j) (hj : j < n) : (∃ y : Bool, wr.cell? ⟨gd, j, none⟩ = some (.bool y)) ∧ wr.frozen? ⟨gd, j, none⟩ = false := by
  obtain ⟨_, _, s3, s4⟩ := OwnBs.stored k.did (padB_len (by omega)) hj false
  exact ⟨⟨_, s3⟩, s4⟩
theorem PlayW.told (k : PlayW w wr gm gd n a b c d lo hi h cs ds) {j : Nat} (hl : ds.length = j) (hj : j < n) (y : Bool) : PlayW w (wr.setCell ⟨gd, j, none⟩ (.bool y)) gm gd n a b c d lo hi h cs (ds ++ [y]) := by
  obtain ⟨s1, s2, s3, s4⟩ := OwnBs.stored k.did (padB_len (by omega)) hj y
  rw [padB_set hl hj] at s1
  have hc : Chg gd (gd + 1) wr (wr.setCell ⟨gd, j, none⟩ (.bool y)) := Chg.of_grown s2 fun g e => by cases e; omega
  have hd := k.fd
  exact { m := Row.grownBy k.m s2 (ne_rowB9 k.did k.m (by decide))
          own := k.own.chg hc (by omega)
          did := s1
          r := Row.grownBy k.r s2 (ne_rowB9 k.did k.r (by decide))
          b := k.b.grown s2 k.b.size fun g e => by cases e; exact (owns_lt k.did rfl).1
          l1 := k.l1
          l2 := k.l2
          l3 := Nat.le_trans k.l3 s2.size
          fm := k.fm
          fd := k.fd
          gm1 := k.gm1 }
theorem PlayW.yes {x0 wk : World} {gU : Nat} {a7 b7 c7 d7 : Value} {lo7 hi7 : Nat} {SH : H} {SC : List Int} (k : PlayW w x0 gm gd n a b c d lo hi h cs ds) (t : TellI x0 wk gU a7 b7 c7 d7 lo7 hi7 true SH SC) : PlayW w (wk.setRow gm (m4 a7 b7 c7 d7)) gm gd n a7 b7 c7 d7 lo7 hi7 SH SC ds := by
  have q := k.below t.l
  have hgm := Row.lt k.m
  have hgd := (owns_lt k.did (g := gd) rfl).2
  have h1 := t.l1
  have h2 := k.l3
  have h3 := k.l2
  have h4 := k.l1
  have h5 := k.gm1
  have hn : gd ≠ gm := fun e => ne_rowB9 k.did k.m (by decide) (congrArg some e)
  exact { m := Row.put q.m _
          own := OwnM.whole (show OwnM wk lo7 hi7 a7 b7 c7 d7 SH SC from t.o) gm (by omega) _
          did := owns_block q.did fun g e => setRow_other _ _ g _ (fun e2 => by cases e; exact hn e2)
          r := Row.putOther q.r _ (by omega)
          b := below_setRow q.b (by omega) _
          l1 := by omega
          l2 := t.l2
          l3 := by rw [size_setRow]; exact t.l3
          fm := .inl (by omega)
          fd := .inl (by omega)
          gm1 := h5 }
theorem PlayW.last (k : PlayW w wr gm gd n a b c d lo hi h cs ds) (hl : ds.length = n) (X : Array Value) : Below w.heap.size w (wr.setRow (w.heap.size + 1) X) ∧ OwnM (wr.setRow (w.heap.size + 1) X) lo hi a b c d h cs ∧ w.heap.size ≤ lo ∧ lo ≤ hi ∧ hi ≤ (wr.setRow (w.heap.size + 1) X).heap.size ∧ OwnBs (wr.setRow (w.heap.size + 1) X) w.heap.size (.slice (some ⟨gd, 0, none⟩) n n) ds ∧ (∀ g, (Value.slice (some ⟨gd, 0, none⟩) n n).ownBlock = some g → g < lo ∨ hi ≤ g) := by
  have h4 := k.l1
  have hn : gd ≠ w.heap.size + 1 := fun e => ne_rowB9 k.did k.r (by decide) (congrArg some e)
  refine ⟨below_setRow k.b (by omega) _, k.own.whole _ (by omega) _, by omega, k.l2, by rw [size_setRow]; exact k.l3, ?_, fun g e => by cases e; exact k.fd⟩
  have q : OwnBs (wr.setRow (w.heap.size + 1) X) w.heap.size (.slice (some ⟨gd, 0, none⟩) n n) (padB ds n) := owns_block k.did fun g e => setRow_other _ _ g _ (fun e2 => by cases e; exact hn e2)
  rw [padB_all hl] at q
  exact q
end
end Go.Proofs.Ytbmfkgfmibpkjaa
namespace Go.Proofs.Ytbmfkgfmibpkjaa
open Go.RowKit Ph
set_option maxHeartbeats 25600000 in
set_option maxRecDepth 100000 in
theorem c_PlayMarking_false (a b c v : Value) (h : H) (ms : List Mv) (w : World) (hA : HeapAt w a b c h) (hM : MovesAt w v ms) :
    Calls Try.prog 30 #[hv a b c, v, .bool false] w (EndMM (playH h ms false) (playC h ms false) (playD h ms false) (playOk h ms) w) := by
  obtain ⟨ib, hib, hbz0, hbz1, hbz2⟩ := info_parts info_boolz
  have b0 := (below1 w (.cells (c3 a b c) 32)).alloc (by simp) (.cells (m4 nilS nilS nilS nilS) 34)
  have A0 := Lib.hid (hA.below b0); have B0 := Lib.hid b0
  have R0 := Lib.hid (show RowM _ (w.heap.size + 1) nilS nilS nilS nilS from Row.new1 w (.cells (c3 a b c) 32) 34 (m4 nilS nilS nilS nilS))
  have P0 := Lib.hid (show RowH _ w.heap.size a b c from (Row.new w 32 (c3 a b c)).alloc (.cells (m4 nilS nilS nilS nilS) 34))
  have HST := Lib.hid (c_StartMarking a b c h _ A0.out)
  have HOK : Hid (playOk h ms = (good h && decide (ms.length ≤ 60))) := rfl
  have HPH : Hid (playH h ms false = if playOk h ms = true then (playTo false (h, startC h) ms ms.length).1.1 else ⟨[], [], []⟩) := rfl
  have HPC : Hid (playC h ms false = if playOk h ms = true then (playTo false (h, startC h) ms ms.length).1.2 else []) := rfl
  have HPD : Hid (playD h ms false = if playOk h ms = true then (playTo false (h, startC h) ms ms.length).2 else []) := rfl
  have HG1 := Lib.hid (good_iff (h := h)).1
  have HSH : Hid (good h = true → startH h = h) := fun q => by unfold startH; rw [q]; rfl
  have HSR : Hid (good h = true → startR h = startC h) := fun q => startR_yes q
  have HBG : Hid (Ph.Good h → ∀ k, bothB (playTo false (h, startC h) ms k).1.1 (playTo false (h, startC h) ms k).1.2 = true) := fun g => playTo_good (put := false) (m := (h, startC h)) (ms := ms) (start_both g)
  have HLN := Lib.hid (playTo_len false (h, startC h) ms)
  obtain ⟨la, lc, rfl, hmc⟩ := hM
  have HMC := Lib.hid hmc
  clear hA b0 hmc
  generalize playH h ms false = RH at *
  generalize playC h ms false = RC at *
  generalize playD h ms false = RD at *
  generalize playOk h ms = ok at *
  generalize startH h = SH0 at *
  generalize startR h = SR0 at *
  generalize hn : ms.length = n at *
  have HN := Lib.hid hn; clear hn
  have p0 := P0.out.c0
  have p1 := P0.out.c1
  have p2 := P0.out.c2
  go_enter Try.func30, Try.ntmps30
  go_wp2_with fail
  refine HST.out.mono ?_
  rintro e w1 ⟨a0, b0, c0, d0, rfl, om, hb⟩
  have OM0 : Hid (OwnM w1 (w.heap.size + 2) w1.heap.size a0 b0 c0 d0 SH0 SR0) := om.wide (by simp) (Nat.le_refl _)
  have SW1 : Hid (w.heap.size + 2 ≤ w1.heap.size) := by unfold Hid; have := hb.size; simp at this; omega
  obtain ⟨⟨z1, y1, e1⟩, ⟨z2, y2, e2⟩, ⟨z3, y3, e3⟩, ⟨z4, y4, e4⟩⟩ := om.shapes
  replace B0 := Lib.hid (bst B0.out hb B0.out.size); replace R0 := Lib.hid (show RowM _ _ _ _ _ _ from Row.below R0.out hb)
  subst e1 e2 e3 e4
  clear om hb p0 p1 p2 HST A0 P0
  generalize SH0.f.length = l1 at *
  generalize SH0.l.length = l2 at *
  generalize SH0.r.length = l3 at *
  generalize SR0.length = l4 at *
  have hb := below1 w1 (.cells (m4 (.slice z1 l1 y1) (.slice z2 l2 y2) (.slice z3 l3 y3) (.slice z4 l4 y4)) 34)
  have M0 := Lib.hid (show RowM (w1.alloc (.cells (m4 (.slice z1 l1 y1) (.slice z2 l2 y2) (.slice z3 l3 y3) (.slice z4 l4 y4)) 34)) w1.heap.size (.slice z1 l1 y1) (.slice z2 l2 y2) (.slice z3 l3 y3) (.slice z4 l4 y4) from Row.new w1 _ _)
  replace B0 := Lib.hid (bst B0.out hb B0.out.size); replace R0 := Lib.hid (show RowM _ _ _ _ _ _ from Row.below R0.out hb)
  replace OM0 := Lib.hid (OwnM.below OM0.out hb)
  clear hb
  generalize hgx : good h = gx at *
  have HGD := Lib.hid hgx; clear hgx
  cases gx
  · have HE : Hid (ok = false) := by unfold Hid; rw [HOK.out]; rfl
    have HE1 : Hid (RH = ⟨[], [], []⟩) := by unfold Hid; rw [HPH.out, HE.out]; rfl
    have HE2 : Hid (RC = []) := by unfold Hid; rw [HPC.out, HE.out]; rfl
    have HE3 : Hid (RD = []) := by unfold Hid; rw [HPD.out, HE.out]; rfl
    go_wp2_with (refine wl_storeM rfl _ _ rfl (w.heap.size + 1) nilS nilS nilS nilS _ _ _ _ R0.out rfl rfl rfl rfl rfl rfl ?_)
    refine bodyPost_ret (res_row_slot2 Try.results30 (Row.put R0.out (m4 nilS nilS nilS nilS)) rfl rfl rfl Try.underlying34 rfl info_marking) rfl (endMM_none (below_setRow B0.out (by omega) _) HE1.out HE2.out HE3.out HE.out)
  have HG := Lib.hid (HG1.out (by first | rfl | trivial))
  have HSH1 := Lib.hid (HSH.out (by first | rfl | trivial))
  have HSR1 := Lib.hid (HSR.out (by first | rfl | trivial))
  by_cases h60 : n ≤ 60
  case neg =>
    have HE : Hid (ok = false) := by unfold Hid; rw [HOK.out, decide_eq_false h60]; rfl
    have HE1 : Hid (RH = ⟨[], [], []⟩) := by unfold Hid; rw [HPH.out, HE.out]; rfl
    have HE2 : Hid (RC = []) := by unfold Hid; rw [HPC.out, HE.out]; rfl
    have HE3 : Hid (RD = []) := by unfold Hid; rw [HPD.out, HE.out]; rfl
    have i1 : (60 : Int) < (n : Int) := by omega
    go_wp2_with (refine wl_storeM rfl _ _ rfl (w.heap.size + 1) nilS nilS nilS nilS _ _ _ _ R0.out rfl rfl rfl rfl rfl rfl ?_)
    refine bodyPost_ret (res_row_slot2 Try.results30 (Row.put R0.out (m4 nilS nilS nilS nilS)) rfl rfl rfl Try.underlying34 rfl info_marking) rfl (endMM_none (below_setRow B0.out (by omega) _) HE1.out HE2.out HE3.out HE.out)
  have HE : Hid (ok = true) := by unfold Hid; rw [HOK.out, decide_eq_true h60]; rfl
  have HE1 : Hid (RH = (playTo false (h, startC h) ms n).1.1) := by unfold Hid; rw [HPH.out, HE.out]; rfl
  have HE2 : Hid (RC = (playTo false (h, startC h) ms n).1.2) := by unfold Hid; rw [HPC.out, HE.out]; rfl
  have HE3 : Hid (RD = (playTo false (h, startC h) ms n).2) := by unfold Hid; rw [HPD.out, HE.out]; rfl
  have HBK := Lib.hid (HBG.out HG.out)
  have hs1 := HSH1.out; have hs2 := HSR1.out
  subst hs1
  have i1 : ¬ (60 : Int) < (n : Int) := by omega
  go_upto_region 7 with fail
  generalize hgm : w1.heap.size = gm at *
  have GMS : Hid (gm < (w1.alloc (.cells (m4 (.slice z1 l1 y1) (.slice z2 l2 y2) (.slice z3 l3 y3) (.slice z4 l4 y4)) 34)).heap.size) := by unfold Hid; rw [World.size_alloc]; omega
  clear hgm
  generalize w1.alloc (.cells (m4 (.slice z1 l1 y1) (.slice z2 l2 y2) (.slice z3 l3 y3) (.slice z4 l4 y4)) 34) = wB at *
  have BSZ : w.heap.size ≤ wB.heap.size := B0.out.size
  go_wp2_with (at_make; refine wpList_make_full _ rfl _ _ 23 rfl w.heap.size 4 ib (.bool false) 1 Try.underlying23 hib hbz0 hbz1 .i64 .i64 _ _ n rfl rfl rfl rfl (by rw [hbz2]; omega) (by unfold maxLen; omega) BSZ ?_; intro w2 hown hgr; rw [rep_bools] at hown; have O2 : Hid (OwnBs w2 w.heap.size (.slice (some ⟨wB.heap.size, 0, none⟩) n n) (padB [] n)) := (by { unfold Hid OwnBs; rw [padB_nil, List.length_replicate]; exact hown }); have G2 := Lib.hid ((Below.refl wB.heap.size wB).grown hgr (Nat.le_refl _) (fun k hk => by cases hk)); clear hown hgr)
  have PW : Hid (PlayW w w2 gm wB.heap.size n (.slice z1 l1 y1) (.slice z2 l2 y2) (.slice z3 l3 y3) (.slice z4 l4 y4) (w.heap.size + 2) gm SH0 SR0 []) := by
    have g2 := G2.out
    exact { m := Row.below M0.out g2
            own := OM0.out.below g2
            did := O2.out
            r := Row.below R0.out g2
            b := bst B0.out g2 BSZ
            l1 := Nat.le_refl _
            l2 := SW1.out
            l3 := by have := GMS.out; have := g2.size; omega
            fm := .inr (Nat.le_refl _)
            fd := .inr (by have := GMS.out; omega)
            gm1 := SW1.out }
  clear M0 OM0 O2 G2 R0 B0 GMS SW1 BSZ
  generalize wB.heap.size = gd at *
  go_loopw [36] (fun i wr => ∃ k : Nat, k ≤ n ∧ i = .int .i64 k ∧ ∃ (a b c d : Value) (lo hi : Nat), Hid (PlayW w wr gm gd n a b c d lo hi (playTo false (SH0, startC SH0) ms k).1.1 (playTo false (SH0, startC SH0) ms k).1.2 (playTo false (SH0, startC SH0) ms k).2)) (fun i _ => n - (intOf i).toNat)
  case atStart => exact ⟨0, Nat.zero_le _, rfl, _, _, _, _, _, _, by unfold Hid; have := PW.out; rw [hs2] at this; exact this⟩
  case round =>
    obtain ⟨k, hk, rfl, a, b, c, d, lo, hi, hpw⟩ := hrel
    by_cases hlt : k < n
    · have HY := Lib.hid (fun q => playTo_yes (put := false) (m := (SH0, startC SH0)) (ms := ms) (k := k) q)
      have HNO := Lib.hid (fun q => playTo_no (put := false) (m := (SH0, startC SH0)) (ms := ms) (k := k) q)
      have HLK := Lib.hid (HLN.out k)
      have HBB := Lib.hid (HBK.out k)
      generalize hpt : playTo false (SH0, startC SH0) ms k = pt at *
      clear hpt
      obtain ⟨⟨h1, cs1⟩, ds⟩ := pt
      simp only at HY HNO HLK HBB hpw
      obtain ⟨mb, mo', rfl, hmv⟩ := HMC.out (by omega)
      obtain ⟨q0, q1, q2, q3⟩ := hmv k hlt
      replace q0 := cellBelow hpw.out.b (Nat.le_refl _) q0
      replace q1 := cellBelow hpw.out.b (Nat.le_refl _) q1
      replace q2 := cellBelow hpw.out.b (Nat.le_refl _) q2
      replace q3 := cellBelow hpw.out.b (Nat.le_refl _) q3
      have i2 : (k : Int) < (n : Int) := by omega
      have i3 : (0 : Int) ≤ (k : Int) := by omega
      clear hmv
      generalize ms.getD k ⟨0, 0, 0, 0⟩ = vm at *
      have HSA : Hid (stepA h1 cs1 vm = stepOk h1 cs1 vm) := by unfold Hid stepA; rw [HBB.out]; rfl
      have HS := Lib.hid (fun (a b c d : Value) (x : World) hA hZ => c_StepBySnapshot a b c d h1 cs1 vm x hA hZ)
      obtain ⟨vk, va, vb, vt⟩ := vm
      generalize stepH h1 ⟨vk, va, vb, vt⟩ = SH at *
      generalize stepC h1 cs1 ⟨vk, va, vb, vt⟩ false = SC at *
      generalize stepA h1 cs1 ⟨vk, va, vb, vt⟩ = sa at *
      generalize stepOk h1 cs1 ⟨vk, va, vb, vt⟩ = sk at *
      have hsa := HSA.out
      subst hsa
      have ba := below1 wr (.cells (mo4 ⟨vk, va, vb, vt⟩) 38)
      have V1 := Lib.hid (show Row _ wr.heap.size 38 (mo4 ⟨vk, va, vb, vt⟩) from Row.new wr _ _)
      have P1 := Lib.hid (hpw.out.below ba)
      have c0 := P1.out.m.cell 0
      have c1 := P1.out.m.cell 1
      have c2 := P1.out.m.cell 2
      have c3' := P1.out.m.cell 3
      have A1 := Lib.hid P1.out.own.heap; have Z1 := Lib.hid P1.out.own.cols
      go_wp2_with fail
      refine (HS.out a b c d _ A1.out Z1.out).mono ?_
      rintro e y1 ⟨a7, b7, c7, d7, rfl, om, hb1⟩
      obtain ⟨⟨z5, y5, e1⟩, ⟨z6, y6, e2⟩, ⟨z7, y7, e3⟩, ⟨z8, y8, e4⟩⟩ := om.shapes
      have OM := Lib.hid om; have HB1 := Lib.hid hb1
      subst e1 e2 e3 e4
      clear om hb1 A1 Z1 HS q0 q1 q2 q3 c0 c1 c2 c3' ba hpw
      generalize (outH sa SH).f.length = l5 at *
      generalize (outH sa SH).l.length = l6 at *
      generalize (outH sa SH).r.length = l7 at *
      generalize (outC sa SC).length = l8 at *
      have TI : Hid (TellI (wr.alloc (.cells (mo4 ⟨vk, va, vb, vt⟩) 38)) (y1.alloc (.cells (m4 (.slice z5 l5 y5) (.slice z6 l6 y6) (.slice z7 l7 y7) (.slice z8 l8 y8)) 34)) y1.heap.size (.slice z5 l5 y5) (.slice z6 l6 y6) (.slice z7 l7 y7) (.slice z8 l8 y8) (wr.alloc (.cells (mo4 ⟨vk, va, vb, vt⟩) 38)).heap.size y1.heap.size sa SH SC) := by
        have bz := below1 y1 (.cells (m4 (.slice z5 l5 y5) (.slice z6 l6 y6) (.slice z7 l7 y7) (.slice z8 l8 y8)) 34)
        exact ⟨Row.new y1 _ _, bst HB1.out bz HB1.out.size, OM.out.below bz, Nat.le_refl _, HB1.out.size, bz.size⟩
      clear OM
      cases sa
      · have HPT := Lib.hid (HNO.out (by first | rfl | trivial))
        have P2 := Lib.hid (P1.out.below TI.out.l)
        clear P1 V1 TI
        obtain ⟨⟨y, s3⟩, s4⟩ := P2.out.cell HLK.out hlt
        have P3 := Lib.hid (P2.out.told HLK.out hlt false)
        clear P2
        go_wp2_with fail
        go_roundw
        case rel => exact ⟨k + 1, by omega, by go_num, a, b, c, d, lo, hi, by rw [HPT.out]; exact P3⟩
        case measure => simp [intOf]; omega
      · have HPT := Lib.hid (HY.out (by first | rfl | trivial))
        have P2 := Lib.hid (P1.out.yes TI.out)
        have M2 := Lib.hid (show RowM _ _ _ _ _ _ from Row.below P1.out.m TI.out.l)
        have u0 := TI.out.u.cell 0
        have u1 := TI.out.u.cell 1
        have u2 := TI.out.u.cell 2
        have u3 := TI.out.u.cell 3
        obtain ⟨⟨y, s3⟩, s4⟩ := P2.out.cell HLK.out hlt
        have P3 := Lib.hid (P2.out.told HLK.out hlt true)
        clear P1 V1 TI P2
        go_wp2_with (refine wl_storeM rfl _ _ rfl gm (.slice z5 l5 y5) (.slice z6 l6 y6) (.slice z7 l7 y7) (.slice z8 l8 y8) _ _ _ _ M2.out rfl rfl rfl rfl rfl rfl ?_)
        go_roundw
        case rel => exact ⟨k + 1, by omega, by go_num, _, _, _, _, _, _, by rw [HPT.out]; exact P3⟩
        case measure => simp [intOf]; omega
    · obtain rfl : k = n := by omega
      have HLK := Lib.hid (HLN.out k)
      have PL := Lib.hid (hpw.out.last HLK.out)
      have R7 := Lib.hid hpw.out.r
      obtain ⟨⟨p1, q1, e1⟩, ⟨p2, q2, e2⟩, ⟨p3, q3, e3⟩, ⟨p4, q4, e4⟩⟩ := hpw.out.own.shapes
      have m0 := hpw.out.m.cell 0
      have m1 := hpw.out.m.cell 1
      have m2 := hpw.out.m.cell 2
      have m3 := hpw.out.m.cell 3
      subst e1 e2 e3 e4
      clear hpw
      generalize (playTo false (SH0, startC SH0) ms k).1.1.f.length = n1 at *
      generalize (playTo false (SH0, startC SH0) ms k).1.1.l.length = n2 at *
      generalize (playTo false (SH0, startC SH0) ms k).1.1.r.length = n3 at *
      generalize (playTo false (SH0, startC SH0) ms k).1.2.length = n4 at *
      go_wp2_with (refine wl_storeM rfl _ _ rfl (w.heap.size + 1) (.slice p1 n1 q1) (.slice p2 n2 q2) (.slice p3 n3 q3) (.slice p4 n4 q4) _ _ _ _ R7.out rfl rfl rfl rfl rfl rfl ?_)
      obtain ⟨t1, t2, t3, t4, t5, t6, t7⟩ := PL.out (m4 (.slice p1 n1 q1) (.slice p2 n2 q2) (.slice p3 n3 q3) (.slice p4 n4 q4))
      refine bodyPost_ret (res_row_slot2 Try.results30 (Row.put R7.out (m4 (.slice p1 n1 q1) (.slice p2 n2 q2) (.slice p3 n3 q3) (.slice p4 n4 q4))) rfl rfl rfl Try.underlying34 rfl info_marking) rfl (endMM_out t1 t2 t3 t4 t5 t6 t7 HE1.out HE2.out HE3.out HE.out)
end Go.Proofs.Ytbmfkgfmibpkjaa
namespace Go.Proofs.Ytbmfkgfmibpkjaa
open Go.RowKit Ph
set_option maxHeartbeats 25600000 in
set_option maxRecDepth 100000 in
theorem c_PlayMarking_true (a b c v : Value) (h : H) (ms : List Mv) (w : World) (hA : HeapAt w a b c h) (hM : MovesAt w v ms) :
    Calls Try.prog 30 #[hv a b c, v, .bool true] w (EndMM (playH h ms true) (playC h ms true) (playD h ms true) (playOk h ms) w) := by
  obtain ⟨ib, hib, hbz0, hbz1, hbz2⟩ := info_parts info_boolz
  have b0 := (below1 w (.cells (c3 a b c) 32)).alloc (by simp) (.cells (m4 nilS nilS nilS nilS) 34)
  have A0 := Lib.hid (hA.below b0); have B0 := Lib.hid b0
  have R0 := Lib.hid (show RowM _ (w.heap.size + 1) nilS nilS nilS nilS from Row.new1 w (.cells (c3 a b c) 32) 34 (m4 nilS nilS nilS nilS))
  have P0 := Lib.hid (show RowH _ w.heap.size a b c from (Row.new w 32 (c3 a b c)).alloc (.cells (m4 nilS nilS nilS nilS) 34))
  have HST := Lib.hid (c_StartMarking a b c h _ A0.out)
  have HOK : Hid (playOk h ms = (good h && decide (ms.length ≤ 60))) := rfl
  have HPH : Hid (playH h ms true = if playOk h ms = true then (playTo true (h, startC h) ms ms.length).1.1 else ⟨[], [], []⟩) := rfl
  have HPC : Hid (playC h ms true = if playOk h ms = true then (playTo true (h, startC h) ms ms.length).1.2 else []) := rfl
  have HPD : Hid (playD h ms true = if playOk h ms = true then (playTo true (h, startC h) ms ms.length).2 else []) := rfl
  have HG1 := Lib.hid (good_iff (h := h)).1
  have HSH : Hid (good h = true → startH h = h) := fun q => by unfold startH; rw [q]; rfl
  have HSR : Hid (good h = true → startR h = startC h) := fun q => startR_yes q
  have HBG : Hid (Ph.Good h → ∀ k, bothB (playTo true (h, startC h) ms k).1.1 (playTo true (h, startC h) ms k).1.2 = true) := fun g => playTo_good (put := true) (m := (h, startC h)) (ms := ms) (start_both g)
  have HLN := Lib.hid (playTo_len true (h, startC h) ms)
  obtain ⟨la, lc, rfl, hmc⟩ := hM
  have HMC := Lib.hid hmc
  clear hA b0 hmc
  generalize playH h ms true = RH at *
  generalize playC h ms true = RC at *
  generalize playD h ms true = RD at *
  generalize playOk h ms = ok at *
  generalize startH h = SH0 at *
  generalize startR h = SR0 at *
  generalize hn : ms.length = n at *
  have HN := Lib.hid hn; clear hn
  have p0 := P0.out.c0
  have p1 := P0.out.c1
  have p2 := P0.out.c2
  go_enter Try.func30, Try.ntmps30
  go_wp2_with fail
  refine HST.out.mono ?_
  rintro e w1 ⟨a0, b0, c0, d0, rfl, om, hb⟩
  have OM0 : Hid (OwnM w1 (w.heap.size + 2) w1.heap.size a0 b0 c0 d0 SH0 SR0) := om.wide (by simp) (Nat.le_refl _)
  have SW1 : Hid (w.heap.size + 2 ≤ w1.heap.size) := by unfold Hid; have := hb.size; simp at this; omega
  obtain ⟨⟨z1, y1, e1⟩, ⟨z2, y2, e2⟩, ⟨z3, y3, e3⟩, ⟨z4, y4, e4⟩⟩ := om.shapes
  replace B0 := Lib.hid (bst B0.out hb B0.out.size); replace R0 := Lib.hid (show RowM _ _ _ _ _ _ from Row.below R0.out hb)
  subst e1 e2 e3 e4
  clear om hb p0 p1 p2 HST A0 P0
  generalize SH0.f.length = l1 at *
  generalize SH0.l.length = l2 at *
  generalize SH0.r.length = l3 at *
  generalize SR0.length = l4 at *
  have hb := below1 w1 (.cells (m4 (.slice z1 l1 y1) (.slice z2 l2 y2) (.slice z3 l3 y3) (.slice z4 l4 y4)) 34)
  have M0 := Lib.hid (show RowM (w1.alloc (.cells (m4 (.slice z1 l1 y1) (.slice z2 l2 y2) (.slice z3 l3 y3) (.slice z4 l4 y4)) 34)) w1.heap.size (.slice z1 l1 y1) (.slice z2 l2 y2) (.slice z3 l3 y3) (.slice z4 l4 y4) from Row.new w1 _ _)
  replace B0 := Lib.hid (bst B0.out hb B0.out.size); replace R0 := Lib.hid (show RowM _ _ _ _ _ _ from Row.below R0.out hb)
  replace OM0 := Lib.hid (OwnM.below OM0.out hb)
  clear hb
  generalize hgx : good h = gx at *
  have HGD := Lib.hid hgx; clear hgx
  cases gx
  · have HE : Hid (ok = false) := by unfold Hid; rw [HOK.out]; rfl
    have HE1 : Hid (RH = ⟨[], [], []⟩) := by unfold Hid; rw [HPH.out, HE.out]; rfl
    have HE2 : Hid (RC = []) := by unfold Hid; rw [HPC.out, HE.out]; rfl
    have HE3 : Hid (RD = []) := by unfold Hid; rw [HPD.out, HE.out]; rfl
    go_wp2_with (refine wl_storeM rfl _ _ rfl (w.heap.size + 1) nilS nilS nilS nilS _ _ _ _ R0.out rfl rfl rfl rfl rfl rfl ?_)
    refine bodyPost_ret (res_row_slot2 Try.results30 (Row.put R0.out (m4 nilS nilS nilS nilS)) rfl rfl rfl Try.underlying34 rfl info_marking) rfl (endMM_none (below_setRow B0.out (by omega) _) HE1.out HE2.out HE3.out HE.out)
  have HG := Lib.hid (HG1.out (by first | rfl | trivial))
  have HSH1 := Lib.hid (HSH.out (by first | rfl | trivial))
  have HSR1 := Lib.hid (HSR.out (by first | rfl | trivial))
  by_cases h60 : n ≤ 60
  case neg =>
    have HE : Hid (ok = false) := by unfold Hid; rw [HOK.out, decide_eq_false h60]; rfl
    have HE1 : Hid (RH = ⟨[], [], []⟩) := by unfold Hid; rw [HPH.out, HE.out]; rfl
    have HE2 : Hid (RC = []) := by unfold Hid; rw [HPC.out, HE.out]; rfl
    have HE3 : Hid (RD = []) := by unfold Hid; rw [HPD.out, HE.out]; rfl
    have i1 : (60 : Int) < (n : Int) := by omega
    go_wp2_with (refine wl_storeM rfl _ _ rfl (w.heap.size + 1) nilS nilS nilS nilS _ _ _ _ R0.out rfl rfl rfl rfl rfl rfl ?_)
    refine bodyPost_ret (res_row_slot2 Try.results30 (Row.put R0.out (m4 nilS nilS nilS nilS)) rfl rfl rfl Try.underlying34 rfl info_marking) rfl (endMM_none (below_setRow B0.out (by omega) _) HE1.out HE2.out HE3.out HE.out)
  have HE : Hid (ok = true) := by unfold Hid; rw [HOK.out, decide_eq_true h60]; rfl
  have HE1 : Hid (RH = (playTo true (h, startC h) ms n).1.1) := by unfold Hid; rw [HPH.out, HE.out]; rfl
  have HE2 : Hid (RC = (playTo true (h, startC h) ms n).1.2) := by unfold Hid; rw [HPC.out, HE.out]; rfl
  have HE3 : Hid (RD = (playTo true (h, startC h) ms n).2) := by unfold Hid; rw [HPD.out, HE.out]; rfl
  have HBK := Lib.hid (HBG.out HG.out)
  have hs1 := HSH1.out; have hs2 := HSR1.out
  subst hs1
  have i1 : ¬ (60 : Int) < (n : Int) := by omega
  go_upto_region 7 with fail
  generalize hgm : w1.heap.size = gm at *
  have GMS : Hid (gm < (w1.alloc (.cells (m4 (.slice z1 l1 y1) (.slice z2 l2 y2) (.slice z3 l3 y3) (.slice z4 l4 y4)) 34)).heap.size) := by unfold Hid; rw [World.size_alloc]; omega
  clear hgm
  generalize w1.alloc (.cells (m4 (.slice z1 l1 y1) (.slice z2 l2 y2) (.slice z3 l3 y3) (.slice z4 l4 y4)) 34) = wB at *
  have BSZ : w.heap.size ≤ wB.heap.size := B0.out.size
  go_wp2_with (at_make; refine wpList_make_full _ rfl _ _ 23 rfl w.heap.size 4 ib (.bool false) 1 Try.underlying23 hib hbz0 hbz1 .i64 .i64 _ _ n rfl rfl rfl rfl (by rw [hbz2]; omega) (by unfold maxLen; omega) BSZ ?_; intro w2 hown hgr; rw [rep_bools] at hown; have O2 : Hid (OwnBs w2 w.heap.size (.slice (some ⟨wB.heap.size, 0, none⟩) n n) (padB [] n)) := (by { unfold Hid OwnBs; rw [padB_nil, List.length_replicate]; exact hown }); have G2 := Lib.hid ((Below.refl wB.heap.size wB).grown hgr (Nat.le_refl _) (fun k hk => by cases hk)); clear hown hgr)
  have PW : Hid (PlayW w w2 gm wB.heap.size n (.slice z1 l1 y1) (.slice z2 l2 y2) (.slice z3 l3 y3) (.slice z4 l4 y4) (w.heap.size + 2) gm SH0 SR0 []) := by
    have g2 := G2.out
    exact { m := Row.below M0.out g2
            own := OM0.out.below g2
            did := O2.out
            r := Row.below R0.out g2
            b := bst B0.out g2 BSZ
            l1 := Nat.le_refl _
            l2 := SW1.out
            l3 := by have := GMS.out; have := g2.size; omega
            fm := .inr (Nat.le_refl _)
            fd := .inr (by have := GMS.out; omega)
            gm1 := SW1.out }
  clear M0 OM0 O2 G2 R0 B0 GMS SW1 BSZ
  generalize wB.heap.size = gd at *
  go_loopw [36] (fun i wr => ∃ k : Nat, k ≤ n ∧ i = .int .i64 k ∧ ∃ (a b c d : Value) (lo hi : Nat), Hid (PlayW w wr gm gd n a b c d lo hi (playTo true (SH0, startC SH0) ms k).1.1 (playTo true (SH0, startC SH0) ms k).1.2 (playTo true (SH0, startC SH0) ms k).2)) (fun i _ => n - (intOf i).toNat)
  case atStart => exact ⟨0, Nat.zero_le _, rfl, _, _, _, _, _, _, by unfold Hid; have := PW.out; rw [hs2] at this; exact this⟩
  case round =>
    obtain ⟨k, hk, rfl, a, b, c, d, lo, hi, hpw⟩ := hrel
    by_cases hlt : k < n
    · have HY := Lib.hid (fun q => playTo_yes (put := true) (m := (SH0, startC SH0)) (ms := ms) (k := k) q)
      have HNO := Lib.hid (fun q => playTo_no (put := true) (m := (SH0, startC SH0)) (ms := ms) (k := k) q)
      have HLK := Lib.hid (HLN.out k)
      have HBB := Lib.hid (HBK.out k)
      generalize hpt : playTo true (SH0, startC SH0) ms k = pt at *
      clear hpt
      obtain ⟨⟨h1, cs1⟩, ds⟩ := pt
      simp only at HY HNO HLK HBB hpw
      obtain ⟨mb, mo', rfl, hmv⟩ := HMC.out (by omega)
      obtain ⟨q0, q1, q2, q3⟩ := hmv k hlt
      replace q0 := cellBelow hpw.out.b (Nat.le_refl _) q0
      replace q1 := cellBelow hpw.out.b (Nat.le_refl _) q1
      replace q2 := cellBelow hpw.out.b (Nat.le_refl _) q2
      replace q3 := cellBelow hpw.out.b (Nat.le_refl _) q3
      have i2 : (k : Int) < (n : Int) := by omega
      have i3 : (0 : Int) ≤ (k : Int) := by omega
      clear hmv
      generalize ms.getD k ⟨0, 0, 0, 0⟩ = vm at *
      have HSA : Hid (stepA h1 cs1 vm = stepOk h1 cs1 vm) := by unfold Hid stepA; rw [HBB.out]; rfl
      have HS := Lib.hid (fun (a b c d : Value) (x : World) hA hZ => c_StepByPut a b c d h1 cs1 vm x hA hZ)
      obtain ⟨vk, va, vb, vt⟩ := vm
      generalize stepH h1 ⟨vk, va, vb, vt⟩ = SH at *
      generalize stepC h1 cs1 ⟨vk, va, vb, vt⟩ true = SC at *
      generalize stepA h1 cs1 ⟨vk, va, vb, vt⟩ = sa at *
      generalize stepOk h1 cs1 ⟨vk, va, vb, vt⟩ = sk at *
      have hsa := HSA.out
      subst hsa
      have ba := below1 wr (.cells (mo4 ⟨vk, va, vb, vt⟩) 38)
      have V1 := Lib.hid (show Row _ wr.heap.size 38 (mo4 ⟨vk, va, vb, vt⟩) from Row.new wr _ _)
      have P1 := Lib.hid (hpw.out.below ba)
      have c0 := P1.out.m.cell 0
      have c1 := P1.out.m.cell 1
      have c2 := P1.out.m.cell 2
      have c3' := P1.out.m.cell 3
      have A1 := Lib.hid P1.out.own.heap; have Z1 := Lib.hid P1.out.own.cols
      go_wp2_with fail
      refine (HS.out a b c d _ A1.out Z1.out).mono ?_
      rintro e y1 ⟨a7, b7, c7, d7, rfl, om, hb1⟩
      obtain ⟨⟨z5, y5, e1⟩, ⟨z6, y6, e2⟩, ⟨z7, y7, e3⟩, ⟨z8, y8, e4⟩⟩ := om.shapes
      have OM := Lib.hid om; have HB1 := Lib.hid hb1
      subst e1 e2 e3 e4
      clear om hb1 A1 Z1 HS q0 q1 q2 q3 c0 c1 c2 c3' ba hpw
      generalize (outH sa SH).f.length = l5 at *
      generalize (outH sa SH).l.length = l6 at *
      generalize (outH sa SH).r.length = l7 at *
      generalize (outC sa SC).length = l8 at *
      have TI : Hid (TellI (wr.alloc (.cells (mo4 ⟨vk, va, vb, vt⟩) 38)) (y1.alloc (.cells (m4 (.slice z5 l5 y5) (.slice z6 l6 y6) (.slice z7 l7 y7) (.slice z8 l8 y8)) 34)) y1.heap.size (.slice z5 l5 y5) (.slice z6 l6 y6) (.slice z7 l7 y7) (.slice z8 l8 y8) (wr.alloc (.cells (mo4 ⟨vk, va, vb, vt⟩) 38)).heap.size y1.heap.size sa SH SC) := by
        have bz := below1 y1 (.cells (m4 (.slice z5 l5 y5) (.slice z6 l6 y6) (.slice z7 l7 y7) (.slice z8 l8 y8)) 34)
        exact ⟨Row.new y1 _ _, bst HB1.out bz HB1.out.size, OM.out.below bz, Nat.le_refl _, HB1.out.size, bz.size⟩
      clear OM
      cases sa
      · have HPT := Lib.hid (HNO.out (by first | rfl | trivial))
        have P2 := Lib.hid (P1.out.below TI.out.l)
        clear P1 V1 TI
        obtain ⟨⟨y, s3⟩, s4⟩ := P2.out.cell HLK.out hlt
        have P3 := Lib.hid (P2.out.told HLK.out hlt false)
        clear P2
        go_wp2_with fail
        go_roundw
        case rel => exact ⟨k + 1, by omega, by go_num, a, b, c, d, lo, hi, by rw [HPT.out]; exact P3⟩
        case measure => simp [intOf]; omega
      · have HPT := Lib.hid (HY.out (by first | rfl | trivial))
        have P2 := Lib.hid (P1.out.yes TI.out)
        have M2 := Lib.hid (show RowM _ _ _ _ _ _ from Row.below P1.out.m TI.out.l)
        have u0 := TI.out.u.cell 0
        have u1 := TI.out.u.cell 1
        have u2 := TI.out.u.cell 2
        have u3 := TI.out.u.cell 3
        obtain ⟨⟨y, s3⟩, s4⟩ := P2.out.cell HLK.out hlt
        have P3 := Lib.hid (P2.out.told HLK.out hlt true)
        clear P1 V1 TI P2
        go_wp2_with (refine wl_storeM rfl _ _ rfl gm (.slice z5 l5 y5) (.slice z6 l6 y6) (.slice z7 l7 y7) (.slice z8 l8 y8) _ _ _ _ M2.out rfl rfl rfl rfl rfl rfl ?_)
        go_roundw
        case rel => exact ⟨k + 1, by omega, by go_num, _, _, _, _, _, _, by rw [HPT.out]; exact P3⟩
        case measure => simp [intOf]; omega
    · obtain rfl : k = n := by omega
      have HLK := Lib.hid (HLN.out k)
      have PL := Lib.hid (hpw.out.last HLK.out)
      have R7 := Lib.hid hpw.out.r
      obtain ⟨⟨p1, q1, e1⟩, ⟨p2, q2, e2⟩, ⟨p3, q3, e3⟩, ⟨p4, q4, e4⟩⟩ := hpw.out.own.shapes
      have m0 := hpw.out.m.cell 0
      have m1 := hpw.out.m.cell 1
      have m2 := hpw.out.m.cell 2
      have m3 := hpw.out.m.cell 3
      subst e1 e2 e3 e4
      clear hpw
      generalize (playTo true (SH0, startC SH0) ms k).1.1.f.length = n1 at *
      generalize (playTo true (SH0, startC SH0) ms k).1.1.l.length = n2 at *
      generalize (playTo true (SH0, startC SH0) ms k).1.1.r.length = n3 at *
      generalize (playTo true (SH0, startC SH0) ms k).1.2.length = n4 at *
      go_wp2_with (refine wl_storeM rfl _ _ rfl (w.heap.size + 1) (.slice p1 n1 q1) (.slice p2 n2 q2) (.slice p3 n3 q3) (.slice p4 n4 q4) _ _ _ _ R7.out rfl rfl rfl rfl rfl rfl ?_)
      obtain ⟨t1, t2, t3, t4, t5, t6, t7⟩ := PL.out (m4 (.slice p1 n1 q1) (.slice p2 n2 q2) (.slice p3 n3 q3) (.slice p4 n4 q4))
      refine bodyPost_ret (res_row_slot2 Try.results30 (Row.put R7.out (m4 (.slice p1 n1 q1) (.slice p2 n2 q2) (.slice p3 n3 q3) (.slice p4 n4 q4))) rfl rfl rfl Try.underlying34 rfl info_marking) rfl (endMM_out t1 t2 t3 t4 t5 t6 t7 HE1.out HE2.out HE3.out HE.out)
end Go.Proofs.Ytbmfkgfmibpkjaa
namespace Go.Proofs.Ytbmfkgfmibpkjaa
open Go.ChangeShapes Go.WideShapes Go.ChangeAt Go.RowKit Ph

theorem r_moves : Try.prog.readableRec 43 = true ∧ 43 < Try.prog.types.size := ⟨by kernel_rfl, of_decide_eq_true (by kernel_rfl)⟩
end Go.Proofs.Ytbmfkgfmibpkjaa
