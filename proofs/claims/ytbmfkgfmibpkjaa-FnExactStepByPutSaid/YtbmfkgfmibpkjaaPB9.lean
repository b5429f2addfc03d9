/- What the laws rest on, part 9. -/
import Derived.Test.YtbmfkgfmibpkjaaPB8
import Derived.Test.YtbmfkgfmibpkjaaRows
import Derived.Lib.SmallJoins
import Derived.WalkKit
import Derived.ProofKit
import Derived.OpenShut
import Derived.WalkSmall
import Derived.Deep.DeepHandedRow
import Derived.Lib.LaidTab
import Derived.Deep.Matrix
import Derived.Deep.Grids
namespace Go.Proofs.Ytbmfkgfmibpkjaa
open Go.RowKit Ph

/-- A move done, in a variable of its own. -/
structure TellS (w x : World) (g : Nat) (a b c d : Value) (sk : Bool) (SH : H) (SC : List Int) : Prop where
  u : RowM x g a b c d
  r : RowM x (w.heap.size + 1 + 1) nilS nilS nilS nilS
  l : Below w.heap.size w x
  z : sk = true → HeapAt x a b c SH ∧ IntsAt x d SC
theorem StE.reads' {HH : H} {CC : List Int} {ok : Bool} {lo hi : Nat} {w w' : World} {a b c d : Value} (k : ok = true → ∀ w'' : World, (∀ i, ((lo ≤ i ∧ i < hi) ∨ w.heap.size ≤ i) → w''.heap[i]? = w'.heap[i]?) → HeapAt w'' a b c HH ∧ IntsAt w'' d CC) : ok = true → HeapAt w' a b c HH ∧ IntsAt w' d CC := fun q => k q w' fun _ _ => rfl
set_option maxHeartbeats 12800000 in
set_option maxRecDepth 100000 in
theorem s_l7Tell (a b c d : Value) (h : H) (cs : List Int) (v : Mv) (put : Bool) (w : World) (hA : HeapAt w a b c h) (hC : IntsAt w d cs) :
    Calls Try.prog 89 #[mv a b c d, mo v, .bool put] w (EndM (outH (stepA h cs v) (stepH h v)) (outC (stepA h cs v) (stepC h cs v put)) (stepA h cs v) w) := by
  have HST := Lib.hid (fun (q : bothB h cs = true) lo hi a b c d x hO hl hs => s_l7Step lo hi a b c d h cs v put x hO q hl hs)
  have HGS := Lib.hid (fun (q : bothB h cs = true) (q2 : stepOk h cs v = true) => (show Sml (stepH h v) ∧ (stepC h cs v put).length ≤ 13 from by have g := bothB_iff.1 (step_good put q q2); exact ⟨small_good g.1, by have := g.1.n; have := g.2.1; omega⟩))
  have BI := Lib.hid (bothB_iff (h := h) (cs := cs)).1
  obtain ⟨vk, va, vb, vt⟩ := v
  unfold stepA
  generalize stepH h ⟨vk, va, vb, vt⟩ = SH at *
  generalize stepC h cs ⟨vk, va, vb, vt⟩ put = SC at *
  generalize stepOk h cs ⟨vk, va, vb, vt⟩ = sk at *
  have b0 := ((below1 w (.cells (m4 a b c d) 34)).alloc (by simp) (.cells (mo4 ⟨vk, va, vb, vt⟩) 38)).alloc (by simp; omega) (.cells (m4 nilS nilS nilS nilS) 34)
  have A0 := Lib.hid (hA.below b0); have Z0 := Lib.hid (hC.below b0)
  have L0 := Lib.hid b0
  have M0 := Lib.hid (show RowM _ w.heap.size a b c d from ((Row.new w 34 (m4 a b c d)).alloc (.cells (mo4 ⟨vk, va, vb, vt⟩) 38)).alloc (.cells (m4 nilS nilS nilS nilS) 34))
  have V0 := Lib.hid (show Row _ (w.heap.size + 1) 38 (mo4 ⟨vk, va, vb, vt⟩) from (Row.new1 w (.cells (m4 a b c d) 34) 38 (mo4 ⟨vk, va, vb, vt⟩)).alloc (.cells (m4 nilS nilS nilS nilS) 34))
  have R0 := Lib.hid (show RowM _ (w.heap.size + 1 + 1) nilS nilS nilS nilS from Row.new2 w (.cells (m4 a b c d) 34) (.cells (mo4 ⟨vk, va, vb, vt⟩) 38) 34 (m4 nilS nilS nilS nilS))
  clear hA hC b0
  have HC := Lib.hid (s_GoodMarking a b c d h cs _ A0.out Z0.out)
  generalize hbb : bothB h cs = bb at *
  have HBB := Lib.hid hbb; clear hbb
  have c0 := M0.out.cell 0
  have c1 := M0.out.cell 1
  have c2 := M0.out.cell 2
  have c3' := M0.out.cell 3
  cases bb
  · clear HST HGS BI
    go_enter Try.func89, Try.ntmps89
    go_wp2_with (first
      | (go_at_call 68; refine HC.out.mono ?_; rintro e w1 ⟨rfl, hb1⟩; have B1 := Lib.hid (bst L0.out hb1 L0.out.size); have R1 := Lib.hid (show RowM _ _ _ _ _ _ from Row.below R0.out hb1); clear hb1)
      | (refine wl_storeM rfl _ _ rfl (w.heap.size + 1 + 1) nilS nilS nilS nilS _ _ _ _ R1.out rfl rfl rfl rfl rfl rfl ?_))
    refine bodyPost_ret (res_row_slot Try.results89 (Row.put R1.out (m4 nilS nilS nilS nilS)) rfl rfl Try.underlying34 rfl info_marking) rfl (endM_none (below_setRow B1.out (by omega) _) (by simp [outH]) (by simp [outC]) (by rfl))
  obtain ⟨hG, hlc, hcol⟩ := BI.out rfl
  have HG := Lib.hid hG; have HLC := Lib.hid hlc
  clear hG hlc hcol BI
  go_enter Try.func89, Try.ntmps89
  go_upto_region 3 with (go_at_call 68; refine HC.out.mono ?_; rintro e w1 ⟨rfl, hb1⟩; have L1 := Lib.hid (below_drew (bst L0.out hb1 L0.out.size)); have R1 := Lib.hid (show RowM w1.drew _ _ _ _ _ from Row.below R0.out (below_drew hb1)); have M1 := Lib.hid (show RowM w1.drew _ _ _ _ _ from Row.below M0.out (below_drew hb1)); have V1 := Lib.hid (show Row w1.drew _ _ _ from Row.below V0.out (below_drew hb1)); have A1 := Lib.hid (show HeapAt w1.drew _ _ _ _ from A0.out.below (below_drew hb1)); have Z1 := Lib.hid (show IntsAt w1.drew _ _ from Z0.out.below (below_drew hb1)); clear hb1)
  clear c0 c1 c2 c3' HC A0 Z0 L0 M0 V0 R0
  go_cut [8, 9] from 15 (fun p q wk => ∃ gU a7 b7 c7 d7, p = .pointer (some ⟨gU, 0, none⟩) ∧ q = .bool sk ∧ (a7.oneCell' = true ∧ b7.oneCell' = true ∧ c7.oneCell' = true ∧ d7.oneCell' = true) ∧ Hid (w.heap.size + 1 + 1 < gU) ∧ Hid (TellS w wk gU a7 b7 c7 d7 sk SH SC))
  case first =>
    refine wp_region_held_drew (S := (fun w' => w'.cell? ⟨w.heap.size, 0, none⟩ = some a ∧ w'.cell? ⟨w.heap.size, 1, none⟩ = some b ∧ w'.cell? ⟨w.heap.size, 2, none⟩ = some c ∧ w'.cell? ⟨w.heap.size, 3, none⟩ = some d ∧ w'.cell? ⟨w.heap.size + 1, 0, none⟩ = some (.int .i64 vk) ∧ w'.cell? ⟨w.heap.size + 1, 1, none⟩ = some (.int .i64 va) ∧ w'.cell? ⟨w.heap.size + 1, 2, none⟩ = some (.int .i64 vb) ∧ w'.cell? ⟨w.heap.size + 1, 3, none⟩ = some (.int .i64 vt))) (by kernel_rfl) (⟨M1.out.cell 0, M1.out.cell 1, M1.out.cell 2, M1.out.cell 3, V1.out.cell 0, V1.out.cell 1, V1.out.cell 2, V1.out.cell 3⟩) (fun hHeld => ?_)
    generalize w1.drew = x1 at *
    refine wpAnyH_take (i := 0) (v := ?va0x1) rfl (by kernel_rfl) (by kernel_rfl) (by kernel_rfl) (fun _ _ _ h => h) (Or.inl ⟨by rfl, ?hy0x1⟩) (by assumption) ?rest0x1
    case hy0x1 => (intro w hSw; (try dsimp only at hSw); go_simp; try with_reducible rfl)
    (try simp only [Act.put, List.getElem_toArray, List.getElem_cons_zero, List.setIfInBounds_toArray, List.set_cons_zero, List.set_cons_succ])
    refine wpAnyH_take (i := 2) (v := ?va2x2) rfl (by kernel_rfl) (by kernel_rfl) (by kernel_rfl) (fun _ _ _ h => h) (Or.inl ⟨by rfl, ?hy2x2⟩) (by assumption) ?rest2x2
    case hy2x2 => (intro w hSw; (try dsimp only at hSw); go_simp; try with_reducible rfl)
    (try simp only [Act.put, List.getElem_toArray, List.getElem_cons_zero, List.getElem_cons_succ, List.setIfInBounds_toArray, List.set_cons_zero, List.set_cons_succ])
    refine wpAnyH_take (i := 3) (v := ?va3x3) rfl (by kernel_rfl) (by kernel_rfl) (by kernel_rfl) (fun _ _ _ h => h) (Or.inl ⟨by rfl, ?hy3x3⟩) (by assumption) ?rest3x3
    case hy3x3 => (intro w hSw; (try dsimp only at hSw); go_simp; try with_reducible rfl)
    (try simp only [Act.put, List.getElem_toArray, List.getElem_cons_zero, List.getElem_cons_succ, List.setIfInBounds_toArray, List.set_cons_zero, List.set_cons_succ])
    refine wpAnyH_ready (rs := [1, 8]) (by kernel_rfl) (by simp) ?_
    refine AllReadyH.cons rfl (fun K hK => ?_) (AllReadyH.cons rfl (fun K hK => ?_) AllReadyH.nil)
    · skip
      go_simp
      refine (s_l7Own a b c d h cs _ A1.out Z1.out (small_good HG.out) (by have := HG.out.n; have := HLC.out; omega)).mono ?_
      rintro e y1 ⟨a1, b1, c1, d1, rfl, ho1, hb1⟩
      have GY : Hid (w.heap.size + 1 + 1 < x1.heap.size) := Row.lt R1.out
      replace M1 := Lib.hid (show RowM _ _ _ _ _ _ from Row.below M1.out hb1); replace V1 := Lib.hid (Row.below V1.out hb1); replace R1 := Lib.hid (show RowM _ _ _ _ _ _ from Row.below R1.out hb1)
      replace L1 := Lib.hid (bst L1.out hb1 L1.out.size)
      have LOI : Hid (x1.heap.size ≤ y1.heap.size) := hb1.size
      have O1 := Lib.hid ho1
      refine hK.out _ _ ⟨M1.out.cell 0, M1.out.cell 1, M1.out.cell 2, M1.out.cell 3, V1.out.cell 0, V1.out.cell 1, V1.out.cell 2, V1.out.cell 3⟩ (fun hHeld => ?_)
      clear hK K hb1 ho1 A1 Z1
      (try simp only [Act.put, List.getElem_toArray, List.getElem_cons_zero, List.getElem_cons_succ, List.setIfInBounds_toArray, List.set_cons_zero, List.set_cons_succ])
      generalize x1.heap.size = lo at *
      refine wpAnyH_ready (rs := [4, 8]) (by kernel_rfl) (by simp) ?_
      refine AllReadyH.cons rfl (fun K hK => ?_) (AllReadyH.cons rfl (fun K hK => ?_) AllReadyH.nil)
      · skip
        have HIS := Nat.le_refl y1.heap.size
        go_simp
        refine (HST.out (by first | rfl | trivial) lo y1.heap.size a1 b1 c1 d1 _ O1.out (by have := LOI.out; omega) HIS).mono ?_
        rintro e y2 ⟨a2, b2, c2, d2, rfl, one2, hz2, hc2⟩
        have ONE := Lib.hid one2

        replace M1 := Lib.hid (show RowM _ _ _ _ _ _ from Row.chg M1.out hc2 (.inl (by have := GY.out; omega))); replace V1 := Lib.hid (Row.chg V1.out hc2 (.inl (by have := GY.out; omega))); replace R1 := Lib.hid (show RowM _ _ _ _ _ _ from Row.chg R1.out hc2 (.inl (by have := GY.out; omega)))
        replace L1 := Lib.hid (below_chg L1.out hc2 (by have := GY.out; omega) L1.out.size)
        have HZ := Lib.hid (StE.reads' hz2)
        refine hK.out _ _ ⟨M1.out.cell 0, M1.out.cell 1, M1.out.cell 2, M1.out.cell 3, V1.out.cell 0, V1.out.cell 1, V1.out.cell 2, V1.out.cell 3⟩ (fun hHeld => ?_)
        clear hK K hc2 hz2 one2 O1
        (try simp only [Act.put, List.getElem_toArray, List.getElem_cons_zero, List.getElem_cons_succ, List.setIfInBounds_toArray, List.set_cons_zero, List.set_cons_succ])
        refine wpAnyH_take (i := 5) (v := ?va5x4) rfl (by kernel_rfl) (by kernel_rfl) (by kernel_rfl) (fun _ _ _ h => h) (Or.inl ⟨by rfl, ?hy5x4⟩) (by assumption) ?rest5x4
        case hy5x4 => (intro w hSw; (try dsimp only at hSw); go_simp; try with_reducible rfl)
        (try simp only [Act.put, List.getElem_toArray, List.getElem_cons_zero, List.getElem_cons_succ, List.setIfInBounds_toArray, List.set_cons_zero, List.set_cons_succ])
        refine wpAnyH_take (i := 6) (v := ?va6x5) rfl (by kernel_rfl) (by kernel_rfl) (by kernel_rfl) (fun _ _ _ h => h) (Or.inl ⟨by rfl, ?hy6x5⟩) (by assumption) ?rest6x5
        case hy6x5 => (intro w hSw; (try dsimp only at hSw); go_simp; try with_reducible rfl)
        (try simp only [Act.put, List.getElem_toArray, List.getElem_cons_zero, List.getElem_cons_succ, List.setIfInBounds_toArray, List.set_cons_zero, List.set_cons_succ])
        refine wpAnyH_take (i := 7) (v := ?va7x6) rfl (by kernel_rfl) (by kernel_rfl) (by kernel_rfl) (fun _ _ _ h => h) (Or.inl ⟨by rfl, ?hy7x6⟩) (by assumption) ?rest7x6
        case hy7x6 => (intro w hSw; (try dsimp only at hSw); go_simp; try with_reducible rfl)
        (try simp only [Act.put, List.getElem_toArray, List.getElem_cons_zero, List.getElem_cons_succ, List.setIfInBounds_toArray, List.set_cons_zero, List.set_cons_succ])
        refine wpAnyH_ready (rs := [8]) (by kernel_rfl) (by simp) ?_
        refine AllReadyH.cons rfl (fun K hK => ?_) AllReadyH.nil
        have ba := below1 y2 (.cells (m4 nilS nilS nilS nilS) 34)
        have U1 := Lib.hid (show RowM _ y2.heap.size nilS nilS nilS nilS from Row.new y2 34 (m4 nilS nilS nilS nilS))
        have GU : Hid (w.heap.size + 1 + 1 < y2.heap.size) := Row.lt R1.out
        replace M1 := Lib.hid (show RowM _ _ _ _ _ _ from Row.below M1.out ba); replace V1 := Lib.hid (Row.below V1.out ba); replace R1 := Lib.hid (show RowM _ _ _ _ _ _ from Row.below R1.out ba)
        replace L1 := Lib.hid (bst L1.out ba L1.out.size)
        have bw := below_setRow ba (Nat.le_refl _) (m4 a2 b2 c2 d2)
        have HZ5 : Hid (sk = true → HeapAt ((y2.alloc (.cells (m4 nilS nilS nilS nilS) 34)).setRow y2.heap.size (m4 a2 b2 c2 d2)) a2 b2 c2 SH ∧ IntsAt ((y2.alloc (.cells (m4 nilS nilS nilS nilS) 34)).setRow y2.heap.size (m4 a2 b2 c2 d2)) d2 SC) := fun q => ⟨(HZ.out q).1.below bw, (HZ.out q).2.below bw⟩
        clear bw
        go_simp
        refine hK.out _ _ ⟨M1.out.cell 0, M1.out.cell 1, M1.out.cell 2, M1.out.cell 3, V1.out.cell 0, V1.out.cell 1, V1.out.cell 2, V1.out.cell 3⟩ (fun hHeld => ?_)
        clear hK K ba
        (try simp only [Act.put, List.getElem_toArray, List.getElem_cons_zero, List.getElem_cons_succ, List.setIfInBounds_toArray, List.set_cons_zero, List.set_cons_succ])
        generalize hgU : y2.heap.size = gU at *
        generalize y2.alloc (.cells (m4 nilS nilS nilS nilS) 34) = y2a at *
        have n1 : gU ≠ w.heap.size := by have := GU.out; omega
        have n2 : gU ≠ w.heap.size + 1 := by have := GU.out; omega
        have n3 : gU ≠ w.heap.size + 1 + 1 := by have := GU.out; omega
        have GN := GU.out
        have M5 := Lib.hid (show RowM _ _ _ _ _ _ from Row.putOther M1.out (m4 a2 b2 c2 d2) (Ne.symm n1)); have V5 := Lib.hid (Row.putOther V1.out (m4 a2 b2 c2 d2) (Ne.symm n2)); have R5 := Lib.hid (show RowM _ _ _ _ _ _ from Row.putOther R1.out (m4 a2 b2 c2 d2) (Ne.symm n3))
        have U5 := Lib.hid (Row.put U1.out (m4 a2 b2 c2 d2))
        have L5 := Lib.hid (below_setRow L1.out (by omega : w.heap.size ≤ gU) (m4 a2 b2 c2 d2))
        refine wpAnyH_ready (rs := [9]) (by kernel_rfl) (by simp) ?_
        refine AllReadyH.cons rfl (fun K hK => ?_) AllReadyH.nil
        refine wp_store_row 34 _ _ rfl gU (m4 a2 b2 c2 d2) rfl rfl 34 _ U1.out info_marking rfl (by obtain ⟨z1, z2, z3, z4⟩ := ONE.out; simp [z1, z2, z3, z4]) ?_
        refine hK.out _ _ ⟨M5.out.cell 0, M5.out.cell 1, M5.out.cell 2, M5.out.cell 3, V5.out.cell 0, V5.out.cell 1, V5.out.cell 2, V5.out.cell 3⟩ (fun hHeld => ?_)
        clear hK K
        (try simp only [Act.put, List.getElem_toArray, List.getElem_cons_zero, List.getElem_cons_succ])
        refine wpAnyH_take (i := 10) (v := ?va10x7) rfl (by kernel_rfl) (by kernel_rfl) (by kernel_rfl) (fun _ _ _ h => h) (Or.inl ⟨by rfl, ?hy10x7⟩) (by assumption) ?rest10x7
        case hy10x7 => (intro w hSw; (try dsimp only at hSw); go_simp; try with_reducible rfl)
        (try simp only [Act.put, List.getElem_toArray, List.getElem_cons_zero, List.getElem_cons_succ, List.setIfInBounds_toArray, List.set_cons_zero, List.set_cons_succ])
        refine wpAnyH_done (by kernel_rfl) ?_ _
        go_wp2_with fail
        go_meet
        case rel => exact ⟨gU, a2, b2, c2, d2, rfl, rfl, ONE.out, GU, Lib.hid ⟨U5.out, R5.out, L5.out, HZ5.out⟩⟩
      · skip
        have HIS0 := Nat.le_succ y1.heap.size
        have ba := below1 y1 (.cells (m4 nilS nilS nilS nilS) 34)
        have U1 := Lib.hid (show RowM _ y1.heap.size nilS nilS nilS nilS from Row.new y1 34 (m4 nilS nilS nilS nilS))
        have GU : Hid (w.heap.size + 1 + 1 < y1.heap.size) := Row.lt R1.out
        replace M1 := Lib.hid (show RowM _ _ _ _ _ _ from Row.below M1.out ba); replace V1 := Lib.hid (Row.below V1.out ba); replace R1 := Lib.hid (show RowM _ _ _ _ _ _ from Row.below R1.out ba)
        replace L1 := Lib.hid (bst L1.out ba L1.out.size)
        replace O1 := Lib.hid (O1.out.below ba)
        have GSZ : Hid (y1.heap.size + 1 = (y1.alloc (.cells (m4 nilS nilS nilS nilS) 34)).heap.size) := (by unfold Hid; simp)
        go_simp
        refine hK.out _ _ ⟨M1.out.cell 0, M1.out.cell 1, M1.out.cell 2, M1.out.cell 3, V1.out.cell 0, V1.out.cell 1, V1.out.cell 2, V1.out.cell 3⟩ (fun hHeld => ?_)
        clear hK K ba
        (try simp only [Act.put, List.getElem_toArray, List.getElem_cons_zero, List.getElem_cons_succ, List.setIfInBounds_toArray, List.set_cons_zero, List.set_cons_succ])
        generalize y1.alloc (.cells (m4 nilS nilS nilS nilS) 34) = y1a at *
        have HIS : y1.heap.size ≤ y1a.heap.size := by have := GSZ.out; omega
        refine wpAnyH_ready (rs := [4]) (by kernel_rfl) (by simp) ?_
        refine AllReadyH.cons rfl (fun K hK => ?_) AllReadyH.nil
        go_simp
        refine (HST.out (by first | rfl | trivial) lo y1.heap.size a1 b1 c1 d1 _ O1.out (by have := LOI.out; omega) HIS).mono ?_
        rintro e y2 ⟨a2, b2, c2, d2, rfl, one2, hz2, hc2⟩
        have ONE := Lib.hid one2

        replace M1 := Lib.hid (show RowM _ _ _ _ _ _ from Row.chg M1.out hc2 (.inl (by have := GY.out; omega))); replace V1 := Lib.hid (Row.chg V1.out hc2 (.inl (by have := GY.out; omega))); replace R1 := Lib.hid (show RowM _ _ _ _ _ _ from Row.chg R1.out hc2 (.inl (by have := GY.out; omega)))
        replace L1 := Lib.hid (below_chg L1.out hc2 (by have := GY.out; omega) L1.out.size)
        have U2 := Lib.hid (show RowM _ _ _ _ _ _ from Row.chg U1.out hc2 (.inr (Nat.le_refl _))); clear U1; have U1 := U2; clear U2
        have HZ5 : Hid (sk = true → HeapAt (y2.setRow y1.heap.size (m4 a2 b2 c2 d2)) a2 b2 c2 SH ∧ IntsAt (y2.setRow y1.heap.size (m4 a2 b2 c2 d2)) d2 SC) := fun q => hz2 q _ (fun i hi => setRow_other _ _ i _ (by have := GSZ.out; omega))
        refine hK.out _ _ ⟨M1.out.cell 0, M1.out.cell 1, M1.out.cell 2, M1.out.cell 3, V1.out.cell 0, V1.out.cell 1, V1.out.cell 2, V1.out.cell 3⟩ (fun hHeld => ?_)
        clear hK K hc2 hz2 one2 O1
        (try simp only [Act.put, List.getElem_toArray, List.getElem_cons_zero, List.getElem_cons_succ, List.setIfInBounds_toArray, List.set_cons_zero, List.set_cons_succ])
        refine wpAnyH_take (i := 5) (v := ?va5x8) rfl (by kernel_rfl) (by kernel_rfl) (by kernel_rfl) (fun _ _ _ h => h) (Or.inl ⟨by rfl, ?hy5x8⟩) (by assumption) ?rest5x8
        case hy5x8 => (intro w hSw; (try dsimp only at hSw); go_simp; try with_reducible rfl)
        (try simp only [Act.put, List.getElem_toArray, List.getElem_cons_zero, List.getElem_cons_succ, List.setIfInBounds_toArray, List.set_cons_zero, List.set_cons_succ])
        refine wpAnyH_take (i := 6) (v := ?va6x9) rfl (by kernel_rfl) (by kernel_rfl) (by kernel_rfl) (fun _ _ _ h => h) (Or.inl ⟨by rfl, ?hy6x9⟩) (by assumption) ?rest6x9
        case hy6x9 => (intro w hSw; (try dsimp only at hSw); go_simp; try with_reducible rfl)
        (try simp only [Act.put, List.getElem_toArray, List.getElem_cons_zero, List.getElem_cons_succ, List.setIfInBounds_toArray, List.set_cons_zero, List.set_cons_succ])
        refine wpAnyH_take (i := 7) (v := ?va7x10) rfl (by kernel_rfl) (by kernel_rfl) (by kernel_rfl) (fun _ _ _ h => h) (Or.inl ⟨by rfl, ?hy7x10⟩) (by assumption) ?rest7x10
        case hy7x10 => (intro w hSw; (try dsimp only at hSw); go_simp; try with_reducible rfl)
        (try simp only [Act.put, List.getElem_toArray, List.getElem_cons_zero, List.getElem_cons_succ, List.setIfInBounds_toArray, List.set_cons_zero, List.set_cons_succ])
        have n1 : y1.heap.size ≠ w.heap.size := by have := GU.out; omega
        have n2 : y1.heap.size ≠ w.heap.size + 1 := by have := GU.out; omega
        have n3 : y1.heap.size ≠ w.heap.size + 1 + 1 := by have := GU.out; omega
        have GN := GU.out
        have M5 := Lib.hid (show RowM _ _ _ _ _ _ from Row.putOther M1.out (m4 a2 b2 c2 d2) (Ne.symm n1)); have V5 := Lib.hid (Row.putOther V1.out (m4 a2 b2 c2 d2) (Ne.symm n2)); have R5 := Lib.hid (show RowM _ _ _ _ _ _ from Row.putOther R1.out (m4 a2 b2 c2 d2) (Ne.symm n3))
        have U5 := Lib.hid (Row.put U1.out (m4 a2 b2 c2 d2))
        have L5 := Lib.hid (below_setRow L1.out (by omega : w.heap.size ≤ y1.heap.size) (m4 a2 b2 c2 d2))
        refine wpAnyH_ready (rs := [9]) (by kernel_rfl) (by simp) ?_
        refine AllReadyH.cons rfl (fun K hK => ?_) AllReadyH.nil
        refine wp_store_row 34 _ _ rfl y1.heap.size (m4 a2 b2 c2 d2) rfl rfl 34 _ U1.out info_marking rfl (by obtain ⟨z1, z2, z3, z4⟩ := ONE.out; simp [z1, z2, z3, z4]) ?_
        refine hK.out _ _ ⟨M5.out.cell 0, M5.out.cell 1, M5.out.cell 2, M5.out.cell 3, V5.out.cell 0, V5.out.cell 1, V5.out.cell 2, V5.out.cell 3⟩ (fun hHeld => ?_)
        clear hK K
        (try simp only [Act.put, List.getElem_toArray, List.getElem_cons_zero, List.getElem_cons_succ])
        refine wpAnyH_take (i := 10) (v := ?va10x11) rfl (by kernel_rfl) (by kernel_rfl) (by kernel_rfl) (fun _ _ _ h => h) (Or.inl ⟨by rfl, ?hy10x11⟩) (by assumption) ?rest10x11
        case hy10x11 => (intro w hSw; (try dsimp only at hSw); go_simp; try with_reducible rfl)
        (try simp only [Act.put, List.getElem_toArray, List.getElem_cons_zero, List.getElem_cons_succ, List.setIfInBounds_toArray, List.set_cons_zero, List.set_cons_succ])
        refine wpAnyH_done (by kernel_rfl) ?_ _
        go_wp2_with fail
        go_meet
        case rel => exact ⟨y1.heap.size, a2, b2, c2, d2, rfl, rfl, ONE.out, GU, Lib.hid ⟨U5.out, R5.out, L5.out, HZ5.out⟩⟩
    · skip
      have ba := below1 x1 (.cells (m4 nilS nilS nilS nilS) 34)
      have U1 := Lib.hid (show RowM _ x1.heap.size nilS nilS nilS nilS from Row.new x1 34 (m4 nilS nilS nilS nilS))
      have GU : Hid (w.heap.size + 1 + 1 < x1.heap.size) := Row.lt R1.out
      replace M1 := Lib.hid (show RowM _ _ _ _ _ _ from Row.below M1.out ba); replace V1 := Lib.hid (Row.below V1.out ba); replace R1 := Lib.hid (show RowM _ _ _ _ _ _ from Row.below R1.out ba)
      replace L1 := Lib.hid (bst L1.out ba L1.out.size)
      replace A1 := Lib.hid (A1.out.below ba); replace Z1 := Lib.hid (Z1.out.below ba)
      have GLO : Hid (x1.heap.size < (x1.alloc (.cells (m4 nilS nilS nilS nilS) 34)).heap.size) := (by unfold Hid; simp)
      go_simp
      refine hK.out _ _ ⟨M1.out.cell 0, M1.out.cell 1, M1.out.cell 2, M1.out.cell 3, V1.out.cell 0, V1.out.cell 1, V1.out.cell 2, V1.out.cell 3⟩ (fun hHeld => ?_)
      clear hK K ba
      (try simp only [Act.put, List.getElem_toArray, List.getElem_cons_zero, List.getElem_cons_succ, List.setIfInBounds_toArray, List.set_cons_zero, List.set_cons_succ])
      generalize hgU : x1.heap.size = gU at *
      generalize x1.alloc (.cells (m4 nilS nilS nilS nilS) 34) = x2 at *
      refine wpAnyH_ready (rs := [1]) (by kernel_rfl) (by simp) ?_
      refine AllReadyH.cons rfl (fun K hK => ?_) AllReadyH.nil
      go_simp
      refine (s_l7Own a b c d h cs _ A1.out Z1.out (small_good HG.out) (by have := HG.out.n; have := HLC.out; omega)).mono ?_
      rintro e y1 ⟨a1, b1, c1, d1, rfl, ho1, hb1⟩
      have GY : Hid (w.heap.size + 1 + 1 < x2.heap.size) := Row.lt R1.out
      replace M1 := Lib.hid (show RowM _ _ _ _ _ _ from Row.below M1.out hb1); replace V1 := Lib.hid (Row.below V1.out hb1); replace R1 := Lib.hid (show RowM _ _ _ _ _ _ from Row.below R1.out hb1)
      replace L1 := Lib.hid (bst L1.out hb1 L1.out.size)
      replace U1 := Lib.hid (show RowM _ _ _ _ _ _ from Row.below U1.out hb1)
      have LOI : Hid (x2.heap.size ≤ y1.heap.size) := hb1.size
      have O1 := Lib.hid ho1
      refine hK.out _ _ ⟨M1.out.cell 0, M1.out.cell 1, M1.out.cell 2, M1.out.cell 3, V1.out.cell 0, V1.out.cell 1, V1.out.cell 2, V1.out.cell 3⟩ (fun hHeld => ?_)
      clear hK K hb1 ho1 A1 Z1
      (try simp only [Act.put, List.getElem_toArray, List.getElem_cons_zero, List.getElem_cons_succ, List.setIfInBounds_toArray, List.set_cons_zero, List.set_cons_succ])
      generalize x2.heap.size = lo at *
      refine wpAnyH_ready (rs := [4]) (by kernel_rfl) (by simp) ?_
      refine AllReadyH.cons rfl (fun K hK => ?_) AllReadyH.nil
      have HIS := Nat.le_refl y1.heap.size
      go_simp
      refine (HST.out (by first | rfl | trivial) lo y1.heap.size a1 b1 c1 d1 _ O1.out (by have := LOI.out; omega) HIS).mono ?_
      rintro e y2 ⟨a2, b2, c2, d2, rfl, one2, hz2, hc2⟩
      have ONE := Lib.hid one2

      replace M1 := Lib.hid (show RowM _ _ _ _ _ _ from Row.chg M1.out hc2 (.inl (by have := GY.out; omega))); replace V1 := Lib.hid (Row.chg V1.out hc2 (.inl (by have := GY.out; omega))); replace R1 := Lib.hid (show RowM _ _ _ _ _ _ from Row.chg R1.out hc2 (.inl (by have := GY.out; omega)))
      replace L1 := Lib.hid (below_chg L1.out hc2 (by have := GY.out; omega) L1.out.size)
      have U2 := Lib.hid (show RowM _ _ _ _ _ _ from Row.chg U1.out hc2 (.inl (by have := GLO.out; omega))); clear U1; have U1 := U2; clear U2
      have HZ5 : Hid (sk = true → HeapAt (y2.setRow gU (m4 a2 b2 c2 d2)) a2 b2 c2 SH ∧ IntsAt (y2.setRow gU (m4 a2 b2 c2 d2)) d2 SC) := fun q => hz2 q _ (fun i hi => setRow_other _ _ i _ (by have := GLO.out; have := LOI.out; omega))
      refine hK.out _ _ ⟨M1.out.cell 0, M1.out.cell 1, M1.out.cell 2, M1.out.cell 3, V1.out.cell 0, V1.out.cell 1, V1.out.cell 2, V1.out.cell 3⟩ (fun hHeld => ?_)
      clear hK K hc2 hz2 one2 O1
      (try simp only [Act.put, List.getElem_toArray, List.getElem_cons_zero, List.getElem_cons_succ, List.setIfInBounds_toArray, List.set_cons_zero, List.set_cons_succ])
      refine wpAnyH_take (i := 5) (v := ?va5x12) rfl (by kernel_rfl) (by kernel_rfl) (by kernel_rfl) (fun _ _ _ h => h) (Or.inl ⟨by rfl, ?hy5x12⟩) (by assumption) ?rest5x12
      case hy5x12 => (intro w hSw; (try dsimp only at hSw); go_simp; try with_reducible rfl)
      (try simp only [Act.put, List.getElem_toArray, List.getElem_cons_zero, List.getElem_cons_succ, List.setIfInBounds_toArray, List.set_cons_zero, List.set_cons_succ])
      refine wpAnyH_take (i := 6) (v := ?va6x13) rfl (by kernel_rfl) (by kernel_rfl) (by kernel_rfl) (fun _ _ _ h => h) (Or.inl ⟨by rfl, ?hy6x13⟩) (by assumption) ?rest6x13
      case hy6x13 => (intro w hSw; (try dsimp only at hSw); go_simp; try with_reducible rfl)
      (try simp only [Act.put, List.getElem_toArray, List.getElem_cons_zero, List.getElem_cons_succ, List.setIfInBounds_toArray, List.set_cons_zero, List.set_cons_succ])
      refine wpAnyH_take (i := 7) (v := ?va7x14) rfl (by kernel_rfl) (by kernel_rfl) (by kernel_rfl) (fun _ _ _ h => h) (Or.inl ⟨by rfl, ?hy7x14⟩) (by assumption) ?rest7x14
      case hy7x14 => (intro w hSw; (try dsimp only at hSw); go_simp; try with_reducible rfl)
      (try simp only [Act.put, List.getElem_toArray, List.getElem_cons_zero, List.getElem_cons_succ, List.setIfInBounds_toArray, List.set_cons_zero, List.set_cons_succ])
      have n1 : gU ≠ w.heap.size := by have := GU.out; omega
      have n2 : gU ≠ w.heap.size + 1 := by have := GU.out; omega
      have n3 : gU ≠ w.heap.size + 1 + 1 := by have := GU.out; omega
      have GN := GU.out
      have M5 := Lib.hid (show RowM _ _ _ _ _ _ from Row.putOther M1.out (m4 a2 b2 c2 d2) (Ne.symm n1)); have V5 := Lib.hid (Row.putOther V1.out (m4 a2 b2 c2 d2) (Ne.symm n2)); have R5 := Lib.hid (show RowM _ _ _ _ _ _ from Row.putOther R1.out (m4 a2 b2 c2 d2) (Ne.symm n3))
      have U5 := Lib.hid (Row.put U1.out (m4 a2 b2 c2 d2))
      have L5 := Lib.hid (below_setRow L1.out (by omega : w.heap.size ≤ gU) (m4 a2 b2 c2 d2))
      refine wpAnyH_ready (rs := [9]) (by kernel_rfl) (by simp) ?_
      refine AllReadyH.cons rfl (fun K hK => ?_) AllReadyH.nil
      refine wp_store_row 34 _ _ rfl gU (m4 a2 b2 c2 d2) rfl rfl 34 _ U1.out info_marking rfl (by obtain ⟨z1, z2, z3, z4⟩ := ONE.out; simp [z1, z2, z3, z4]) ?_
      refine hK.out _ _ ⟨M5.out.cell 0, M5.out.cell 1, M5.out.cell 2, M5.out.cell 3, V5.out.cell 0, V5.out.cell 1, V5.out.cell 2, V5.out.cell 3⟩ (fun hHeld => ?_)
      clear hK K
      (try simp only [Act.put, List.getElem_toArray, List.getElem_cons_zero, List.getElem_cons_succ])
      refine wpAnyH_take (i := 10) (v := ?va10x15) rfl (by kernel_rfl) (by kernel_rfl) (by kernel_rfl) (fun _ _ _ h => h) (Or.inl ⟨by rfl, ?hy10x15⟩) (by assumption) ?rest10x15
      case hy10x15 => (intro w hSw; (try dsimp only at hSw); go_simp; try with_reducible rfl)
      (try simp only [Act.put, List.getElem_toArray, List.getElem_cons_zero, List.getElem_cons_succ, List.setIfInBounds_toArray, List.set_cons_zero, List.set_cons_succ])
      refine wpAnyH_done (by kernel_rfl) ?_ _
      go_wp2_with fail
      go_meet
      case rel => exact ⟨gU, a2, b2, c2, d2, rfl, rfl, ONE.out, GU, Lib.hid ⟨U5.out, R5.out, L5.out, HZ5.out⟩⟩
  case rest =>
    clear M1 V1 R1 L1 A1 Z1 HST HLC HG
    obtain ⟨gU, a7, b7, c7, d7, rfl, rfl, ⟨o1, o2, o3, o4⟩, GU, HT⟩ := hcut
    have R7 := Lib.hid HT.out.r
    have L7 := Lib.hid HT.out.l
    cases sk
    · go_wp2_with (refine wl_storeM rfl _ _ rfl (w.heap.size + 1 + 1) nilS nilS nilS nilS _ _ _ _ R7.out rfl rfl rfl rfl rfl rfl ?_)
      refine bodyPost_ret (res_row_slot Try.results89 (Row.put R7.out (m4 nilS nilS nilS nilS)) rfl rfl Try.underlying34 rfl info_marking) rfl (endM_none (below_setRow L7.out (by omega) _) (by simp [outH]) (by simp [outC]) (by rfl))
    obtain ⟨A7, Z7⟩ := HT.out.z rfl
    obtain ⟨hS, hm⟩ := HGS.out (by first | rfl | trivial) (by first | rfl | trivial)
    have HS := Lib.hid hS; have HM := Lib.hid hm; have A8 := Lib.hid A7; have Z8 := Lib.hid Z7
    have u0 := HT.out.u.cell 0
    have u1 := HT.out.u.cell 1
    have u2 := HT.out.u.cell 2
    have u3 := HT.out.u.cell 3
    clear A7 Z7 hS hm HGS
    go_wp2_with fail
    refine (s_l7Own a7 b7 c7 d7 SH SC _ A8.out Z8.out HS.out HM.out).mono ?_
    rintro e w7 ⟨a8, b8, c8, d8, rfl, om, hb7⟩
    obtain ⟨⟨p1, q1, e1⟩, ⟨p2, q2, e2⟩, ⟨p3, q3, e3⟩, ⟨p4, q4, e4⟩⟩ := om.shapes
    have SZ : Hid (w.heap.size + 1 + 1 < wc.heap.size) := Row.lt R7.out
    have OM := Lib.hid (om.whole (w.heap.size + 1 + 1) SZ.out (m4 a8 b8 c8 d8))
    replace L7 := Lib.hid (bst L7.out hb7 L7.out.size)
    replace R7 := Lib.hid (show RowM _ _ _ _ _ _ from Row.below R7.out hb7)
    subst e1 e2 e3 e4
    clear om hb7 u0 u1 u2 u3 HT A8 Z8
    generalize SH.f.length = n1 at *
    generalize SH.l.length = n2 at *
    generalize SH.r.length = n3 at *
    generalize SC.length = n4 at *
    go_wp2_with (refine wl_storeM rfl _ _ rfl (w.heap.size + 1 + 1) (.slice p1 n1 q1) (.slice p2 n2 q2) (.slice p3 n3 q3) (.slice p4 n4 q4) _ _ _ _ R7.out rfl rfl rfl rfl rfl rfl ?_)
    refine bodyPost_ret (res_row_slot Try.results89 (Row.put R7.out (m4 (.slice p1 n1 q1) (.slice p2 n2 q2) (.slice p3 n3 q3) (.slice p4 n4 q4))) rfl rfl Try.underlying34 rfl info_marking) rfl ⟨_, _, _, _, rfl, OM.out.wide (by have := SZ.out; omega) (by rw [size_setRow]; exact Nat.le_refl _), below_setRow L7.out (by omega) _⟩
end Go.Proofs.Ytbmfkgfmibpkjaa
namespace Go.Proofs.Ytbmfkgfmibpkjaa
open Go.RowKit Ph
set_option maxHeartbeats 3200000 in
set_option maxRecDepth 100000 in
theorem s_StepBySnapshot (a b c d : Value) (h : H) (cs : List Int) (v : Mv) (w : World) (hA : HeapAt w a b c h) (hC : IntsAt w d cs) : Calls Try.prog 16 #[mv a b c d, mo v] w (EndM (outH (stepA h cs v) (stepH h v)) (outC (stepA h cs v) (stepC h cs v false)) (stepA h cs v) w) := by
  obtain ⟨vk, va, vb, vt⟩ := v
  generalize hok : stepA h cs ⟨vk, va, vb, vt⟩ = ok at *
  have HOK := Lib.hid hok; clear hok
  generalize hHH : outH ok (stepH h ⟨vk, va, vb, vt⟩) = HH at *
  have H1 := Lib.hid hHH; clear hHH
  generalize hCC : outC ok (stepC h cs ⟨vk, va, vb, vt⟩ false) = CC at *
  have H2 := Lib.hid hCC; clear hCC
  have b0 := ((below1 w (.cells (m4 a b c d) 34)).alloc (by simp) (.cells (mo4 ⟨vk, va, vb, vt⟩) 38)).alloc (by simp; omega) (.cells (m4 nilS nilS nilS nilS) 34)
  have A0 := Lib.hid (hA.below b0); have Z0 := Lib.hid (hC.below b0)
  have L := Lib.hid b0
  have M0 := Lib.hid (show RowM _ w.heap.size a b c d from ((Row.new w 34 (m4 a b c d)).alloc (.cells (mo4 ⟨vk, va, vb, vt⟩) 38)).alloc (.cells (m4 nilS nilS nilS nilS) 34))
  have V0 := Lib.hid (show Row _ (w.heap.size + 1) 38 (mo4 ⟨vk, va, vb, vt⟩) from (Row.new1 w (.cells (m4 a b c d) 34) 38 (mo4 ⟨vk, va, vb, vt⟩)).alloc (.cells (m4 nilS nilS nilS nilS) 34))
  have R0 := Lib.hid (show RowM _ (w.heap.size + 1 + 1) nilS nilS nilS nilS from Row.new2 w (.cells (m4 a b c d) 34) (.cells (mo4 ⟨vk, va, vb, vt⟩) 38) 34 (m4 nilS nilS nilS nilS))
  clear hA hC b0
  have c0 := M0.out.cell 0
  have c1 := M0.out.cell 1
  have c2 := M0.out.cell 2
  have c3' := M0.out.cell 3
  have v0 : (_ : World).cell? ⟨w.heap.size + 1, 0, none⟩ = some (.int .i64 vk) := V0.out.cell 0
  have v1 : (_ : World).cell? ⟨w.heap.size + 1, 1, none⟩ = some (.int .i64 va) := V0.out.cell 1
  have v2 : (_ : World).cell? ⟨w.heap.size + 1, 2, none⟩ = some (.int .i64 vb) := V0.out.cell 2
  have v3 : (_ : World).cell? ⟨w.heap.size + 1, 3, none⟩ = some (.int .i64 vt) := V0.out.cell 3
  go_enter Try.func16, Try.ntmps16
  go_wp2_with fail
  refine (s_l7Tell a b c d h cs ⟨vk, va, vb, vt⟩ false _ A0.out Z0.out).mono ?_
  rw [HOK.out, H1.out, H2.out]
  rintro e w7 ⟨a7, b7, c7, d7, rfl, om, hb7⟩
  obtain ⟨⟨p1, q1, e1⟩, ⟨p2, q2, e2⟩, ⟨p3, q3, e3⟩, ⟨p4, q4, e4⟩⟩ := om.shapes
  have SZ : Hid (w.heap.size + 1 + 1 < (((w.alloc (.cells (m4 a b c d) 34)).alloc (.cells (mo4 ⟨vk, va, vb, vt⟩) 38)).alloc (.cells (m4 nilS nilS nilS nilS) 34)).heap.size) := Row.lt R0.out
  have OM := Lib.hid (om.whole (w.heap.size + 1 + 1) SZ.out (m4 a7 b7 c7 d7))
  have L7 := Lib.hid (bst L.out hb7 L.out.size)
  have R7 := Lib.hid (show RowM _ _ _ _ _ _ from Row.below R0.out hb7)
  subst e1 e2 e3 e4
  clear om hb7 c0 c1 c2 c3' v0 v1 v2 v3
  generalize HH.f.length = n1 at *
  generalize HH.l.length = n2 at *
  generalize HH.r.length = n3 at *
  generalize CC.length = n4 at *
  go_wp2_with (refine wl_storeM rfl _ _ rfl (w.heap.size + 1 + 1) (.slice p1 n1 q1) (.slice p2 n2 q2) (.slice p3 n3 q3) (.slice p4 n4 q4) _ _ _ _ R7.out rfl rfl rfl rfl rfl rfl ?_)
  refine bodyPost_ret (res_row_slot Try.results16 (Row.put R7.out (m4 (.slice p1 n1 q1) (.slice p2 n2 q2) (.slice p3 n3 q3) (.slice p4 n4 q4))) rfl rfl Try.underlying34 rfl info_marking) rfl ⟨_, _, _, _, rfl, OM.out.wide (by have := SZ.out; omega) (by rw [size_setRow]; exact Nat.le_refl _), below_setRow L7.out (by omega) _⟩
set_option maxHeartbeats 3200000 in
set_option maxRecDepth 100000 in
theorem s_StepByPut (a b c d : Value) (h : H) (cs : List Int) (v : Mv) (w : World) (hA : HeapAt w a b c h) (hC : IntsAt w d cs) : Calls Try.prog 23 #[mv a b c d, mo v] w (EndM (outH (stepA h cs v) (stepH h v)) (outC (stepA h cs v) (stepC h cs v true)) (stepA h cs v) w) := by
  obtain ⟨vk, va, vb, vt⟩ := v
  generalize hok : stepA h cs ⟨vk, va, vb, vt⟩ = ok at *
  have HOK := Lib.hid hok; clear hok
  generalize hHH : outH ok (stepH h ⟨vk, va, vb, vt⟩) = HH at *
  have H1 := Lib.hid hHH; clear hHH
  generalize hCC : outC ok (stepC h cs ⟨vk, va, vb, vt⟩ true) = CC at *
  have H2 := Lib.hid hCC; clear hCC
  have b0 := ((below1 w (.cells (m4 a b c d) 34)).alloc (by simp) (.cells (mo4 ⟨vk, va, vb, vt⟩) 38)).alloc (by simp; omega) (.cells (m4 nilS nilS nilS nilS) 34)
  have A0 := Lib.hid (hA.below b0); have Z0 := Lib.hid (hC.below b0)
  have L := Lib.hid b0
  have M0 := Lib.hid (show RowM _ w.heap.size a b c d from ((Row.new w 34 (m4 a b c d)).alloc (.cells (mo4 ⟨vk, va, vb, vt⟩) 38)).alloc (.cells (m4 nilS nilS nilS nilS) 34))
  have V0 := Lib.hid (show Row _ (w.heap.size + 1) 38 (mo4 ⟨vk, va, vb, vt⟩) from (Row.new1 w (.cells (m4 a b c d) 34) 38 (mo4 ⟨vk, va, vb, vt⟩)).alloc (.cells (m4 nilS nilS nilS nilS) 34))
  have R0 := Lib.hid (show RowM _ (w.heap.size + 1 + 1) nilS nilS nilS nilS from Row.new2 w (.cells (m4 a b c d) 34) (.cells (mo4 ⟨vk, va, vb, vt⟩) 38) 34 (m4 nilS nilS nilS nilS))
  clear hA hC b0
  have c0 := M0.out.cell 0
  have c1 := M0.out.cell 1
  have c2 := M0.out.cell 2
  have c3' := M0.out.cell 3
  have v0 : (_ : World).cell? ⟨w.heap.size + 1, 0, none⟩ = some (.int .i64 vk) := V0.out.cell 0
  have v1 : (_ : World).cell? ⟨w.heap.size + 1, 1, none⟩ = some (.int .i64 va) := V0.out.cell 1
  have v2 : (_ : World).cell? ⟨w.heap.size + 1, 2, none⟩ = some (.int .i64 vb) := V0.out.cell 2
  have v3 : (_ : World).cell? ⟨w.heap.size + 1, 3, none⟩ = some (.int .i64 vt) := V0.out.cell 3
  go_enter Try.func23, Try.ntmps23
  go_wp2_with fail
  refine (s_l7Tell a b c d h cs ⟨vk, va, vb, vt⟩ true _ A0.out Z0.out).mono ?_
  rw [HOK.out, H1.out, H2.out]
  rintro e w7 ⟨a7, b7, c7, d7, rfl, om, hb7⟩
  obtain ⟨⟨p1, q1, e1⟩, ⟨p2, q2, e2⟩, ⟨p3, q3, e3⟩, ⟨p4, q4, e4⟩⟩ := om.shapes
  have SZ : Hid (w.heap.size + 1 + 1 < (((w.alloc (.cells (m4 a b c d) 34)).alloc (.cells (mo4 ⟨vk, va, vb, vt⟩) 38)).alloc (.cells (m4 nilS nilS nilS nilS) 34)).heap.size) := Row.lt R0.out
  have OM := Lib.hid (om.whole (w.heap.size + 1 + 1) SZ.out (m4 a7 b7 c7 d7))
  have L7 := Lib.hid (bst L.out hb7 L.out.size)
  have R7 := Lib.hid (show RowM _ _ _ _ _ _ from Row.below R0.out hb7)
  subst e1 e2 e3 e4
  clear om hb7 c0 c1 c2 c3' v0 v1 v2 v3
  generalize HH.f.length = n1 at *
  generalize HH.l.length = n2 at *
  generalize HH.r.length = n3 at *
  generalize CC.length = n4 at *
  go_wp2_with (refine wl_storeM rfl _ _ rfl (w.heap.size + 1 + 1) (.slice p1 n1 q1) (.slice p2 n2 q2) (.slice p3 n3 q3) (.slice p4 n4 q4) _ _ _ _ R7.out rfl rfl rfl rfl rfl rfl ?_)
  refine bodyPost_ret (res_row_slot Try.results23 (Row.put R7.out (m4 (.slice p1 n1 q1) (.slice p2 n2 q2) (.slice p3 n3 q3) (.slice p4 n4 q4))) rfl rfl Try.underlying34 rfl info_marking) rfl ⟨_, _, _, _, rfl, OM.out.wide (by have := SZ.out; omega) (by rw [size_setRow]; exact Nat.le_refl _), below_setRow L7.out (by omega) _⟩
end Go.Proofs.Ytbmfkgfmibpkjaa
namespace Go.Proofs.Ytbmfkgfmibpkjaa
open Go.RowKit Ph
theorem step_wt (h : H) (cs : List Int) (v : Mv) (put : Bool) : wtH (outH (stepA h cs v) (stepH h v)) + (outC (stepA h cs v) (stepC h cs v put)).length ≤ 2000 := by
  cases hk : stepA h cs v with
  | false => simp [outH, outC]; decide
  | true =>
    unfold stepA at hk
    simp only [Bool.and_eq_true] at hk
    obtain ⟨g, hl, _⟩ := bothB_iff.1 (step_good put hk.1 hk.2)
    have q := (good_wt g).1
    have n := g.n
    have e1 : outH true (stepH h v) = stepH h v := rfl
    have e2 : outC true (stepC h cs v put) = stepC h cs v put := rfl
    rw [e1, e2]
    omega
theorem c_toMove (v : Mv) (w : World) : Calls Try.prog 18 #[mo v] w fun e w' => e = .returned (mo v) ∧ Below w.heap.size w w' := by
  obtain ⟨vk, va, vb, vt⟩ := v
  go_enter Try.func18, Try.ntmps18
  go_wp2
  refine bodyPost_ret (res_row Try.results18 (Row.alloc (Row.new1 w _ 38 (mo4 ⟨vk, va, vb, vt⟩)) _) rfl Try.underlying38 rfl info_move) rfl ⟨rfl, ?_⟩
  exact ((((Below.refl _ _).alloc (Nat.le_refl _) _).alloc (by simp) _).alloc (by simp; omega) _)
end Go.Proofs.Ytbmfkgfmibpkjaa
namespace Go.Proofs.Ytbmfkgfmibpkjaa
open Go.RowKit Ph
theorem chg_setRow (w : World) (g : Nat) (xs : Array Value) : Chg g (g + 1) w (w.setRow g xs) := ⟨rfl, rfl, rfl, by rw [size_setRow]; exact Nat.le_refl _, fun i _ hr => setRow_other w g i xs (by omega)⟩
theorem OwnM.rowOut {w : World} {lo hi : Nat} {a b c d : Value} {h : H} {cs : List Int} (k : OwnM w lo hi a b c d h cs) (g : Nat) (xs : Array Value) (hg : g < lo ∨ hi ≤ g) : OwnM (w.setRow g xs) lo hi a b c d h cs := k.chg (chg_setRow w g xs) (by omega)
end Go.Proofs.Ytbmfkgfmibpkjaa
namespace Go.Proofs.Ytbmfkgfmibpkjaa
open Go.ChangeShapes Go.WideShapes Go.ChangeAt Go.RowKit

theorem own : ownKnob Try.prog.godebug = none := by kernel_rfl
theorem laidOut : laidOutB Try.prog = true := by kernel_rfl

section
variable {H : Type} {enc : TypeId × Value → H} {P : Program}
theorem trodAll_below (hl : laidOutB P = true) {W W' : World} (hb : Below W.heap.size W W') :
    ∀ (ts : List TypeId) (vs : List Value) (ds : List (DataW H)) (ps : List MemPlace), (∀ t ∈ ts, P.readableRec t = true ∧ t < P.types.size) →
      DataW.TrodAll enc P W 0 (fun _ => true) true ts vs ds ps → (∀ x ∈ ps, x.block < W.heap.size) →
      DataW.TrodAll enc P W' 0 (fun b => decide (b < W.heap.size)) true ts vs ds ps
  | [], [], [], _, _, h, _ => h
  | t :: ts, v :: vs, d :: ds, ps, hr, h, hlt => by
    obtain ⟨p, q, h1, h2, rfl⟩ := h
    exact ⟨p, q, Below.trod hl (hr t (by simp)).1 (hr t (by simp)).2 h1 hb (fun x hx => hlt x (by simp [hx])),
      trodAll_below hl hb ts vs ds q (fun t ht => hr t (by simp [ht])) h2 (fun x hx => hlt x (by simp [hx])), rfl⟩
  | [], [], _ :: _, _, _, h, _ => h.elim
  | [], _ :: _, _, _, _, h, _ => h.elim
  | _ :: _, [], _, _, _, h, _ => h.elim
  | _ :: _, _ :: _, [], _, _, h, _ => h.elim
theorem var_lt {W : World} {n : String} {g : Nat} {cs : Array Value} (hg : P.globalNamed n = some g) (hv : W.var? P n = some cs) : g < W.heap.size := by
  unfold World.var? at hv
  simp only [hg, Option.bind_some] at hv
  by_cases h : g < W.heap.size
  · exact h
  · have hn : W.heap[g]? = none := by simp; omega
    simp [hn] at hv
theorem trodVars_below (hl : laidOutB P = true) {W W' : World} (hb : Below W.heap.size W W') :
    ∀ (ns : List String) (ds : List (DataW H)) (ps : List MemPlace), (∀ n ∈ ns, ∀ g t, P.globalNamed n = some g → (P.globals[g]?).map (·.type) = some t → P.readableRec t = true ∧ t < P.types.size) →
      DataW.TrodVars enc P W (fun _ => true) ns ds ps → (∀ x ∈ ps, x.block < W.heap.size) →
      DataW.TrodVars enc P W' (fun b => decide (b < W.heap.size)) ns ds ps
  | [], [], _, _, h, _ => h
  | n :: ns, d :: ds, ps, hr, h, hlt => by
    obtain ⟨g, t, cs, fuel, p, q, h1, h2, h3, h4, h5, rfl⟩ := h
    have ht : DataW.Trod enc P W 0 (fun _ => true) true t (.agg cs) d p := ⟨fuel, h4⟩
    obtain ⟨fuel', h4'⟩ := Below.trod hl (hr n (by simp) g t h1 h2).1 (hr n (by simp) g t h1 h2).2 ht hb (fun x hx => hlt x (by simp [hx]))
    exact ⟨g, t, cs, fuel', p, q, h1, h2, var?_below hb h1 (var_lt h1 h3) h3, h4', trodVars_below hl hb ns ds q (fun n hn => hr n (by simp [hn])) h5 (fun x hx => hlt x (by simp [hx])), rfl⟩
  | [], _ :: _, _, _, h, _ => h.elim
  | _ :: _, [], _, _, h, _ => h.elim

/-- THE END OF A LAW: it answered true, nothing old has turned. -/
theorem law_post {fn : Func} {s : ChangeSpec} {W W' : World} {args : Array Value} {ds gs : List (DataW H)} {before : List MemPlace} {tb : TypeId} (hl : laidOutB P = true)
    (hps : ∀ t ∈ fn.params.toList, P.readableRec t = true ∧ t < P.types.size) (hvs : ∀ n ∈ s.vars, ∀ g t, P.globalNamed n = some g → (P.globals[g]?).map (·.type) = some t → P.readableRec t = true ∧ t < P.types.size)
    (hW : DataW.Whole enc P fn.params.toList s.vars false W args.toList ds gs before) (hb : Below W.heap.size W W') (hs : s.fn H (ds ++ gs) = { results := [.lit (.bool true)], args := ds, vars := gs })
    (hr : fn.resultTypes = #[tb]) (ht : P.underlying tb = some .bool) : s.post enc P fn false true false false W args (.bool true) W' := by
  have hW' := hW
  obtain ⟨p, q, hA, hV, rfl, hfz, hnd⟩ := hW
  have hlt : ∀ x ∈ p ++ q, x.block < W.heap.size := fun x hx => hW'.lt x hx
  refine ⟨ds, gs, p ++ q, [], p, q, hW', ?_, ?_, ?_, hb.frame _, fun h => by cases h⟩
  · rw [hs, hr]
    exact trodAll_cons_mk (shut_bool ht _) trodAll_mk0
  · rw [hs]
    exact trodAll_below hl hb _ _ _ _ hps hA (fun x hx => hlt x (by simp [hx]))
  · rw [hs]
    exact trodVars_below hl hb _ _ _ hvs hV (fun x hx => hlt x (by simp [hx]))
end
theorem cellsInt : Try.prog.cellsOf 3 = 1 := by kernel_rfl
end Go.Proofs.Ytbmfkgfmibpkjaa
namespace Go.Proofs.Ytbmfkgfmibpkjaa
open Go.ChangeShapes Go.WideShapes Go.ChangeAt Go.RowKit Ph

theorem cellsIntsL : Try.prog.cellsOf 24 = 1 := by kernel_rfl
theorem cellsBool : Try.prog.cellsOf 4 = 1 := by kernel_rfl
theorem add_none (b off i : Nat) : (⟨b, off, none⟩ : Addr).add i = ⟨b, off + i, none⟩ := by simp [Addr.add]
theorem ints_cells {H : Type} {enc : TypeId × Value → H} {W : World} {fuel : Nat} {v : Value} {x : DataW H × List MemPlace} (h : DataW.trod enc Try.prog W 0 (fun _ => true) true fuel 24 [v] = some x) : ∃ zs, IntsAt W v zs ∧ zs.length ≤ 9223372036854775807 := by
  rcases open_ints Try.underlying24 Try.underlying3 cellsInt h with ⟨hcs, hx⟩ | ⟨a, len', cap', zs, hcs, _, hl, hm, hz, hx, hcell, hwz⟩
  · simp only [List.cons.injEq, and_true] at hcs
    subst hcs
    exact ⟨[], ⟨none, 0, rfl, fun h => absurd h (by simp)⟩, by simp⟩
  · simp only [List.cons.injEq, and_true] at hcs
    subst hcs
    simp only [if_true] at hz
    have hlen : (zs.take len').length = len' := by rw [List.length_take]; omega
    refine ⟨zs.take len', ⟨some a, cap', by rw [hlen], fun h0 => ?_⟩, by rw [hlen]; unfold maxLen at hm; omega⟩
    rw [hlen] at h0 ⊢
    obtain ⟨b, off, rfl, hc⟩ := ints_at hcell (by omega)
    refine ⟨b, off, rfl, fun i hi => ?_⟩
    rw [hc i (by omega)]
    simp [List.getD, hi]
theorem bools_cells {H : Type} {enc : TypeId × Value → H} {W : World} {fuel : Nat} {v : Value} {x : DataW H × List MemPlace} (h : DataW.trod enc Try.prog W 0 (fun _ => true) true fuel 23 [v] = some x) : ∃ bs, BoolsAt W v bs ∧ bs.length ≤ 9223372036854775807 := by
  rcases Deep.open_bools Try.underlying23 Try.underlying4 cellsBool h with ⟨hcs, hx⟩ | ⟨a, len, cap, B, hcs, _, hl, hm, hx, hcell⟩
  · simp only [List.cons.injEq, and_true] at hcs
    subst hcs
    exact ⟨[], ⟨none, 0, rfl, fun h => absurd h (by simp)⟩, by simp⟩
  · simp only [List.cons.injEq, and_true] at hcs
    subst hcs
    have hln : ((List.range len).map B).length = len := by simp
    refine ⟨(List.range len).map B, ⟨some a, cap, by rw [hln], fun h0 => ?_⟩, by rw [hln]; unfold maxLen at hm; omega⟩
    rw [hln] at h0 ⊢
    obtain ⟨b, off, spot⟩ := a
    have hspot : spot = none := by simpa [Addr.add] using World.cell?_spot (hcell 0 (by omega))
    subst hspot
    refine ⟨b, off, rfl, fun i hi => ?_⟩
    have h1 := hcell i (by omega)
    rw [add_none] at h1
    rw [h1]
    simp [List.getD, hi]
theorem rows_cells {H : Type} {enc : TypeId × Value → H} {W : World} {fuel : Nat} {v : Value} {x : DataW H × List MemPlace} (h : DataW.trod enc Try.prog W 0 (fun _ => true) true fuel 22 [v] = some x) : ∃ fs, RowsAt W v fs ∧ Fit fs ∧ fs.length ≤ 9223372036854775807 := by
  rcases Deep.open_int_rows Try.underlying22 Try.underlying24 Try.underlying3 cellsIntsL cellsInt h with ⟨hcs, hx⟩ | ⟨a, len, cap, A, L, C, Z, hcs, _, hl, hm, hx, hrow⟩
  · simp only [List.cons.injEq, and_true] at hcs
    subst hcs
    exact ⟨[], ⟨none, 0, rfl, fun h => absurd h (by simp)⟩, fun k hk => by simp at hk, by simp⟩
  · simp only [List.cons.injEq, and_true] at hcs
    subst hcs
    have hln : ((List.range len).map fun r => (Z r).take (L r)).length = len := by simp
    have hgd : ∀ i, i < len → ((List.range len).map fun r => (Z r).take (L r)).getD i [] = (Z i).take (L i) := fun i hi => by simp [List.getD, hi]
    have hlr : ∀ i, i < len → ((Z i).take (L i)).length = L i := fun i hi => by
      obtain ⟨_, h1, _, h2, _⟩ := hrow i (by omega)
      rw [List.length_take]; omega
    refine ⟨(List.range len).map fun r => (Z r).take (L r), ⟨some a, cap, by rw [hln], fun h0 => ?_⟩, fun k hk => ?_, by rw [hln]; unfold maxLen at hm; omega⟩
    · rw [hln] at h0 ⊢
      obtain ⟨b, off, spot⟩ := a
      have hspot : spot = none := by simpa [Addr.add] using World.cell?_spot (hrow 0 (by omega)).1
      subst hspot
      refine ⟨b, off, rfl, fun i hi => ?_⟩
      obtain ⟨q, h1, h2, h3, _, h5, h6⟩ := hrow i (by omega)
      rw [add_none] at q
      refine ⟨_, q, ?_⟩
      rw [hgd i hi]
      refine ⟨A i, C i, by rw [hlr i hi], fun hp => ?_⟩
      rw [hlr i hi] at hp ⊢
      cases hA : A i with
      | none => have := h5 hA; omega
      | some a' =>
        obtain ⟨_, hc⟩ := h6 a' hA
        obtain ⟨b', off', spot'⟩ := a'
        have hs' : spot' = none := by simpa [Addr.add] using World.cell?_spot (hc 0 (by omega))
        subst hs'
        refine ⟨b', off', rfl, fun j hj => ?_⟩
        have := hc j (by omega)
        rw [add_none] at this
        rw [this]
        simp [List.getD, hj]
    · rw [hln] at hk
      rw [hgd k hk, hlr k hk]
      obtain ⟨_, h1, h2, _⟩ := hrow k (by omega)
      unfold maxLen at h2; omega
end Go.Proofs.Ytbmfkgfmibpkjaa
namespace Go.Proofs.Ytbmfkgfmibpkjaa
open Go.ChangeShapes Go.WideShapes Go.ChangeAt Go.RowKit Ph

theorem r_marking : Try.prog.readableRec 28 = true ∧ 28 < Try.prog.types.size := ⟨by kernel_rfl, of_decide_eq_true (by kernel_rfl)⟩
theorem cellsMarking : Try.prog.cellsOf 28 = 4 := by kernel_rfl
theorem cellsHeapL : Try.prog.cellsOf 26 = 3 := by kernel_rfl
theorem cellsRowsL : Try.prog.cellsOf 22 = 1 := by kernel_rfl
theorem cellsBoolsL : Try.prog.cellsOf 23 = 1 := by kernel_rfl
set_option maxRecDepth 100000 in
theorem marking_of_arg {H : Type} {enc : TypeId × Value → H} {W : World} {base : Nat} {v : Value} {d : DataW H} {p : List MemPlace} (hval : Value.okWide Try.prog W .any base 28 v)
    (h : DataW.Trod enc Try.prog W 0 (fun _ => true) true 28 v d p) : ∃ (a b c e : Value) (k : Ph.H) (cs : List Int), v = mv a b c e ∧ HeapAt W a b c k ∧ IntsAt W e cs ∧ FitH k ∧ cs.length ≤ 9223372036854775807 := by
  obtain ⟨cs, rfl, hsz⟩ := okWide_struct Try.underlying28 hval
  obtain ⟨x0, x1, x2, x3, rfl⟩ := Joins.array4 (hsz.trans cellsMarking)
  obtain ⟨fuel, hf⟩ := h
  obtain ⟨y0, y1, n, _, _, h0, h1⟩ := trod_struct2 Try.underlying28 hf
  simp only [Value.cells, cellsHeapL, cellsIntsL, List.drop_zero, List.drop_succ_cons, List.take_succ_cons, List.take_zero] at h0 h1
  obtain ⟨y2, y3, y4, m, _, _, h2, h3, h4⟩ := Go.Deep.trod_struct3 Try.underlying26 h0
  simp only [cellsRowsL, cellsBoolsL, cellsIntsL, List.drop_zero, List.drop_succ_cons, List.take_succ_cons, List.take_zero] at h2 h3 h4
  obtain ⟨fs, r1, r2, r3⟩ := rows_cells h2
  obtain ⟨bs, s1, s2⟩ := bools_cells h3
  obtain ⟨zs, t1, t2⟩ := ints_cells h4
  obtain ⟨us, u1, u2⟩ := ints_cells h1
  exact ⟨x0, x1, x2, x3, ⟨fs, bs, zs⟩, us, rfl, ⟨r1, s1, t1⟩, u1, ⟨r2, r3, s2, t2⟩, u2⟩

theorem r_move : Try.prog.readableRec 30 = true ∧ 30 < Try.prog.types.size := ⟨by kernel_rfl, of_decide_eq_true (by kernel_rfl)⟩
set_option maxRecDepth 100000 in
theorem move_of_arg {H : Type} {enc : TypeId × Value → H} {W : World} {base : Nat} {v : Value} {d : DataW H} {p : List MemPlace} (hval : Value.okWide Try.prog W .any base 30 v)
    (h : DataW.Trod enc Try.prog W 0 (fun _ => true) true 30 v d p) : ∃ r : Mv, v = mo r ∧ i64M r := by
  obtain ⟨v0, v1, v2, v3, y0, y1, y2, y3, n, rfl, _, _, h0, h1, h2, h3⟩ := Joins.open_agg4 Try.underlying30 (by kernel_rfl) (by kernel_rfl) hval h
  obtain ⟨x, e0, _, w0⟩ := DataW.trod_int Try.underlying3 h0
  obtain ⟨y, e1, _, w1⟩ := DataW.trod_int Try.underlying3 h1
  obtain ⟨z, e2, _, w2⟩ := DataW.trod_int Try.underlying3 h2
  obtain ⟨u, e3, _, w3⟩ := DataW.trod_int Try.underlying3 h3
  simp only [List.cons.injEq, and_true] at e0 e1 e2 e3
  subst e0; subst e1; subst e2; subst e3
  exact ⟨⟨x, y, z, u⟩, rfl, bounds_i64 w0, bounds_i64 w1, bounds_i64 w2, bounds_i64 w3⟩
end Go.Proofs.Ytbmfkgfmibpkjaa
