/- The reference's l5New: an object more in a heap of the call's own. -/
import Derived.Test.YtdagkbgobnaijabHn4
import Derived.Test.YtdagkbgobnaijabHn5
import Derived.Test.YtdagkbgobnaijabCc4
namespace Go.Proofs.Ytdagkbgobnaijab.Ph
def newS (h : H) (m : Nat) : H × Int := if placeOf h.l < h.l.length then (put1 h (placeOf h.l) m, (placeOf h.l : Int)) else if h.f.length = 12 then (h, -1) else (⟨h.f ++ [List.replicate m (-1)], h.l ++ [true], h.r⟩, (h.f.length : Int))
/-- The first j of m numbers are -1, the others 0. -/
def fillN (m j : Nat) : List Int := List.replicate j (-1) ++ List.replicate (m - j) 0
theorem fillN_zero (m : Nat) : fillN m 0 = List.replicate m 0 := by simp [fillN]
theorem fillN_all (m : Nat) : fillN m m = List.replicate m (-1) := by simp [fillN]
theorem fillN_len {m j : Nat} (h : j ≤ m) : (fillN m j).length = m := by simp [fillN]; omega
theorem fillN_set {m j : Nat} (h : j < m) : (fillN m j).set j (-1) = fillN m (j + 1) := by
  unfold fillN
  have e : List.replicate (m - j) (0 : Int) = 0 :: List.replicate (m - (j + 1)) 0 := by
    rw [show m - j = (m - (j + 1)) + 1 by omega, List.replicate_succ]
  rw [List.set_append_right j _ (by simp), List.length_replicate, Nat.sub_self, e, List.set_cons_zero]
  rw [List.replicate_succ' (n := j), List.append_assoc]; rfl
end Go.Proofs.Ytdagkbgobnaijab.Ph
namespace Go.Proofs.Ytdagkbgobnaijab
open Go.RowKit Ph

theorem rfl' {v : Value} {h h' : H} {m : Nat} {z : Int} (k : newS h m = (h', z)) : Ending.returned (.tuple #[v, .int .i64 z]) = .returned (.tuple #[v, .int .i64 (newS h m).2]) := by rw [k]
set_option maxRecDepth 100000 in
set_option maxHeartbeats 6400000 in
theorem s_l5New (a b c : Value) (h : H) (m lo hi : Nat) (w : World) (hO : OwnH w lo hi a b c h) (hl : lo ≤ hi) (hs : hi ≤ w.heap.size) (hn : h.f.length ≤ 12) (hll : h.l.length = h.f.length) (hm : m ≤ 3) :
    Calls Try.prog 140 #[hv a b c, .int .i64 (m : Int)] w fun e w' => ∃ a' b' c', e = .returned (.tuple #[hv a' b' c', .int .i64 (newS h m).2]) ∧ OwnH w' lo w'.heap.size a' b' c' (newS h m).1 ∧ Below lo w w' ∧ ∀ g cs, Row w g 27 cs → Row w' g 27 cs := by
  obtain ⟨i0, hi0, hz0, hz1, hz2⟩ := info_parts info_int
  obtain ⟨⟨pa, qa, rfl⟩, ⟨pb, qb, rfl⟩, ⟨pc, qc, rfl⟩⟩ := hO.shapes
  have HP := Lib.hid (fun k => place_of (l := h.l) (k := k)); have HQ := Lib.hid (place_none (l := h.l))
  have HNS : Hid (newS h m = if placeOf h.l < h.l.length then (put1 h (placeOf h.l) m, (placeOf h.l : Int)) else if h.f.length = 12 then (h, -1) else (⟨h.f ++ [List.replicate m (-1)], h.l ++ [true], h.r⟩, (h.f.length : Int))) := rfl
  have HNL := Lib.hid hll
  rw [hll] at HNS hO ⊢
  clear hll
  generalize hnn : h.f.length = n at *
  have HNF := Lib.hid hnn
  clear hnn
  generalize h.r.length = nr at *
  have hb0 : Below w.heap.size w ((w.alloc (.cells (c3 (.slice pa n qa) (.slice pb n qb) (.slice pc nr qc)) 27)).alloc (.cells (c3 (.slice none 0 0) (.slice none 0 0) (.slice none 0 0)) 27)) := (below1 w (.cells (c3 (.slice pa n qa) (.slice pb n qb) (.slice pc nr qc)) 27)).alloc (by simp) (.cells (c3 (.slice none 0 0) (.slice none 0 0) (.slice none 0 0)) 27)
  have O0 := Lib.hid (hO.below hb0)
  have B0 := Lib.hid hb0
  have P0 := Lib.hid (show RowH _ _ (.slice pa n qa) (.slice pb n qb) (.slice pc nr qc) from (Row.new w 27 (c3 (.slice pa n qa) (.slice pb n qb) (.slice pc nr qc))).alloc (.cells (c3 (.slice none 0 0) (.slice none 0 0) (.slice none 0 0)) 27))
  have R0 := Lib.hid (show RowH _ (w.heap.size + 1) (.slice none 0 0) (.slice none 0 0) (.slice none 0 0) from Row.new1 w (.cells (c3 (.slice pa n qa) (.slice pb n qb) (.slice pc nr qc)) 27) 27 (c3 (.slice none 0 0) (.slice none 0 0) (.slice none 0 0)))
  have HL := Lib.hid hl; have HS := Lib.hid hs
  have hw0 : ((w.alloc (.cells (c3 (.slice pa n qa) (.slice pb n qb) (.slice pc nr qc)) 27)).alloc (.cells (c3 (.slice none 0 0) (.slice none 0 0) (.slice none 0 0)) 27)).heap.size = w.heap.size + 1 + 1 := by simp
  have HW0 := Lib.hid hw0
  clear hO hb0 hl hs hw0
  go_enter Try.func140, Try.ntmps140
  go_wp2_with (at_make; refine wpList_make_full _ rfl _ _ 25 rfl w.heap.size 3 i0 (.int .i64 0) 1 Try.underlying25 hi0 hz0 hz1 .i64 .i64 _ _ m rfl rfl rfl rfl (by rw [hz2]; omega) (by unfold maxLen; omega) (by rw [HW0.out]; omega) ?_; intro w1 hown hgr
               rw [rep_ints, HW0.out] at hown
               have U1 : Hid (Own w1 w.heap.size (.slice (some ⟨w.heap.size + 1 + 1, 0, none⟩) m m) (List.replicate m 0)) := (by { unfold Hid Own; rw [List.length_replicate]; exact hown })
               have bb1 := (Below.refl ((w.alloc (.cells (c3 (.slice pa n qa) (.slice pb n qb) (.slice pc nr qc)) 27)).alloc (.cells (c3 (.slice none 0 0) (.slice none 0 0) (.slice none 0 0)) 27)).heap.size ((w.alloc (.cells (c3 (.slice pa n qa) (.slice pb n qb) (.slice pc nr qc)) 27)).alloc (.cells (c3 (.slice none 0 0) (.slice none 0 0) (.slice none 0 0)) 27))).grown hgr (Nat.le_refl _) (fun k hk => by cases hk)
               have B1 := Lib.hid (bst B0.out bb1 B0.out.size)
               have O1 := Lib.hid (O0.out.below bb1)
               have P1 := Lib.hid (P0.out.below bb1)
               have R1 := Lib.hid (R0.out.below bb1)
               clear hown hgr bb1)
  clear B0 O0 P0 R0
  go_loopw [14] (fun i wr => ∃ j : Nat, j ≤ m ∧ i = .int .i64 j ∧ Hid (Own wr w.heap.size (.slice (some ⟨w.heap.size + 1 + 1, 0, none⟩) m m) (fillN m j)) ∧ Hid (Below w.heap.size w wr) ∧ Hid (OwnH wr lo hi (.slice pa n qa) (.slice pb n qb) (.slice pc nr qc) h) ∧ Hid (RowH wr w.heap.size (.slice pa n qa) (.slice pb n qb) (.slice pc nr qc)) ∧ Hid (RowH wr (w.heap.size + 1) (.slice none 0 0) (.slice none 0 0) (.slice none 0 0))) (fun i _ => m - (intOf i).toNat)
  case atStart => exact ⟨0, Nat.zero_le _, rfl, by rw [fillN_zero]; exact U1, B1, O1, P1, R1⟩
  case round =>
    obtain ⟨j, hj, rfl, hU, hB, hO, hP, hR⟩ := hrel
    by_cases hlt : j < m
    · obtain ⟨s1, s2, s3, s4⟩ := hU.out.store1 (fillN_len hj) hlt (-1)
      rw [fillN_set hlt] at s1
      have B2 := Lib.hid (hB.out.grown s2 hB.out.size (fun k hk => by cases hk; omega))
      have cc := Chg.of_grown (lo := w.heap.size + 1 + 1) (hi := w.heap.size + 1 + 1 + 1) s2 (fun k hk => by cases hk; omega)
      have O2 := Lib.hid (hO.out.chg cc (.inl (by have := HS.out; omega)))
      have P2 := Lib.hid (show RowH _ _ _ _ _ from Row.chg hP.out cc (.inl (by omega)))
      have R2 := Lib.hid (show RowH _ _ _ _ _ from Row.chg hR.out cc (.inl (by omega)))
      have S1 := Lib.hid s1
      have i1 : (j : Int) < (m : Int) := by omega
      clear s1 s2 cc
      generalize (fillN m j).getD j 0 = x at *
      go_wp2_with fail
      go_roundw
      case rel => exact ⟨j + 1, by omega, by go_num, S1, B2, O2, P2, R2⟩
      case measure => simp [intOf]; omega
    obtain rfl : j = m := by omega
    rw [fillN_all] at hU
    generalize hrow : List.replicate j (-1 : Int) = row at *
    have HROW := Lib.hid hrow; clear hrow
    have d0 := hP.out.c0
    have d1 := hP.out.c1
    have hUl : Hid (w.heap.size + 1 + 1 < wr.heap.size) := (owns_lt hU.out rfl).2
    clear hlt
    go_wp2_with fail
    generalize hws : w.heap.size = W at *
    go_loop [24] (fun i => ∃ k : Nat, k ≤ n ∧ i = .int .i64 k ∧ Hid (∀ i, i < k → h.l.getD i false = true)) (fun i => n - (intOf i).toNat)
    case atStart => exact ⟨0, Nat.zero_le _, rfl, fun i hi => by omega⟩
    case round =>
      obtain ⟨k, hk, rfl, hall⟩ := hrel
      by_cases hkn : k < n
      · obtain ⟨gb, cb, hbv, qb1, fb1, oL, cL⟩ := putLiveB hO.out (j := k) (by rw [HNL.out]; exact hkn) true
        rw [HNL.out] at hbv
        cases hbv
        have hgP : gb ≠ W := OwnH.liveNe hO.out hP.out
        have hgR : gb ≠ W + 1 := OwnH.liveNe hO.out hR.out
        have i1 : (k : Int) < (n : Int) := by omega
        have i00 : (0 : Int) ≤ (k : Int) := by omega
        generalize hx : h.l.getD k false = x at *
        have HX := Lib.hid hx; clear hx
        cases x
        · have hp := HP.out k (by rw [HNL.out]; exact hkn) hall.out HX.out
          have HE : Hid (newS h j = (put1 h k j, (k : Int))) := by unfold Hid; rw [HNS.out, hp, if_pos hkn]
          clear hp
          have P2 : RowH _ _ _ _ _ := Row.other hP.out ⟨gb, k, none⟩ (Ne.symm hgP) (.bool true)
          have R2 : RowH _ _ _ _ _ := Row.other hR.out ⟨gb, k, none⟩ (Ne.symm hgR) (.bool true)
          have U2 : Own _ W (.slice (some ⟨W + 1 + 1, 0, none⟩) j j) row := Own.chg hU.out cL (fun g' e => .inr (by have e' : some (W + 1 + 1) = some g' := e; cases e'; have := HS.out; omega))
          have B2 := below_chg (hB.out.mono (show lo ≤ W by have := HL.out; have := HS.out; omega)) cL (Nat.le_refl _) (by have := HL.out; have := HS.out; have := hUl.out; omega)
          have sz2 := World.size_setCell wr ⟨gb, k, none⟩ (.bool true)
          obtain ⟨ga, ca, xx, hax, qf1, ff1, hlo, hap, oN⟩ := putRow1 oL (j := k) (by simp only; rw [HNF.out]; exact hkn) (U2.mono HS.out) HL.out (by rw [sz2]; have := HS.out; have := hUl.out; omega)
          simp only [HNF.out] at hax
          cases hax
          have hga1 : ga ≠ W := hap _ _ P2
          have hga2 : ga ≠ W + 1 := hap _ _ R2
          have P3 := Lib.hid (show RowH _ _ _ _ _ from Row.other P2 ⟨ga, k, none⟩ (Ne.symm hga1) (.slice (some ⟨W + 1 + 1, 0, none⟩) j j))
          have R3 := Lib.hid (show RowH _ _ _ _ _ from Row.other R2 ⟨ga, k, none⟩ (Ne.symm hga2) (.slice (some ⟨W + 1 + 1, 0, none⟩) j j))
          have B3 := Lib.hid (B2.setCell (p := ⟨ga, k, none⟩) hlo (.slice (some ⟨W + 1 + 1, 0, none⟩) j j))
          have O3 := Lib.hid oN
          have sz3 := Lib.hid (World.size_setCell (wr.setCell ⟨gb, k, none⟩ (.bool true)) ⟨ga, k, none⟩ (.slice (some ⟨W + 1 + 1, 0, none⟩) j j))
          have HRW : Hid (∀ g cs, Row w g 27 cs → Row (((wr.setCell ⟨gb, k, none⟩ (.bool true)).setCell ⟨ga, k, none⟩ (.slice (some ⟨W + 1 + 1, 0, none⟩) j j)).setRow (W + 1) (c3 (.slice (some ⟨ga, 0, none⟩) n qa) (.slice (some ⟨gb, 0, none⟩) n qb) (.slice pc nr qc))) g 27 cs) := fun g cs hr => by
            have hgl : g < W := by have := hr.lt; omega
            have r1 := Row.below' hr hB.out hgl
            have r2 := Row.other r1 ⟨gb, k, none⟩ (Ne.symm (OwnH.liveNe hO.out r1)) (.bool true)
            exact Row.putOther (Row.other r2 ⟨ga, k, none⟩ (Ne.symm (hap _ _ r2)) _) _ (by omega)
          have HO3 : Hid (put1 h k j = ⟨h.f.set k row, h.l.set k true, h.r⟩) := by unfold Hid put1; rw [HROW.out]
          have e0 := P2.c0
          clear oL cL P2 R2 U2 B2 oN hap sz2
          go_wp2_with (first
            | (refine wl_loadH rfl _ rfl W _ _ _ P3.out rfl ?_)
            | (refine wl_storeH rfl _ _ rfl (W + 1) (.slice (some ⟨ga, 0, none⟩) n qa) (.slice (some ⟨gb, 0, none⟩) n qb) (.slice pc nr qc) _ _ _ R3.out rfl rfl rfl rfl rfl ?_))
          refine bodyPost_ret (res_row_slot Try.results140 (Row.put R3.out (c3 (.slice (some ⟨ga, 0, none⟩) n qa) (.slice (some ⟨gb, 0, none⟩) n qb) (.slice pc nr qc))) rfl rfl Try.underlying27 rfl info_heap) rfl ⟨_, _, _, rfl' HE.out, ?_, below_setRow B3.out (by have := HL.out; have := HS.out; omega) _, HRW.out⟩
          rw [HE.out, HO3.out]
          exact (O3.out.wholeRow R3.out _).wide (Nat.le_refl _) (by rw [size_setRow, sz3.out]; exact Nat.le_refl _)
        · have HA : Hid (∀ i, i < k + 1 → h.l.getD i false = true) := fun i hi => by
            by_cases e : i = k
            · subst e; exact HX.out
            · exact hall.out i (by omega)
          clear oL cL
          go_wp2_with fail
          go_round
          case rel => exact ⟨k + 1, by omega, by go_num, HA⟩
          case measure => simp [intOf]; omega
      · have hpn := HQ.out (fun i hi => hall.out i (by rw [HNL.out] at hi; omega))
        have HE0 : Hid (newS h j = if n = 12 then (h, -1) else (⟨h.f ++ [row], h.l ++ [true], h.r⟩, (n : Int))) := by unfold Hid; rw [HNS.out, hpn, HNL.out, if_neg (Nat.lt_irrefl _)]
        clear hpn
        by_cases h12 : n = 12
        · have HE : Hid (newS h j = (h, -1)) := by unfold Hid; rw [HE0.out, if_pos h12]
          have hq : ((n : Int) == 12) = true := by simp; omega
          have HRW : Hid (∀ g cs, Row w g 27 cs → Row (wr.setRow (W + 1) (c3 (.slice pa n qa) (.slice pb n qb) (.slice pc nr qc))) g 27 cs) := fun g cs hr => by
            have hgl : g < W := by have := hr.lt; omega
            exact Row.putOther (Row.below' hr hB.out hgl) _ (by omega)
          clear h12
          go_wp2_with (first
            | (refine wl_loadH rfl _ rfl W _ _ _ hP.out rfl ?_)
            | (refine wl_storeH rfl _ _ rfl (W + 1) (.slice pa n qa) (.slice pb n qb) (.slice pc nr qc) _ _ _ hR.out rfl rfl rfl rfl rfl ?_))
          refine bodyPost_ret (res_row_slot Try.results140 (Row.put hR.out (c3 (.slice pa n qa) (.slice pb n qb) (.slice pc nr qc))) rfl rfl Try.underlying27 rfl info_heap) rfl ⟨_, _, _, rfl' HE.out, ?_, below_setRow (hB.out.mono (show lo ≤ W by have := HL.out; have := HS.out; omega)) (by have := HL.out; have := HS.out; omega) _, HRW.out⟩
          rw [HE.out]
          exact (hO.out.wholeRow hR.out _).wide (Nat.le_refl _) (by rw [size_setRow]; have := HS.out; have := hUl.out; omega)
        · have HE : Hid (newS h j = (⟨h.f ++ [row], h.l ++ [true], h.r⟩, (n : Int))) := by unfold Hid; rw [HE0.out, if_neg h12]
          have hq : ((n : Int) == 12) = false := by simp; omega
          have hloW : lo ≤ W := by have := HL.out; have := HS.out; omega
          have hWr := hUl.out
          have X0 : OwnX wr lo wr.heap.size (.slice pa n qa) (.slice pb n qb) (.slice pc nr qc) (.slice (some ⟨W + 1 + 1, 0, none⟩) j j) h row := OwnX.of hO.out (hU.out.mono hloW) (fun g e => by have e' : some (W + 1 + 1) = some g := e; cases e'; have := HS.out; omega) (by have := HS.out; omega)
          have BL := hB.out.mono hloW
          obtain ⟨v1, w1e, hr1, x1, rows1, bel1, sz1, _⟩ := X0.live (by omega) (Nat.le_refl _) (by rw [HNL.out]; omega) true 24
          have V1 : RowH _ _ _ _ _ := rows1 _ _ hP.out
          have R1 : RowH _ _ _ _ _ := rows1 _ _ hR.out
          have B1 := bel1 _ _ (Nat.le_refl _) BL
          have s1c := V1.c1
          have s1f := Row.frozen V1 1
          have x2 := x1.cellRow V1 1 v1
          have V2 := RowH.set1 V1 v1
          have R2 : RowH (w1e.setCell ⟨W, 1, none⟩ v1) (W + 1) (.slice none 0 0) (.slice none 0 0) (.slice none 0 0) := Row.other R1 ⟨W, 1, none⟩ (by simp) v1
          have B2 := B1.setCell (p := ⟨W, 1, none⟩) hloW v1
          have hsz2 := World.size_setCell w1e ⟨W, 1, none⟩ v1
          obtain ⟨v2, w2e, hr2, o3, rows3, bel3, sz3⟩ := x2.rows (by omega) (by rw [hsz2]; exact Nat.le_refl _) (by simp only; rw [HNF.out]; omega) rfl 23
          rw [hsz2] at hr2 sz3
          have V3 : RowH _ _ _ _ _ := rows3 _ _ V2
          have R3 : RowH _ _ _ _ _ := rows3 _ _ R2
          have B3 := bel3 _ _ (Nat.le_refl _) B2
          have s2a := V2.c0
          have s3c := V3.c0
          have s3f := Row.frozen V3 0
          have O4 := o3.cellRow V3 0 v2
          have V4 := RowH.set0 V3 v2
          have R4 : RowH (w2e.setCell ⟨W, 0, none⟩ v2) (W + 1) (.slice none 0 0) (.slice none 0 0) (.slice none 0 0) := Row.other R3 ⟨W, 0, none⟩ (by simp) v2
          have B4 := B3.setCell (p := ⟨W, 0, none⟩) hloW v2
          have hfl2 : (h.f ++ [row]).length = n + 1 := by simp [HNF.out]
          obtain ⟨⟨pa2, qa2, hv2⟩, ⟨pb2, qb2, hv1⟩, _⟩ := O4.shapes
          simp only [hfl2] at hv2
          subst hv2
          generalize hnb : (⟨h.f ++ [row], h.l ++ [true], h.r⟩ : H).l.length = nb2 at *
          subst hv1
          have HRW : Hid (∀ g cs, Row w g 27 cs → g ≠ W → Row (w2e.setCell ⟨W, 0, none⟩ (.slice pa2 (n + 1) qa2)) g 27 cs) := fun g cs hr hgw => by
            have hgl : g < W := by have := hr.lt; omega
            have r1 := rows1 _ _ (Row.below' hr hB.out hgl)
            have r2 := Row.other r1 ⟨W, 1, none⟩ (by simpa using hgw) (.slice pb2 nb2 qb2)
            exact Row.other (rows3 _ _ r2) ⟨W, 0, none⟩ (by simpa using hgw) _
          have HRL : Hid (∀ g cs, Row w g 27 cs → g < W) := fun g cs hr => by have := hr.lt; omega
          have OY := Lib.hid O4; have VY := Lib.hid V4; have RY := Lib.hid R4; have BY := Lib.hid B4; have HR1 := Lib.hid hr1; have HR2 := Lib.hid hr2
          have HSY : Hid (w2e.heap.size ≤ (w2e.setCell ⟨W, 0, none⟩ (.slice pa2 (n + 1) qa2)).heap.size) := by unfold Hid; rw [World.size_setCell]; exact Nat.le_refl _
          have hwr2 : IntKind.i64.wrap (n : Int) = (n : Int) := IntWalk.i64_in _ (by omega)
          have hwr1 : IntKind.i64.wrap (((n + 1 : Nat) : Int) - 1) = (n : Int) := by rw [IntWalk.i64_in _ (by omega)]; omega
          clear O4 V4 R4 B4 V1 R1 B1 V2 R2 B2 V3 R3 B3 rows1 rows3 bel1 bel3 hr1 hr2 hsz2 sz1 sz3 x1 x2 X0 BL o3 hfl2 hnb h12
          go_wp2_with (first
            | (at_builtin; refine wl_appRun rfl _ _ 24 rfl rfl rfl HR1.out ?_)
            | (at_builtin; refine wl_appRun rfl _ _ 23 rfl rfl rfl HR2.out ?_))
          generalize (w2e.setCell ⟨W, 0, none⟩ (.slice pa2 (n + 1) qa2)) = wY at *
          have VD : Hid (RowH wY.drew W (.slice pa2 (n + 1) qa2) (.slice pb2 nb2 qb2) (.slice pc nr qc)) := VY.out
          have RD : Hid (RowH wY.drew (W + 1) (.slice none 0 0) (.slice none 0 0) (.slice none 0 0)) := RY.out
          have BD := Lib.hid (below_drew BY.out)
          have OD := Lib.hid (OY.out.below (below_drew (Below.refl wY.heap.size wY)))
          have HRD : Hid (∀ g cs, Row w g 27 cs → g ≠ W → Row wY.drew g 27 cs) := HRW.out
          have HSZ : Hid (w2e.heap.size ≤ wY.drew.heap.size) := HSY
          have y0 := VD.out.c0
          have y1 := VD.out.c1
          have y2 := VD.out.c2
          refine wp_region_held_drew (S := (fun w' => w'.cell? ⟨W, 0, none⟩ = some (.slice pa2 (n + 1) qa2) ∧ w'.cell? ⟨W, 1, none⟩ = some (.slice pb2 nb2 qb2) ∧ w'.cell? ⟨W, 2, none⟩ = some (.slice pc nr qc))) (by kernel_rfl) (⟨y0, y1, y2⟩) (fun hHeld => ?_)
          refine wpAnyH_take (i := 0) (v := ?va0x1) rfl (by kernel_rfl) (by kernel_rfl) (by kernel_rfl) (fun _ _ _ h => h) (Or.inl ⟨by rfl, ?hy0x1⟩) (by assumption) ?rest0x1
          case hy0x1 => (intro w hSw; (try dsimp only at hSw); go_simp; try with_reducible rfl)
          (try simp only [Act.put, List.getElem_toArray, List.getElem_cons_zero, List.setIfInBounds_toArray, List.set_cons_zero, List.set_cons_succ])
          refine wpAnyH_take (i := 1) (v := ?va1x2) rfl (by kernel_rfl) (by kernel_rfl) (by kernel_rfl) (fun _ _ _ h => h) (Or.inl ⟨by rfl, ?hy1x2⟩) (by assumption) ?rest1x2
          case hy1x2 => (intro w hSw; (try dsimp only at hSw); go_simp; try with_reducible rfl)
          (try simp only [Act.put, List.getElem_toArray, List.getElem_cons_zero, List.getElem_cons_succ, List.setIfInBounds_toArray, List.set_cons_zero, List.set_cons_succ])
          refine wpAnyH_take (i := 2) (v := ?va2x3) rfl (by kernel_rfl) (by kernel_rfl) (by kernel_rfl) (fun _ _ _ h => h) (Or.inl ⟨by rfl, ?hy2x3⟩) (by assumption) ?rest2x3
          case hy2x3 => (intro w hSw; (try dsimp only at hSw); go_simp; try with_reducible rfl)
          (try simp only [Act.put, List.getElem_toArray, List.getElem_cons_zero, List.getElem_cons_succ, List.setIfInBounds_toArray, List.set_cons_zero, List.set_cons_succ])
          refine wpAnyH_take (i := 3) (v := ?va3x4) rfl (by kernel_rfl) (by kernel_rfl) (by kernel_rfl) (fun _ _ _ h => h) (Or.inl ⟨by rfl, ?hy3x4⟩) (by assumption) ?rest3x4
          case hy3x4 => (intro w hSw; (try dsimp only at hSw); go_simp; try with_reducible rfl)
          (try simp only [Act.put, List.getElem_toArray, List.getElem_cons_zero, List.getElem_cons_succ, List.setIfInBounds_toArray, List.set_cons_zero, List.set_cons_succ])
          refine wpAnyH_take (i := 4) (v := ?va4x5) rfl (by kernel_rfl) (by kernel_rfl) (by kernel_rfl) (fun _ _ _ h => h) (Or.inl ⟨by rfl, ?hy4x5⟩) (by assumption) ?rest4x5
          case hy4x5 => (intro w hSw; (try dsimp only at hSw); go_simp; try with_reducible rfl)
          (try simp only [Act.put, List.getElem_toArray, List.getElem_cons_zero, List.getElem_cons_succ, List.setIfInBounds_toArray, List.set_cons_zero, List.set_cons_succ])
          have hch := chgRow wY.drew (W + 1) (c3 (.slice pa2 (n + 1) qa2) (.slice pb2 nb2 qb2) (.slice pc nr qc))
          have VN := Lib.hid (show RowH _ _ _ _ _ from Row.chg VD.out hch (.inl (by omega)))
          clear hch
          refine wpAnyH_ready (rs := [5]) (by kernel_rfl) (by simp) ?_
          refine AllReadyH.cons rfl (fun K hK => ?_) AllReadyH.nil
          refine wp_store_row 27 _ _ rfl (W + 1) (c3 (.slice pa2 (n + 1) qa2) (.slice pb2 nb2 qb2) (.slice pc nr qc)) rfl rfl 27 _ RD.out info_heap rfl (by simp [Value.oneCell']) ?_
          refine hK.out _ _ ⟨VN.out.c0, VN.out.c1, VN.out.c2⟩ (fun hHeld => ?_)
          clear hK K
          (try simp only [Act.put, List.getElem_toArray, List.getElem_cons_zero, List.getElem_cons_succ])
          refine wpAnyH_take (i := 6) (v := ?va6x6) rfl (by kernel_rfl) (by kernel_rfl) (by kernel_rfl) (fun _ _ _ h => h) (Or.inl ⟨by rfl, ?hy6x6⟩) (by assumption) ?rest6x6
          case hy6x6 => (intro w hSw; (try dsimp only at hSw); go_simp; try with_reducible rfl)
          (try simp only [Act.put, List.getElem_toArray, List.getElem_cons_zero, List.getElem_cons_succ, List.setIfInBounds_toArray, List.set_cons_zero, List.set_cons_succ])
          refine wpAnyH_done (by kernel_rfl) ?_ _
          clear hHeld y0 y1 y2
          generalize wY.drew = wZ at *
          go_wp2_with fail
          refine bodyPost_ret (res_row_slot Try.results140 (Row.put RD.out (c3 (.slice pa2 (n + 1) qa2) (.slice pb2 nb2 qb2) (.slice pc nr qc))) rfl rfl Try.underlying27 rfl info_heap) rfl ⟨_, _, _, rfl' HE.out, ?_, below_setRow BD.out (by omega) _, fun g cs hr => ?_⟩
          · rw [HE.out]
            exact (OD.out.wholeRow RD.out _).wide (Nat.le_refl _) (by rw [size_setRow]; exact HSZ.out)
          · have := HRL.out g cs hr
            exact Row.putOther (HRD.out g cs hr (by omega)) _ (by omega)
end Go.Proofs.Ytdagkbgobnaijab

