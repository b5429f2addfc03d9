/- The project's darken, shadeAll; ShadeThing. -/
import Derived.Test.YtdagkbgobnaijabCc1
import Derived.Test.YtdagkbgobnaijabPk
namespace Go.Proofs.Ytdagkbgobnaijab
open Go.RowKit Ph

abbrev mkv (a b c v p : Value) : Value := .agg #[a, b, c, v, p]
abbrev c5 (a b c v p : Value) : Array Value := #[a, b, c, v, p]
theorem Own.store1 {w : World} {B g n cap : Nat} {S : List Int} (h : Own w B (.slice (some ⟨g, 0, none⟩) n cap) S) (hn : S.length = n) {z : Nat} (hz : z < n) (x : Int) : Own (w.setCell ⟨g, z, none⟩ (.int .i64 x)) B (.slice (some ⟨g, 0, none⟩) n cap) (S.set z x) ∧ w.grownBy (w.setCell ⟨g, z, none⟩ (.int .i64 x)) (some g) ∧ w.cell? ⟨g, z, none⟩ = some (.int .i64 (S.getD z 0)) ∧ w.frozen? ⟨g, z, none⟩ = false := by
  unfold Own at h
  rw [hn] at h
  obtain ⟨s1, s2⟩ := h.stored z (.int .i64 x)
  refine ⟨?_, s2, ?_, h.frozenAt z⟩
  · unfold Own
    rw [List.length_set, hn, List.map_set]
    exact s1
  · rw [h.cellAt z (by omega), List.getElem?_map, List.getElem?_eq_getElem (by omega)]
    simp [List.getD, List.getElem?_eq_getElem (show z < S.length by omega)]
set_option maxHeartbeats 1600000 in
theorem c_darkenG (a b c p v : Value) (cs : List Int) (k B : Nat) (w : World) (ho : Own w B v cs) (hk : k < cs.length) (hc : Col cs) : Calls Try.prog 106 #[mkv a b c v p, .int .i64 k, .int .i64 1] w fun e w' => e = .returned (.tuple #[]) ∧ Own w' B v (shade cs k) ∧ w.grownBy w' v.ownBlock := by
  have HM := Lib.hid (shade_max (k := k) hc)
  rcases ho.shape' with ⟨_, h0⟩ | ⟨g, cap, rfl⟩
  · rw [h0] at hk; simp at hk
  have hb0 := below1 w (.cells (c5 a b c (.slice (some ⟨g, 0, none⟩) cs.length cap) p) 95)
  have O0 := Lib.hid (ho.below hb0)
  have R0 := Lib.hid (Row.new w 95 (c5 a b c (.slice (some ⟨g, 0, none⟩) cs.length cap) p))
  have hgl := (owns_lt ho rfl).2
  have HG := Lib.hid (show w.grownBy (w.alloc (.cells (c5 a b c (.slice (some ⟨g, 0, none⟩) cs.length cap) p) 95)) (some g) from ⟨rfl, rfl, rfl, by simp, fun i hi _ => hb0.block i hi⟩)
  have HCL := Lib.hid hc
  clear ho hb0 hc
  generalize hn : cs.length = n at *
  have HN := Lib.hid hn; clear hn
  have i1 : (k : Int) < (n : Int) := by omega
  have i0 : (0 : Int) ≤ (k : Int) := by omega
  go_enter Try.func106, Try.ntmps106
  go_wp2_with fail
  generalize hgm : w.heap.size = gm at *
  generalize (w.alloc (.cells (c5 a b c (.slice (some ⟨g, 0, none⟩) n cap) p) 95)) = w1 at *
  obtain ⟨s1, s2, s3, s4⟩ := O0.out.store1 HN.out hk (max (cs.getD k 0) 1)
  generalize cs.getD k 0 = z at *
  have cM : w1.drew.cell? ⟨gm, 3, none⟩ = some (.slice (some ⟨g, 0, none⟩) n cap) := Row.cell R0.out 3
  have cC : w1.drew.cell? ⟨g, k, none⟩ = some (.int .i64 z) := s3
  have fC : w1.drew.frozen? ⟨g, k, none⟩ = false := s4
  have hmx : (if z < 1 then 1 else z) = max z 1 := by split <;> omega
  have hne : gm ≠ g := by omega
  have RS := Lib.hid (Row.other R0.out ⟨g, k, none⟩ hne (.int .i64 (max z 1)))
  have S1 := Lib.hid s1; have S2 := Lib.hid s2
  clear s1 s2 s3 s4
  refine wp_region_held_drew (S := (fun w' => w'.cell? ⟨gm, 3, none⟩ = some (.slice (some ⟨g, 0, none⟩) n cap))) (by kernel_rfl) (cM) (fun hHeld => ?_)
  refine wpAnyH_take (i := 0) (v := ?va0x1) rfl (by kernel_rfl) (by kernel_rfl) (by kernel_rfl) (fun _ _ _ h => h) (Or.inl ⟨by rfl, ?hy0x1⟩) (by assumption) ?rest0x1
  case hy0x1 => (intro w hSw; (try dsimp only at hSw); go_simp; try with_reducible rfl)
  (try simp only [Act.put, List.getElem_toArray, List.getElem_cons_zero, List.setIfInBounds_toArray, List.set_cons_zero, List.set_cons_succ])
  refine wpAnyH_take (i := 1) (v := ?va1x2) rfl (by kernel_rfl) (by kernel_rfl) (by kernel_rfl) (fun _ _ _ h => h) (Or.inl ⟨by rfl, ?hy1x2⟩) (by assumption) ?rest1x2
  case hy1x2 => (intro w hSw; (try dsimp only at hSw); go_simp; try with_reducible rfl)
  (try simp only [Act.put, List.getElem_toArray, List.getElem_cons_zero, List.getElem_cons_succ, List.setIfInBounds_toArray, List.set_cons_zero, List.set_cons_succ])
  refine wpAnyH_take (i := 2) (v := ?va2x3) rfl (by kernel_rfl) (by kernel_rfl) (by kernel_rfl) (fun _ _ _ h => h) (Or.inl ⟨by rfl, ?hy2x3⟩) (by assumption) ?rest2x3
  case hy2x3 => (intro w hSw; (try dsimp only at hSw); go_simp; try with_reducible rfl)
  (try simp only [Act.put, List.getElem_toArray, List.getElem_cons_zero, List.getElem_cons_succ, List.setIfInBounds_toArray, List.set_cons_zero, List.set_cons_succ])
  refine wpAnyH_take (i := 3) (v := ?va3x4) rfl (by kernel_rfl) (by kernel_rfl) (by kernel_rfl) (fun _ _ _ h => h) (Or.inl ⟨by rfl, ?hy3x4⟩) (by assumption) ?rest3x4
  case hy3x4 => (intro w hSw; (try dsimp only at hSw); go_simp; try with_reducible rfl)
  (try simp only [Act.put, List.getElem_toArray, List.getElem_cons_zero, List.getElem_cons_succ, List.setIfInBounds_toArray, List.set_cons_zero, List.set_cons_succ])
  refine wpAnyH_take (i := 4) (v := ?va4x5) rfl (by kernel_rfl) (by kernel_rfl) (by kernel_rfl) (fun _ _ _ h => h) (Or.inl ⟨by rfl, ?hy4x5⟩) (by assumption) ?rest4x5
  case hy4x5 => (intro w hSw; (try dsimp only at hSw); go_simp; try with_reducible rfl)
  (try simp only [Act.put, List.getElem_toArray, List.getElem_cons_zero, List.getElem_cons_succ, List.setIfInBounds_toArray, List.set_cons_zero, List.set_cons_succ])
  refine wpAnyH_take (i := 5) (v := ?va5x6) rfl (by kernel_rfl) (by kernel_rfl) (by kernel_rfl) (fun _ _ _ h => h) (Or.inl ⟨by rfl, ?hy5x6⟩) (by assumption) ?rest5x6
  case hy5x6 => (intro w hSw; (try dsimp only at hSw); go_simp; try with_reducible rfl)
  (try simp only [Act.put, List.getElem_toArray, List.getElem_cons_zero, List.getElem_cons_succ, List.setIfInBounds_toArray, List.set_cons_zero, List.set_cons_succ])
  refine wpAnyH_take (i := 6) (v := ?va6x7) rfl (by kernel_rfl) (by kernel_rfl) (by kernel_rfl) (fun _ _ _ h => h) (Or.inl ⟨by rfl, ?hy6x7⟩) (by assumption) ?rest6x7
  case hy6x7 => (intro w hSw; (try dsimp only at hSw); go_simp; try with_reducible rfl)
  (try simp only [Act.put, List.getElem_toArray, List.getElem_cons_zero, List.getElem_cons_succ, List.setIfInBounds_toArray, List.set_cons_zero, List.set_cons_succ])
  refine wpAnyH_take (i := 8) (v := ?va8x8) rfl (by kernel_rfl) (by kernel_rfl) (by kernel_rfl) (fun _ _ _ h => h) (Or.inl ⟨by rfl, ?hy8x8⟩) (by assumption) ?rest8x8
  case hy8x8 => (intro w hSw; (try dsimp only at hSw); go_simp; try with_reducible rfl)
  (try simp only [Act.put, List.getElem_toArray, List.getElem_cons_zero, List.getElem_cons_succ, List.setIfInBounds_toArray, List.set_cons_zero, List.set_cons_succ])
  refine wpAnyH_ready (rs := [7]) (by kernel_rfl) (by simp) ?_
  refine AllReadyH.cons rfl (fun K hK => ?_) AllReadyH.nil
  go_simp
  refine hK.out _ _ (cM) (fun hHeld => ?_)
  clear hK K
  (try simp only [Act.put, List.getElem_toArray, List.getElem_cons_zero, List.getElem_cons_succ, List.setIfInBounds_toArray, List.set_cons_zero, List.set_cons_succ])
  refine wpAnyH_take (i := 9) (v := ?va9x9) rfl (by kernel_rfl) (by kernel_rfl) (by kernel_rfl) (fun _ _ _ h => h) (Or.inl ⟨by rfl, ?hy9x9⟩) (by assumption) ?rest9x9
  case hy9x9 => (intro w hSw; (try dsimp only at hSw); go_simp; try with_reducible rfl)
  (try simp only [Act.put, List.getElem_toArray, List.getElem_cons_zero, List.getElem_cons_succ, List.setIfInBounds_toArray, List.set_cons_zero, List.set_cons_succ])
  refine wpAnyH_take (i := 10) (v := ?va10x10) rfl (by kernel_rfl) (by kernel_rfl) (by kernel_rfl) (fun _ _ _ h => h) (Or.inl ⟨by rfl, ?hy10x10⟩) (by assumption) ?rest10x10
  case hy10x10 => (intro w hSw; (try dsimp only at hSw); go_simp; try with_reducible rfl)
  (try simp only [Act.put, List.getElem_toArray, List.getElem_cons_zero, List.getElem_cons_succ, List.setIfInBounds_toArray, List.set_cons_zero, List.set_cons_succ])
  refine wpAnyH_ready (rs := [11]) (by kernel_rfl) (by simp) ?_
  refine AllReadyH.cons rfl (fun K hK => ?_) AllReadyH.nil
  go_simp
  first | rw [hmx] | skip
  refine hK.out _ _ (Row.cell RS.out 3) (fun hHeld => ?_)
  clear hK K
  (try simp only [Act.put, List.getElem_toArray, List.getElem_cons_zero, List.getElem_cons_succ, List.setIfInBounds_toArray, List.set_cons_zero, List.set_cons_succ])
  refine wpAnyH_done (by kernel_rfl) ?_ _
  clear hHeld
  generalize w1.setCell ⟨g, k, none⟩ (.int .i64 (max z 1)) = w2 at *
  clear cM cC fC hmx RS
  go_wp2_with fail
  go_end0
  exact ⟨rfl, by rw [← HM.out]; exact S1.out, grownBy_trans HG.out (grownBy_trans S2.out (grown_drew _ _))⟩
set_option maxHeartbeats 1600000 in
theorem c_shadeAll (W : World) (a b c p v rv : Value) (cs zs : List Int) (w : World) (hz : IntsAt W rv zs) (hB : Below W.heap.size W w) (ho : Own w W.heap.size v cs) (hc : Col cs) (hr : ∀ z ∈ zs, inR cs.length z) (hzl : zs.length ≤ 12) :
    Calls Try.prog 133 #[mkv a b c v p, rv] w fun e w' => e = .returned (.tuple #[]) ∧ Own w' W.heap.size v (shades cs zs) ∧ w.grownBy w' v.ownBlock := by
  have hb0 := below1 w (.cells (c5 a b c v p) 95)
  have O0 := Lib.hid (ho.below hb0)
  have R0 := Lib.hid (Row.new w 95 (c5 a b c v p))
  have HG : Hid (w.grownBy (w.alloc (.cells (c5 a b c v p) 95)) v.ownBlock) := ⟨rfl, rfl, rfl, by simp, fun i hi _ => hb0.block i hi⟩
  have HNE : Hid (v.ownBlock ≠ some w.heap.size) := fun e => by have := (owns_lt ho e).2; omega
  have HB0 := Lib.hid (bst hB hb0 hB.size)
  have HLO : Hid (∀ g, v.ownBlock = some g → W.heap.size ≤ g) := fun g e => (owns_lt ho e).1
  obtain ⟨ra, rc, rfl⟩ := hz.shape
  have HZ := Lib.hid hz; have HR := Lib.hid hr; have HC := Lib.hid hc
  clear hz hB ho hc hr hb0
  generalize hm : zs.length = m at *
  have HM := Lib.hid hm; clear hm
  go_enter Try.func133, Try.ntmps133
  go_wp2
  generalize w.heap.size = gm at *
  generalize (w.alloc (.cells (c5 a b c v p) 95)) = w0 at *
  go_loopw [8] (fun i wr => ∃ j : Nat, j ≤ m ∧ i = .int .i64 j ∧ Hid (Own wr W.heap.size v (shades cs (zs.take j))) ∧ Hid (w0.grownBy wr v.ownBlock)) (fun i _ => m - (intOf i).toNat)
  case atStart => exact ⟨0, Nat.zero_le _, rfl, by rw [List.take_zero, shades_nil]; exact O0, World.grownBy.refl _ _⟩
  case round =>
    obtain ⟨j, hj, rfl, how, hgr⟩ := hrel
    by_cases hlt : j < m
    · obtain ⟨zb, zo, rfl, hcz⟩ := HZ.out.at' (by omega)
      have BR : Below W.heap.size W wr := HB0.out.grown hgr.out HB0.out.size (fun k hk => HLO.out k hk)
      have q := cellBelow BR (Nat.le_refl _) (hcz j hlt)
      have RW := Row.grownBy R0.out hgr.out HNE.out
      have d0 := RW.cell 0
      have d1 := RW.cell 1
      have d2 := RW.cell 2
      have d3 := RW.cell 3
      have d4 := RW.cell 4
      have hjl : j < zs.length := by rw [HM.out]; exact hlt
      have hin := HR.out (zs.getD j 0) (by rw [List.getD, List.getElem?_eq_getElem hjl]; exact List.getElem_mem hjl)
      have HS := Lib.hid (shades_take_succ (cs := cs) hjl)
      have i1 : (j : Int) < (m : Int) := by omega
      clear hcz RW hjl
      generalize zs.getD j 0 = z at *
      by_cases z1 : z = -1
      · subst z1
        have HE : Hid (shades cs (zs.take (j + 1)) = shades cs (zs.take j)) := by unfold Hid; rw [HS.out]; exact shade_neg (by omega)
        clear hin
        go_wp2_with fail
        go_roundw
        case rel => exact ⟨j + 1, by omega, by go_num, by rw [HE.out]; exact how, hgr⟩
        case measure => simp [intOf]; omega
      · obtain ⟨t, rfl⟩ : ∃ t : Nat, z = t := ⟨z.toNat, by rcases hin with h | h <;> omega⟩
        have HTN : Hid (t < (shades cs (zs.take j)).length) := by unfold Hid; rw [shades_len]; rcases hin with h | h <;> omega
        have i2 : ((t : Int) == -1) = false := by simp
        clear hin z1
        go_wp2_with fail
        refine (c_darkenG a b c p v _ t _ _ how.out HTN.out HC.out.shades).mono ?_
        rintro e w6 ⟨rfl, ho6, hg6⟩
        have O6 := Lib.hid ho6
        have G6 := Lib.hid (grownBy_trans hgr.out hg6)
        clear ho6 hg6 d0 d1 d2 d3 d4 q
        go_wp2_with fail
        go_roundw
        case rel => exact ⟨j + 1, by omega, by go_num, by rw [HS.out]; exact O6, G6⟩
        case measure => simp [intOf]; omega
    · obtain rfl : j = m := by omega
      have HE : Hid (zs.take j = zs) := List.take_of_length_le (by rw [HM.out]; exact Nat.le_refl _)
      go_wp2_with fail
      go_end0
      exact ⟨rfl, by rw [← HE.out]; exact how.out, grownBy_trans HG.out hgr.out⟩
theorem c_hasThing (v : Value) (cs : List Int) (k : Int) (w : World) (hz : IntsAt w v cs) : Calls Try.prog 115 #[v, .int .i64 k] w fun e w' => e = .returned (.bool (hasB cs k)) ∧ w = w' := by
  obtain ⟨va, vc, rfl⟩ := hz.shape
  clear hz
  have hE : hasB cs k = (decide (0 ≤ k) && decide (k < cs.length)) := rfl
  generalize hasB cs k = y at *
  generalize cs.length = n at *
  by_cases h0 : 0 ≤ k
  · by_cases h1 : k < (n : Int)
    · have HE : Hid (y = true) := by unfold Hid; rw [hE, decide_eq_true h0, decide_eq_true h1]; rfl
      clear hE
      go_enter Try.func115, Try.ntmps115
      go_wp2
      go_ret
      exact ⟨r_b HE.out.symm, rfl⟩
    · have HE : Hid (y = false) := by unfold Hid; rw [hE, decide_eq_false h1]; simp
      clear hE
      go_enter Try.func115, Try.ntmps115
      go_wp2
      go_ret
      exact ⟨r_b HE.out.symm, rfl⟩
  · have HE : Hid (y = false) := by unfold Hid; rw [hE, decide_eq_false h0]; rfl
    clear hE
    go_enter Try.func115, Try.ntmps115
    go_wp2
    go_ret
    exact ⟨r_b HE.out.symm, rfl⟩
theorem hasB_nat {cs : List Int} {k : Int} (h : hasB cs k = true) : ∃ t : Nat, k = t ∧ t < cs.length := by
  unfold hasB at h
  simp only [Bool.and_eq_true, decide_eq_true_eq] at h
  exact ⟨k.toNat, by omega, by omega⟩
set_option maxHeartbeats 1600000 in
theorem c_ShadeThing (v : Value) (zs : List Int) (k : Int) (w : World) (hz : IntsAt w v zs) : Calls Try.prog 64 #[v, .int .i64 k] w (EndI (shadeR zs k) (shadeOk zs k) w) := by
  have HC := Lib.hid (c_areColours v zs w hz)
  have HT := Lib.hid (c_hasThing v zs k w hz)
  have HR : Hid (shadeR zs k = if shadeOk zs k = true then shade zs k else []) := rfl
  have HO : Hid (shadeOk zs k = (colsB zs && hasB zs k)) := rfl
  have HCB := Lib.hid (colsB_iff (cs := zs)).1
  have HHB := Lib.hid (hasB_nat (cs := zs) (k := k))
  have HZ := Lib.hid hz
  clear hz
  generalize colsB zs = x at *
  generalize hasB zs k = y at *
  generalize shadeR zs k = r at *
  generalize shadeOk zs k = ok at *
  cases x
  · have HE : Hid (ok = false) := by unfold Hid; rw [HO.out]; rfl
    rw [HE.out] at HR
    go_enter Try.func64, Try.ntmps64
    go_wp2_with (go_at_call 105; refine HC.out.mono ?_; rintro e w1 ⟨rfl, rfl⟩)
    go_ret2
    exact endI_no (Below.refl _ _) HR.out HE.out
  cases y
  · have HE : Hid (ok = false) := by unfold Hid; rw [HO.out]; rfl
    rw [HE.out] at HR
    go_enter Try.func64, Try.ntmps64
    go_wp2_with (first
      | (go_at_call 105; refine HC.out.mono ?_; rintro e w1 ⟨rfl, rfl⟩)
      | (go_at_call 115; refine HT.out.mono ?_; rintro e w1 ⟨rfl, rfl⟩))
    go_ret2
    exact endI_no (Below.refl _ _) HR.out HE.out
  · have HE : Hid (ok = true) := by unfold Hid; rw [HO.out]; rfl
    rw [HE.out] at HR
    obtain ⟨hn12, hcol⟩ := HCB.out rfl
    obtain ⟨t, rfl, htn⟩ := HHB.out rfl
    have HCOL := Lib.hid hcol; have HTN : Hid (t < zs.length) := htn; have HN := Lib.hid hn12
    clear hcol htn hn12 HCB HHB
    go_enter Try.func64, Try.ntmps64
    go_wp2_with (first
      | (go_at_call 105; refine HC.out.mono ?_; rintro e w1 ⟨rfl, rfl⟩)
      | (go_at_call 115; refine HT.out.mono ?_; rintro e w1 ⟨rfl, rfl⟩))
    refine (c_copyInts v zs w HZ.out (by have := HN.out; omega)).mono ?_
    rintro e w1 ⟨v1, rfl, ho1, hb1⟩
    obtain ⟨pn, qn, rfl⟩ := ho1.ints.shape
    generalize hnn : zs.length = nn at *
    have HNN := Lib.hid hnn; clear hnn
    have hba := below1 w1 (.cells (c5 (.slice none 0 0) (.slice none 0 0) (.slice none 0 0) (.slice pn nn qn) .nilFunc) 95)
    have O1 := Lib.hid (ho1.below hba)
    have B1 := Lib.hid (bst hb1 hba hb1.size)
    have R1 := Row.new w1 95 (c5 (.slice none 0 0) (.slice none 0 0) (.slice none 0 0) (.slice pn nn qn) .nilFunc)
    have HNE : Hid ((Value.slice pn nn qn).ownBlock ≠ some w1.heap.size) := fun e => by have := (owns_lt ho1 e).2; omega
    have d0 := R1.cell 0
    have d1 := R1.cell 1
    have d2 := R1.cell 2
    have d3 := R1.cell 3
    have d4 := R1.cell 4
    have RR := Lib.hid R1
    clear ho1 hb1 hba R1
    go_wp2_with fail
    refine (c_darkenG _ _ _ _ (.slice pn nn qn) zs t _ _ O1.out (by rw [HNN.out]; exact HTN.out) HCOL.out).mono ?_
    rintro e w6 ⟨rfl, ho6, hg6⟩
    have O6 := Lib.hid ho6
    have R6 := Row.grownBy RR.out hg6 HNE.out
    have B6 := Lib.hid (B1.out.grown hg6 B1.out.size (fun g e => (owns_lt O1.out e).1))
    clear d0 d1 d2 d3 d4
    have d3 := R6.cell 3
    clear ho6 hg6 R6
    go_wp2_with fail
    go_ret2
    exact endI_yes B6.out O6.out (Nat.le_refl _) HR.out HE.out
end Go.Proofs.Ytdagkbgobnaijab
