/- The project's darken to Black, StartColours, areColoursOf. -/
import Derived.Test.YtdagkbgobnaijabCs2
namespace Go.Proofs.Ytdagkbgobnaijab
open Go.RowKit Ph

set_option maxRecDepth 100000 in
set_option maxHeartbeats 1600000 in
theorem c_darkenB (W : World) (a b c p v : Value) (fs : List (List Int)) (cs : List Int) (k : Nat) (w : World) (hF : RowsAt W a fs) (hB : Below W.heap.size W w) (ho : Own w W.heap.size v cs) (hc : Col cs) (hk : k < cs.length) (hkf : k < fs.length) (h0 : cs.getD k 0 ≠ 0) (hr : ∀ z ∈ fs.getD k [], inR cs.length z) (hl : (fs.getD k []).length ≤ 3) :
    Calls Try.prog 106 #[mkv a b c v p, .int .i64 k, .int .i64 2] w fun e w' => e = .returned (.tuple #[]) ∧ Own w' W.heap.size v (scan cs (fs.getD k []) k) ∧ w.grownBy w' v.ownBlock := by
  have HM := Lib.hid (scan_eq (k := k) (fs.getD k []) h0)
  have HK := Lib.hid (shades_keeps (k := k) (fs.getD k []) h0)
  have hz2 := hc k
  have HLN := Lib.hid (shades_len (fs.getD k []) cs)
  rcases ho.shape' with ⟨_, h0'⟩ | ⟨g, cap, rfl⟩
  · rw [h0'] at hk; simp at hk
  obtain ⟨fa, fc, rfl⟩ := hF.shape
  obtain ⟨fb, fo, rfl, hcf⟩ := hF.at' (by omega)
  obtain ⟨u, quf, huf⟩ := hcf k hkf
  obtain ⟨ua, uc, rfl⟩ := huf.shape
  have HSA : Hid (∀ w', Below W.heap.size W w' → Own w' W.heap.size (.slice (some ⟨g, 0, none⟩) cs.length cap) cs → Calls Try.prog 133 #[mkv (.slice (some ⟨fb, fo, none⟩) fs.length fc) b c (.slice (some ⟨g, 0, none⟩) cs.length cap) p, .slice ua (fs.getD k []).length uc] w' fun e w'' => e = .returned (.tuple #[]) ∧ Own w'' W.heap.size (.slice (some ⟨g, 0, none⟩) cs.length cap) (shades cs (fs.getD k [])) ∧ w'.grownBy w'' (some g)) := fun w' hb ho => c_shadeAll W _ _ _ _ _ _ cs _ w' huf hb ho hc hr (by omega)
  have hb0 := below1 w (.cells (c5 (.slice (some ⟨fb, fo, none⟩) fs.length fc) b c (.slice (some ⟨g, 0, none⟩) cs.length cap) p) 95)
  have O0 := Lib.hid (ho.below hb0)
  have R0 := Lib.hid (Row.new w 95 (c5 (.slice (some ⟨fb, fo, none⟩) fs.length fc) b c (.slice (some ⟨g, 0, none⟩) cs.length cap) p))
  have B0 := Lib.hid (bst hB hb0 hB.size)
  have hgl : g < w.heap.size := (owns_lt ho rfl).2
  have HLO : Hid (∀ g', some g = some g' → W.heap.size ≤ g') := fun g' e => (owns_lt ho e).1
  have HG := Lib.hid (show w.grownBy (w.alloc (.cells (c5 (.slice (some ⟨fb, fo, none⟩) fs.length fc) b c (.slice (some ⟨g, 0, none⟩) cs.length cap) p) 95)) (some g) from ⟨rfl, rfl, rfl, by simp, fun i hi _ => hb0.block i hi⟩)
  have HNE : Hid (some g ≠ some w.heap.size) := by unfold Hid; simp; omega
  have EU := Lib.hid quf
  clear ho hb0 hc h0 hr hF hB hcf huf quf
  generalize fs.getD k [] = row at *
  generalize row.length = ul at *
  generalize hn : cs.length = n at *
  have HN := Lib.hid hn; clear hn
  generalize fs.length = fl at *
  have i1 : (k : Int) < (n : Int) := by omega
  have i2 : (k : Int) < (fl : Int) := by omega
  have i0 : (0 : Int) ≤ (k : Int) := by omega
  go_enter Try.func106, Try.ntmps106
  go_wp2_with fail
  generalize w.heap.size = gm at *
  generalize (w.alloc (.cells (c5 (.slice (some ⟨fb, fo, none⟩) fl fc) b c (.slice (some ⟨g, 0, none⟩) n cap) p) 95)) = w1 at *
  have BD := Lib.hid (below_drew B0.out)
  have OD : Hid (Own w1.drew W.heap.size (.slice (some ⟨g, 0, none⟩) n cap) cs) := O0.out
  have RD : Hid (Row w1.drew gm 95 (c5 (.slice (some ⟨fb, fo, none⟩) fl fc) b c (.slice (some ⟨g, 0, none⟩) n cap) p)) := R0.out
  have GD := Lib.hid (grownBy_trans HG.out (grown_drew w1 (some g)))
  have EUW : Hid (W.cell? ⟨fb, fo + k, none⟩ = some (.slice ua ul uc)) := EU
  have eu := cellBelow BD.out (Nat.le_refl _) EUW.out
  have e0 := RD.out.cell 0
  have e1 := RD.out.cell 1
  have e2 := RD.out.cell 2
  have e3 := RD.out.cell 3
  have e4 := RD.out.cell 4
  refine wp_region_held_drew (S := (fun w' => w'.cell? ⟨gm, 0, none⟩ = some (.slice (some ⟨fb, fo, none⟩) fl fc) ∧ w'.cell? ⟨gm, 1, none⟩ = some b ∧ w'.cell? ⟨gm, 2, none⟩ = some c ∧ w'.cell? ⟨gm, 3, none⟩ = some (.slice (some ⟨g, 0, none⟩) n cap) ∧ w'.cell? ⟨gm, 4, none⟩ = some p ∧ w'.cell? ⟨fb, fo + k, none⟩ = some (.slice ua ul uc))) (by kernel_rfl) (⟨e0, e1, e2, e3, e4, eu⟩) (fun hHeld => ?_)
  refine wpAnyH_take (i := 0) (v := ?va0x1) rfl (by kernel_rfl) (by kernel_rfl) (by kernel_rfl) (fun _ _ _ h => h) (Or.inl ⟨by rfl, ?hy0x1⟩) (by assumption) ?rest0x1
  case hy0x1 => (intro w hSw; (try dsimp only at hSw); go_simp; try with_reducible rfl)
  (try simp only [Act.put, List.getElem_toArray, List.getElem_cons_zero, List.setIfInBounds_toArray, List.set_cons_zero, List.set_cons_succ])
  refine wpAnyH_take (i := 1) (v := ?va1x2) rfl (by kernel_rfl) (by kernel_rfl) (by kernel_rfl) (fun _ _ _ h => h) (Or.inl ⟨by rfl, ?hy1x2⟩) (by assumption) ?rest1x2
  case hy1x2 => (intro w hSw; (try dsimp only at hSw); go_simp; try with_reducible rfl)
  (try simp only [Act.put, List.getElem_toArray, List.getElem_cons_zero, List.getElem_cons_succ, List.setIfInBounds_toArray, List.set_cons_zero, List.set_cons_succ])
  refine wpAnyH_take (i := 2) (v := ?va2x3) rfl (by kernel_rfl) (by kernel_rfl) (by kernel_rfl) (fun _ _ _ h => h) (Or.inl ⟨by rfl, ?hy2x3⟩) (by assumption) ?rest2x3
  case hy2x3 => (intro w hSw; (try dsimp only at hSw); go_simp; try with_reducible rfl)
  (try simp only [Act.put, List.getElem_toArray, List.getElem_cons_zero, List.getElem_cons_succ, List.setIfInBounds_toArray, List.set_cons_zero, List.set_cons_succ])
  refine wpAnyH_take (i := 3) (v := ?va3x4) rfl (by kernel_rfl) (by kernel_rfl) (by kernel_rfl) (fun _ _ _ h => h) (Or.inl ⟨by rfl, ?hy3x4⟩) (by assumption) ?rest3x4
  case hy3x4 => (intro w hSw; (try dsimp only at hSw); go_simp; try with_reducible rfl)
  (try simp only [Act.put, List.getElem_toArray, List.getElem_cons_zero, List.getElem_cons_succ, List.setIfInBounds_toArray, List.set_cons_zero, List.set_cons_succ])
  refine wpAnyH_take (i := 4) (v := ?va4x5) rfl (by kernel_rfl) (by kernel_rfl) (by kernel_rfl) (fun _ _ _ h => h) (Or.inl ⟨by rfl, ?hy4x5⟩) (by assumption) ?rest4x5
  case hy4x5 => (intro w hSw; (try dsimp only at hSw); go_simp; try with_reducible rfl)
  (try simp only [Act.put, List.getElem_toArray, List.getElem_cons_zero, List.getElem_cons_succ, List.setIfInBounds_toArray, List.set_cons_zero, List.set_cons_succ])
  refine wpAnyH_take (i := 5) (v := ?va5x6) rfl (by kernel_rfl) (by kernel_rfl) (by kernel_rfl) (fun _ _ _ h => h) (Or.inl ⟨by rfl, ?hy5x6⟩) (by assumption) ?rest5x6
  case hy5x6 => (intro w hSw; (try dsimp only at hSw); go_simp; try with_reducible rfl)
  (try simp only [Act.put, List.getElem_toArray, List.getElem_cons_zero, List.getElem_cons_succ, List.setIfInBounds_toArray, List.set_cons_zero, List.set_cons_succ])
  refine wpAnyH_take (i := 6) (v := ?va6x7) rfl (by kernel_rfl) (by kernel_rfl) (by kernel_rfl) (fun _ _ _ h => h) (Or.inl ⟨by rfl, ?hy6x7⟩) (by assumption) ?rest6x7
  case hy6x7 => (intro w hSw; (try dsimp only at hSw); go_simp; try with_reducible rfl)
  (try simp only [Act.put, List.getElem_toArray, List.getElem_cons_zero, List.getElem_cons_succ, List.setIfInBounds_toArray, List.set_cons_zero, List.set_cons_succ])
  refine wpAnyH_ready (rs := [7]) (by kernel_rfl) (by simp) ?_
  refine AllReadyH.cons rfl (fun K hK => ?_) AllReadyH.nil
  go_simp
  refine (HSA.out _ BD.out OD.out).mono ?_
  rintro e w2 ⟨rfl, ho2, hg2⟩
  have R2 := Lib.hid (Row.grownBy RD.out hg2 HNE.out)
  have EU2 := Lib.hid (cellBelow (BD.out.grown hg2 BD.out.size HLO.out) (Nat.le_refl _) EUW.out)
  refine hK.out _ _ (⟨R2.out.cell 0, R2.out.cell 1, R2.out.cell 2, R2.out.cell 3, R2.out.cell 4, EU2.out⟩) (fun hHeld => ?_)
  clear hK K
  (try simp only [Act.put, List.getElem_toArray, List.getElem_cons_zero, List.getElem_cons_succ, List.setIfInBounds_toArray, List.set_cons_zero, List.set_cons_succ])
  refine wpAnyH_done (by kernel_rfl) ?_ _
  clear hHeld
  have O2 := Lib.hid ho2
  have G2 := Lib.hid (grownBy_trans GD.out hg2)
  clear e0 e1 e2 e3 e4 eu ho2 hg2 EU2 BD OD RD
  go_wp2_with fail
  obtain ⟨s1, s2, s3, s4⟩ := O2.out.store1 HLN.out hk 2
  rw [HK.out] at s3
  generalize cs.getD k 0 = z at *
  have cM : w2.drew.cell? ⟨gm, 3, none⟩ = some (.slice (some ⟨g, 0, none⟩) n cap) := Row.cell R2.out 3
  have cC : w2.drew.cell? ⟨g, k, none⟩ = some (.int .i64 z) := s3
  have fC : w2.drew.frozen? ⟨g, k, none⟩ = false := s4
  have hmx : (if z < 2 then 2 else z) = 2 := by split <;> omega
  have hne : gm ≠ g := by omega
  have RS := Lib.hid (Row.other R2.out ⟨g, k, none⟩ hne (.int .i64 2))
  have S1 := Lib.hid s1; have S2 := Lib.hid s2
  clear s1 s2 s3 s4
  refine wp_region_held_drew (S := (fun w' => w'.cell? ⟨gm, 3, none⟩ = some (.slice (some ⟨g, 0, none⟩) n cap))) (by kernel_rfl) (cM) (fun hHeld => ?_)
  refine wpAnyH_take (i := 0) (v := ?va0x8) rfl (by kernel_rfl) (by kernel_rfl) (by kernel_rfl) (fun _ _ _ h => h) (Or.inl ⟨by rfl, ?hy0x8⟩) (by assumption) ?rest0x8
  case hy0x8 => (intro w hSw; (try dsimp only at hSw); go_simp; try with_reducible rfl)
  (try simp only [Act.put, List.getElem_toArray, List.getElem_cons_zero, List.setIfInBounds_toArray, List.set_cons_zero, List.set_cons_succ])
  refine wpAnyH_take (i := 1) (v := ?va1x9) rfl (by kernel_rfl) (by kernel_rfl) (by kernel_rfl) (fun _ _ _ h => h) (Or.inl ⟨by rfl, ?hy1x9⟩) (by assumption) ?rest1x9
  case hy1x9 => (intro w hSw; (try dsimp only at hSw); go_simp; try with_reducible rfl)
  (try simp only [Act.put, List.getElem_toArray, List.getElem_cons_zero, List.getElem_cons_succ, List.setIfInBounds_toArray, List.set_cons_zero, List.set_cons_succ])
  refine wpAnyH_take (i := 2) (v := ?va2x10) rfl (by kernel_rfl) (by kernel_rfl) (by kernel_rfl) (fun _ _ _ h => h) (Or.inl ⟨by rfl, ?hy2x10⟩) (by assumption) ?rest2x10
  case hy2x10 => (intro w hSw; (try dsimp only at hSw); go_simp; try with_reducible rfl)
  (try simp only [Act.put, List.getElem_toArray, List.getElem_cons_zero, List.getElem_cons_succ, List.setIfInBounds_toArray, List.set_cons_zero, List.set_cons_succ])
  refine wpAnyH_take (i := 3) (v := ?va3x11) rfl (by kernel_rfl) (by kernel_rfl) (by kernel_rfl) (fun _ _ _ h => h) (Or.inl ⟨by rfl, ?hy3x11⟩) (by assumption) ?rest3x11
  case hy3x11 => (intro w hSw; (try dsimp only at hSw); go_simp; try with_reducible rfl)
  (try simp only [Act.put, List.getElem_toArray, List.getElem_cons_zero, List.getElem_cons_succ, List.setIfInBounds_toArray, List.set_cons_zero, List.set_cons_succ])
  refine wpAnyH_take (i := 4) (v := ?va4x12) rfl (by kernel_rfl) (by kernel_rfl) (by kernel_rfl) (fun _ _ _ h => h) (Or.inl ⟨by rfl, ?hy4x12⟩) (by assumption) ?rest4x12
  case hy4x12 => (intro w hSw; (try dsimp only at hSw); go_simp; try with_reducible rfl)
  (try simp only [Act.put, List.getElem_toArray, List.getElem_cons_zero, List.getElem_cons_succ, List.setIfInBounds_toArray, List.set_cons_zero, List.set_cons_succ])
  refine wpAnyH_take (i := 5) (v := ?va5x13) rfl (by kernel_rfl) (by kernel_rfl) (by kernel_rfl) (fun _ _ _ h => h) (Or.inl ⟨by rfl, ?hy5x13⟩) (by assumption) ?rest5x13
  case hy5x13 => (intro w hSw; (try dsimp only at hSw); go_simp; try with_reducible rfl)
  (try simp only [Act.put, List.getElem_toArray, List.getElem_cons_zero, List.getElem_cons_succ, List.setIfInBounds_toArray, List.set_cons_zero, List.set_cons_succ])
  refine wpAnyH_take (i := 6) (v := ?va6x14) rfl (by kernel_rfl) (by kernel_rfl) (by kernel_rfl) (fun _ _ _ h => h) (Or.inl ⟨by rfl, ?hy6x14⟩) (by assumption) ?rest6x14
  case hy6x14 => (intro w hSw; (try dsimp only at hSw); go_simp; try with_reducible rfl)
  (try simp only [Act.put, List.getElem_toArray, List.getElem_cons_zero, List.getElem_cons_succ, List.setIfInBounds_toArray, List.set_cons_zero, List.set_cons_succ])
  refine wpAnyH_take (i := 8) (v := ?va8x15) rfl (by kernel_rfl) (by kernel_rfl) (by kernel_rfl) (fun _ _ _ h => h) (Or.inl ⟨by rfl, ?hy8x15⟩) (by assumption) ?rest8x15
  case hy8x15 => (intro w hSw; (try dsimp only at hSw); go_simp; try with_reducible rfl)
  (try simp only [Act.put, List.getElem_toArray, List.getElem_cons_zero, List.getElem_cons_succ, List.setIfInBounds_toArray, List.set_cons_zero, List.set_cons_succ])
  refine wpAnyH_ready (rs := [7]) (by kernel_rfl) (by simp) ?_
  refine AllReadyH.cons rfl (fun K hK => ?_) AllReadyH.nil
  go_simp
  refine hK.out _ _ (cM) (fun hHeld => ?_)
  clear hK K
  (try simp only [Act.put, List.getElem_toArray, List.getElem_cons_zero, List.getElem_cons_succ, List.setIfInBounds_toArray, List.set_cons_zero, List.set_cons_succ])
  refine wpAnyH_take (i := 9) (v := ?va9x16) rfl (by kernel_rfl) (by kernel_rfl) (by kernel_rfl) (fun _ _ _ h => h) (Or.inl ⟨by rfl, ?hy9x16⟩) (by assumption) ?rest9x16
  case hy9x16 => (intro w hSw; (try dsimp only at hSw); go_simp; try with_reducible rfl)
  (try simp only [Act.put, List.getElem_toArray, List.getElem_cons_zero, List.getElem_cons_succ, List.setIfInBounds_toArray, List.set_cons_zero, List.set_cons_succ])
  refine wpAnyH_take (i := 10) (v := ?va10x17) rfl (by kernel_rfl) (by kernel_rfl) (by kernel_rfl) (fun _ _ _ h => h) (Or.inl ⟨by rfl, ?hy10x17⟩) (by assumption) ?rest10x17
  case hy10x17 => (intro w hSw; (try dsimp only at hSw); go_simp; try with_reducible rfl)
  (try simp only [Act.put, List.getElem_toArray, List.getElem_cons_zero, List.getElem_cons_succ, List.setIfInBounds_toArray, List.set_cons_zero, List.set_cons_succ])
  refine wpAnyH_ready (rs := [11]) (by kernel_rfl) (by simp) ?_
  refine AllReadyH.cons rfl (fun K hK => ?_) AllReadyH.nil
  go_simp
  first | rw [hmx] | skip
  refine hK.out _ _ (Row.cell RS.out 3) (fun hHeld => ?_)
  clear hK K
  (try simp only [Act.put, List.getElem_toArray, List.getElem_cons_zero, List.getElem_cons_succ, List.setIfInBounds_toArray, List.set_cons_zero, List.set_cons_succ])
  refine wpAnyH_done (by kernel_rfl) ?_ _
  clear hHeld
  generalize w2.setCell ⟨g, k, none⟩ (.int .i64 2) = w3 at *
  clear cM cC fC hmx RS
  go_wp2_with fail
  go_end0
  exact ⟨rfl, by rw [← HM.out]; exact S1.out, grownBy_trans G2.out (grownBy_trans S2.out (grown_drew _ _))⟩
set_option maxHeartbeats 1600000 in
theorem c_coloursAtStart (a b c : Value) (h : H) (w : World) (hA : HeapAt w a b c h) (hG : Ph.Good h) : Calls Try.prog 85 #[hv a b c] w fun e w' => ∃ v', e = .returned v' ∧ Own w' w.heap.size v' (startC h) ∧ Below w.heap.size w w' := by
  obtain ⟨i0, hi, hz0, hz1, hz2⟩ := info_parts info_int
  have hb0 := below1 w (.cells (c3 a b c) 27)
  have hn12 := hG.n
  have HR : Hid (∀ z ∈ h.r, inR h.f.length z) := fun z hz => (refs_bound hG hG.rr z hz).imp id (fun h => ⟨h.1, h.2.1⟩)
  have HRN : Hid (h.r.length ≤ 12) := by unfold Hid; have := hG.rn; omega
  have hll := hG.ll
  have HZ := Lib.hid hA.r
  have R0 := Lib.hid (show RowH _ _ a b c from Row.new w 27 (c3 a b c))
  have HB0 := Lib.hid hb0
  obtain ⟨la, lc, rfl⟩ := hA.l.shape
  obtain ⟨ra, rc, rfl⟩ := hA.r.shape
  have HS : Hid (startC h = shades (List.replicate h.f.length 0) h.r) := rfl
  generalize startC h = out at *
  clear hA hG hb0
  rw [hll] at *
  generalize hn : h.f.length = n at *
  generalize hm : h.r.length = m at *
  have HM := Lib.hid hm
  clear hn hm hll
  have d0 := R0.out.c0
  have d1 := R0.out.c1
  have d2 := R0.out.c2
  go_enter Try.func85, Try.ntmps85
  go_wp2_with (at_make; refine wpList_make_full _ rfl _ _ 25 rfl w.heap.size 3 i0 (.int .i64 0) 1 Try.underlying25 hi hz0 hz1 .i64 .i64 _ _ n rfl rfl rfl rfl (by rw [hz2]; omega) (by unfold maxLen; omega) (by simp) ?_; intro w1 hown hgr
               rw [rep_ints, show (w.alloc (.cells (c3 a (.slice la n lc) (.slice ra m rc)) 27)).heap.size = w.heap.size + 1 from World.size_alloc _ _] at hown
               have O1 : Hid (Own w1 w.heap.size (.slice (some ⟨w.heap.size + 1, 0, none⟩) n n) (List.replicate n 0)) := (by { unfold Hid Own; rw [List.length_replicate]; exact hown })
               have B1 := Lib.hid (HB0.out.grown hgr HB0.out.size (fun k hk => by cases hk))
               have R1 := Lib.hid (show RowH _ _ _ _ _ from (Row.grown R0.out hgr).alloc (.cells (c5 (.slice none 0 0) (.slice none 0 0) (.slice none 0 0) (.slice (some ⟨w.heap.size + 1, 0, none⟩) n n) .nilFunc) 95))
               have e2 := R1.out.c2
               have RM := Lib.hid (Row.new w1 95 (c5 (.slice none 0 0) (.slice none 0 0) (.slice none 0 0) (.slice (some ⟨w.heap.size + 1, 0, none⟩) n n) .nilFunc))
               have m0 := RM.out.cell 0
               have m1 := RM.out.cell 1
               have m2 := RM.out.cell 2
               have m3 := RM.out.cell 3
               have m4 := RM.out.cell 4
               clear hown hgr)
  have B2 := Lib.hid (B1.out.alloc B1.out.size (.cells (c5 (.slice none 0 0) (.slice none 0 0) (.slice none 0 0) (.slice (some ⟨w.heap.size + 1, 0, none⟩) n n) .nilFunc) 95))
  have O2 := Lib.hid (O1.out.below (below1 w1 (.cells (c5 (.slice none 0 0) (.slice none 0 0) (.slice none 0 0) (.slice (some ⟨w.heap.size + 1, 0, none⟩) n n) .nilFunc) 95)))
  have HNE : Hid (some (w.heap.size + 1) ≠ some w1.heap.size) := by unfold Hid; have : w.heap.size + 1 < w1.heap.size := (owns_lt O1.out rfl).2; simp; omega
  refine (c_shadeAll w _ _ _ _ _ _ _ h.r _ HZ.out B2.out O2.out (Col.rep n) (by rw [List.length_replicate]; exact HR.out) (by rw [HM.out]; exact HRN.out)).mono ?_
  rintro e w6 ⟨rfl, ho6, hg6⟩
  have O6 := Lib.hid ho6
  have B6 := Lib.hid (B2.out.grown hg6 B2.out.size (fun g e => (owns_lt O2.out e).1))
  have R6 := Row.grownBy RM.out hg6 HNE.out
  clear d0 d1 d2 e2 m0 m1 m2 m3 m4
  have m3 := R6.cell 3
  clear R6 ho6 hg6
  go_wp2_with fail
  go_ret
  exact ⟨_, rfl, by rw [HS.out]; exact O6.out, B6.out⟩
set_option maxHeartbeats 1600000 in
theorem c_StartColours (a b c : Value) (h : H) (w : World) (hA : HeapAt w a b c h) : Calls Try.prog 54 #[hv a b c] w (EndI (startR h) (good h) w) := by
  have hb0 := below1 w (.cells (c3 a b c) 27)
  have A0 := Lib.hid (hA.below hb0)
  have HB := Lib.hid hb0
  have R0 := Lib.hid (show RowH _ _ a b c from Row.new w 27 (c3 a b c))
  clear hA hb0
  have HC := Lib.hid (c_GoodHeap a b c h _ A0.out)
  generalize hg : good h = x at *
  have HX := Lib.hid hg
  clear hg
  have c0 := R0.out.c0
  have c1 := R0.out.c1
  have c2 := R0.out.c2
  cases x
  · have HE := Lib.hid (startR_no HX.out)
    go_enter Try.func54, Try.ntmps54
    go_wp2_with (go_at_call 83; refine HC.out.mono ?_; rintro e w1 ⟨rfl, hb1⟩; have B1 := Lib.hid (bst HB.out hb1 HB.out.size); clear hb1)
    go_ret2
    exact endI_no B1.out HE.out rfl
  · have HE := Lib.hid (startR_yes HX.out)
    have G := Lib.hid (good_iff.1 HX.out)
    go_enter Try.func54, Try.ntmps54
    go_wp2_with (go_at_call 83; refine HC.out.mono ?_; rintro e w1 ⟨rfl, hb1⟩; have B1 := Lib.hid (bst HB.out hb1 HB.out.size); have A1 := Lib.hid (A0.out.below hb1); have R1 := R0.out.below hb1; have d0 := R1.c0; have d1 := R1.c1; have d2 := R1.c2; clear hb1 R1)
    refine (c_coloursAtStart a b c h _ A1.out G.out).mono ?_
    rintro e w2 ⟨v', rfl, ho2, hb2⟩
    have B2 := Lib.hid (bst B1.out hb2 B1.out.size); have O2 := Lib.hid ho2
    clear hb2 ho2
    go_wp2_with fail
    go_ret2
    exact endI_yes B2.out O2.out B1.out.size HE.out rfl
set_option maxHeartbeats 1600000 in
theorem c_areColoursOf (a b c v : Value) (h : H) (cs : List Int) (w : World) (hA : HeapAt w a b c h) (hz : IntsAt w v cs) : Calls Try.prog 79 #[hv a b c, v] w fun e w' => e = .returned (.bool (bothB h cs)) ∧ Below w.heap.size w w' := by
  have hb0 := below1 w (.cells (c3 a b c) 27)
  have A0 := Lib.hid (hA.below hb0)
  have Z0 := Lib.hid (hz.below hb0)
  have HB := Lib.hid hb0
  have R0 := Lib.hid (show RowH _ _ a b c from Row.new w 27 (c3 a b c))
  obtain ⟨la, lc, rfl⟩ := hA.l.shape
  obtain ⟨va, vc, rfl⟩ := hz.shape
  clear hA hb0 hz
  have HC := Lib.hid (c_GoodHeap _ _ _ h _ A0.out)
  have HCA : Hid (∀ w', IntsAt w' (.slice va cs.length vc) cs → Calls Try.prog 105 #[.slice va cs.length vc] w' fun e w'' => e = .returned (.bool (colsB cs)) ∧ w' = w'') := fun w' hh => c_areColours _ cs w' hh
  have hE : bothB h cs = (good h && decide (cs.length = h.l.length) && colsB cs) := rfl
  generalize good h = x at *
  generalize colsB cs = y at *
  generalize bothB h cs = r at *
  generalize h.l.length = n at *
  generalize cs.length = m at *
  have c0 := R0.out.c0
  have c1 := R0.out.c1
  have c2 := R0.out.c2
  cases x
  · have HE : Hid (r = false) := by unfold Hid; rw [hE]; rfl
    clear hE
    go_enter Try.func79, Try.ntmps79
    go_wp2_with (go_at_call 83; refine HC.out.mono ?_; rintro e w1 ⟨rfl, hb1⟩; have B1 := Lib.hid (bst HB.out hb1 HB.out.size); clear hb1)
    go_ret
    exact ⟨r_b HE.out.symm, B1.out⟩
  · by_cases hmn : m = n
    · subst hmn
      have HE : Hid (r = y) := by unfold Hid; rw [hE, decide_eq_true rfl]; rfl
      clear hE
      have hq : ((m : Int) == (m : Int)) = true := by simp
      go_enter Try.func79, Try.ntmps79
      go_wp2_with (first
        | (go_at_call 83; refine HC.out.mono ?_; rintro e w1 ⟨rfl, hb1⟩; have B1 := Lib.hid (bst HB.out hb1 HB.out.size); have Z1 := Lib.hid (Z0.out.below hb1); have R1 := R0.out.below hb1; have d1 := R1.c1; clear hb1 R1)
        | (go_at_call 105; refine (HCA.out _ Z1.out).mono ?_; rintro e w2 ⟨rfl, rfl⟩))
      go_ret
      exact ⟨r_b HE.out.symm, B1.out⟩
    · have HE : Hid (r = false) := by unfold Hid; rw [hE, decide_eq_false hmn]; simp
      clear hE
      have hq : ((m : Int) == (n : Int)) = false := by simp; omega
      go_enter Try.func79, Try.ntmps79
      go_wp2_with (go_at_call 83; refine HC.out.mono ?_; rintro e w1 ⟨rfl, hb1⟩; have B1 := Lib.hid (bst HB.out hb1 HB.out.size); have R1 := R0.out.below hb1; have d1 := R1.c1; clear hb1 R1)
      go_ret
      exact ⟨r_b HE.out.symm, B1.out⟩
end Go.Proofs.Ytdagkbgobnaijab
