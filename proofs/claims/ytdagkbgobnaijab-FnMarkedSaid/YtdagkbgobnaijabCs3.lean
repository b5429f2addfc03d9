/- The reference's ScanThing. -/
import Derived.Test.YtdagkbgobnaijabCc4
namespace Go.Proofs.Ytdagkbgobnaijab
open Go.RowKit Ph

set_option maxHeartbeats 1600000 in
theorem s_l6Both (a b c v : Value) (h : H) (cs : List Int) (w : World) (hA : HeapAt w a b c h) (hz : IntsAt w v cs) : Calls Try.prog 80 #[hv a b c, v] w fun e w' => e = .returned (.bool (bothB h cs)) ∧ Below w.heap.size w w' := by
  have hb0 := below1 w (.cells (c3 a b c) 27)
  have A0 := Lib.hid (hA.below hb0)
  have Z0 := Lib.hid (hz.below hb0)
  have HB := Lib.hid hb0
  have R0 := Lib.hid (show RowH _ _ a b c from Row.new w 27 (c3 a b c))
  obtain ⟨fa, fc, rfl⟩ := hA.f.shape
  obtain ⟨va, vc, rfl⟩ := hz.shape
  clear hA hb0 hz
  have HC := Lib.hid (s_GoodHeap _ _ _ h _ A0.out)
  have HCA : Hid (∀ w', IntsAt w' (.slice va cs.length vc) cs → Calls Try.prog 118 #[.slice va cs.length vc] w' fun e w'' => e = .returned (.bool (colsB cs)) ∧ w' = w'') := fun w' hh => s_l6Colours _ cs w' hh
  have hE := bothB_eq h cs
  generalize good h = x at *
  generalize colsB cs = y at *
  generalize bothB h cs = r at *
  generalize h.f.length = n at *
  generalize cs.length = m at *
  have c0 := R0.out.c0
  have c1 := R0.out.c1
  have c2 := R0.out.c2
  cases x
  · have HE : Hid (r = false) := by unfold Hid; rw [hE]; rfl
    clear hE
    go_enter Try.func80, Try.ntmps80
    go_wp2_with (go_at_call 86; refine HC.out.mono ?_; rintro e w1 ⟨rfl, hb1⟩; have B1 := Lib.hid (bst HB.out hb1 HB.out.size); clear hb1)
    go_ret
    exact ⟨r_b HE.out.symm, B1.out⟩
  cases y
  · have HE : Hid (r = false) := by unfold Hid; rw [hE]; rfl
    clear hE
    go_enter Try.func80, Try.ntmps80
    go_wp2_with (first
      | (go_at_call 86; refine HC.out.mono ?_; rintro e w1 ⟨rfl, hb1⟩; have B1 := Lib.hid (bst HB.out hb1 HB.out.size); have Z1 := Lib.hid (Z0.out.below hb1); clear hb1)
      | (go_at_call 118; refine (HCA.out _ Z1.out).mono ?_; rintro e w2 ⟨rfl, rfl⟩))
    go_ret
    exact ⟨r_b HE.out.symm, B1.out⟩
  · have hE2 : r = decide (m = n) := by rw [hE]; simp
    clear hE
    have hq : ((m : Int) == (n : Int)) = decide (m = n) := by
      by_cases e : m = n
      · subst e; simp
      · rw [decide_eq_false e]; simp; omega
    have HE := Lib.hid hE2
    clear hE2
    generalize decide (m = n) = z at *
    go_enter Try.func80, Try.ntmps80
    go_wp2_with (first
      | (go_at_call 86; refine HC.out.mono ?_; rintro e w1 ⟨rfl, hb1⟩; have B1 := Lib.hid (bst HB.out hb1 HB.out.size); have Z1 := Lib.hid (Z0.out.below hb1); have R1 := R0.out.below hb1; have d0 := R1.c0; clear hb1 R1)
      | (go_at_call 118; refine (HCA.out _ Z1.out).mono ?_; rintro e w2 ⟨rfl, rfl⟩))
    go_ret
    exact ⟨r_b HE.out.symm, B1.out⟩
set_option maxHeartbeats 1600000 in
theorem s_l6Scan (W : World) (a b c v : Value) (fs : List (List Int)) (cs : List Int) (k : Nat) (w : World) (hF : RowsAt W a fs) (hB : Below W.heap.size W w) (ho : Own w W.heap.size v cs) (hk : k < cs.length) (hkf : k < fs.length) (hr : ∀ z ∈ fs.getD k [], inR cs.length z) (hl : (fs.getD k []).length ≤ 3) :
    Calls Try.prog 95 #[hv a b c, v, .int .i64 k] w fun e w' => e = .returned (.tuple #[]) ∧ Own w' W.heap.size v (scan cs (fs.getD k []) k) ∧ w.grownBy w' v.ownBlock := by
  rcases ho.shape' with ⟨_, h0'⟩ | ⟨g, cap, rfl⟩
  · rw [h0'] at hk; simp at hk
  obtain ⟨fa, fc, rfl⟩ := hF.shape
  obtain ⟨fb, fo, rfl, hcf⟩ := hF.at' (by omega)
  obtain ⟨u, quf, huf⟩ := hcf k hkf
  obtain ⟨ua, uc, rfl⟩ := huf.shape
  have hgl : g < w.heap.size := (owns_lt ho rfl).2
  have HLO : Hid (∀ g', some g = some g' → W.heap.size ≤ g') := fun g' e => (owns_lt ho e).1
  obtain ⟨s1, s2, s3, s4⟩ := ho.store1 rfl hk 2
  have hba := below1 (w.setCell ⟨g, k, none⟩ (.int .i64 2)) (.cells (c3 (.slice (some ⟨fb, fo, none⟩) fs.length fc) b c) 27)
  have B1 := bst (hB.grown s2 hB.size HLO.out) hba (hB.grown s2 hB.size HLO.out).size
  have eu := cellBelow B1 (Nat.le_refl _) quf
  have BB1 := Lib.hid B1; have SS1 := Lib.hid (s1.below hba)
  have GG1 : Hid (w.grownBy ((w.setCell ⟨g, k, none⟩ (.int .i64 2)).alloc (.cells (c3 (.slice (some ⟨fb, fo, none⟩) fs.length fc) b c) 27)) (some g)) := grownBy_trans s2 ⟨rfl, rfl, rfl, by simp, fun i hi _ => hba.block i hi⟩
  have HU := Lib.hid huf; have HR := Lib.hid hr
  have HSC : Hid (scan cs (fs.getD k []) k = shades (cs.set k 2) (fs.getD k [])) := rfl
  have HLL : Hid ((cs.set k 2).length = cs.length) := List.length_set
  generalize scan cs (fs.getD k []) k = out at *
  clear ho hr hF hB hcf huf quf s1 s2 B1 hba
  generalize fs.getD k [] = row at *
  generalize hm : row.length = m at *
  have HM := Lib.hid hm; clear hm
  generalize cs.set k 2 = cs1 at *
  generalize cs.length = n at *
  generalize fs.length = fl at *
  have i1 : (k : Int) < (n : Int) := by omega
  have i2 : (k : Int) < (fl : Int) := by omega
  have i0 : (0 : Int) ≤ (k : Int) := by omega
  go_enter Try.func95, Try.ntmps95
  go_wp2_with fail
  generalize ((w.setCell ⟨g, k, none⟩ (.int .i64 2)).alloc (.cells (c3 (.slice (some ⟨fb, fo, none⟩) fl fc) b c) 27)) = w1 at *
  clear eu s3 s4
  go_loopw [17] (fun i wr => ∃ j : Nat, j ≤ m ∧ i = .int .i64 j ∧ Hid (Own wr W.heap.size (.slice (some ⟨g, 0, none⟩) n cap) (shades cs1 (row.take j))) ∧ Hid (w1.grownBy wr (some g))) (fun i _ => m - (intOf i).toNat)
  case atStart => exact ⟨0, Nat.zero_le _, rfl, by rw [List.take_zero, shades_nil]; exact SS1, World.grownBy.refl _ _⟩
  case round =>
    obtain ⟨j, hj, rfl, how, hgr⟩ := hrel
    by_cases hlt : j < m
    · obtain ⟨zb, zo, rfl, hcz⟩ := HU.out.at' (by omega)
      have BR : Below W.heap.size W wr := BB1.out.grown hgr.out BB1.out.size HLO.out
      have q := cellBelow BR (Nat.le_refl _) (hcz j hlt)
      have hjl : j < row.length := by rw [HM.out]; exact hlt
      have hin := HR.out (row.getD j 0) (by rw [List.getD, List.getElem?_eq_getElem hjl]; exact List.getElem_mem hjl)
      have HS := Lib.hid (shades_take_succ (cs := cs1) hjl)
      have HIN : Hid (row.getD j 0 < ((shades cs1 (row.take j)).length : Int)) := by unfold Hid; rw [shades_len, HLL.out]; rcases hin with h | h <;> omega
      have j1 : (j : Int) < (m : Int) := by omega
      clear hcz hjl hin BR
      generalize row.getD j 0 = z at *
      go_wp2_with fail
      refine (s_l6Shade _ _ z _ wr how.out HIN.out).mono ?_
      rintro e w6 ⟨rfl, ho6, hg6⟩
      have O6 := Lib.hid ho6
      have G6 : Hid (w1.grownBy w6 (some g)) := grownBy_trans hgr.out hg6
      clear ho6 hg6 q
      go_wp2_with fail
      go_roundw
      case rel => exact ⟨j + 1, by omega, by go_num, by rw [HS.out]; exact O6, G6⟩
      case measure => simp [intOf]; omega
    · obtain rfl : j = m := by omega
      have HE : Hid (row.take j = row) := List.take_of_length_le (by rw [HM.out]; exact Nat.le_refl _)
      go_wp2_with fail
      go_end0
      exact ⟨rfl, by rw [HSC.out, ← HE.out]; exact how.out, grownBy_trans GG1.out hgr.out⟩
set_option maxRecDepth 100000 in
set_option maxHeartbeats 3200000 in
theorem s_ScanThing (a b c v : Value) (h : H) (cs : List Int) (k : Int) (w : World) (hA : HeapAt w a b c h) (hz : IntsAt w v cs) : Calls Try.prog 58 #[hv a b c, v, .int .i64 k] w (EndI (scanR h cs k) (scanOk h cs k) w) := by
  obtain ⟨i00, hi00, hz0, hz1, hz2⟩ := info_parts info_int
  have hb0 := below1 w (.cells (c3 a b c) 27)
  have A0 := Lib.hid (hA.below hb0)
  have Z0 := Lib.hid (hz.below hb0)
  have HB := Lib.hid hb0
  have R0 := Lib.hid (show RowH _ _ a b c from Row.new w 27 (c3 a b c))
  have HF := Lib.hid hA.f
  clear hA hb0
  have HC := Lib.hid (s_l6Both a b c v h cs _ A0.out Z0.out)
  have HT : Hid (∀ w', Calls Try.prog 116 #[.int .i64 k, .int .i64 0, .int .i64 ((cs.length : Int) - 1)] w' fun e w'' => e = .returned (.bool (hasB cs k)) ∧ w' = w'') := fun w' => by
    rw [← s_hasB]
    exact s_l1In k 0 ((cs.length : Int) - 1) w'
  have HE1 := Lib.hid (scanR_no (h := h) (cs := cs) (k := k))
  have HE2 := Lib.hid (scanR_yes (h := h) (cs := cs) (k := k))
  have HO : Hid (scanOk h cs k = (bothB h cs && hasB cs k && decide (cs.getD k.toNat 0 = 1))) := rfl
  have HBB := Lib.hid (bothB_iff (h := h) (cs := cs)).1
  have HHB := Lib.hid (hasB_nat (cs := cs) (k := k))
  obtain ⟨va, vc, rfl⟩ := hz.shape
  clear hz
  generalize bothB h cs = x at *
  generalize hasB cs k = y at *
  generalize scanOk h cs k = ok at *
  have c0 := R0.out.c0
  have c1 := R0.out.c1
  have c2 := R0.out.c2
  cases x
  · have HE : Hid (ok = false) := by unfold Hid; rw [HO.out]; rfl
    have HR := Lib.hid (HE1.out HE.out)
    go_enter Try.func58, Try.ntmps58
    go_wp2_with (go_at_call 80; refine HC.out.mono ?_; rintro e w1 ⟨rfl, hb1⟩; have B1 := Lib.hid (bst HB.out hb1 HB.out.size); clear hb1)
    go_ret2
    exact endI_no B1.out HR.out HE.out
  obtain ⟨hG, hlen, hcol⟩ := HBB.out rfl
  have hn12 : cs.length ≤ 12 := by rw [hlen]; exact hG.n
  have hwr : IntKind.i64.wrap ((cs.length : Int) - 1) = (cs.length : Int) - 1 := IntWalk.i64_in _ (by omega)
  cases y
  · have HE : Hid (ok = false) := by unfold Hid; rw [HO.out]; rfl
    have HR := Lib.hid (HE1.out HE.out)
    clear hG hlen hcol HBB HHB
    generalize cs.length = n at *
    go_enter Try.func58, Try.ntmps58
    go_wp2_with (first
      | (go_at_call 80; refine HC.out.mono ?_; rintro e w1 ⟨rfl, hb1⟩; have B1 := Lib.hid (bst HB.out hb1 HB.out.size); clear hb1)
      | (go_at_call 116; refine (HT.out _).mono ?_; rintro e w2 ⟨rfl, rfl⟩))
    go_ret2
    exact endI_no B1.out HR.out HE.out
  obtain ⟨t, rfl, htn⟩ := HHB.out rfl
  rw [Int.toNat_natCast] at *
  have HZC : Hid (∀ w', IntsAt w' (.slice va cs.length vc) cs → ∃ vb vo, va = some ⟨vb, vo, none⟩ ∧ w'.cell? ⟨vb, vo + t, none⟩ = some (.int .i64 (cs.getD t 0))) := fun w' hh => by obtain ⟨vb, vo, e, q⟩ := hh.at' (by omega); exact ⟨vb, vo, e, q t htn⟩
  obtain ⟨vb, vo, rfl, _⟩ := HZC.out _ Z0.out
  replace HZC : Hid (∀ w', IntsAt w' (.slice (some ⟨vb, vo, none⟩) cs.length vc) cs → w'.cell? ⟨vb, vo + t, none⟩ = some (.int .i64 (cs.getD t 0))) := fun w' hh => by obtain ⟨vb', vo', e, q⟩ := HZC.out w' hh; cases e; exact q
  have HIN : Hid (∀ z ∈ h.f.getD t [], inR cs.length z) := fun z hz => by rw [hlen]; exact (hG.field hz).imp id (fun h => ⟨h.1, h.2.1⟩)
  have HRL : Hid ((h.f.getD t []).length ≤ 3) := (hG.row t (by omega)).1
  have HTF : Hid (t < h.f.length) := by unfold Hid; omega
  have HTN : Hid (t < cs.length) := htn
  clear hG hcol hlen HBB HHB
  generalize hn : cs.length = n at *
  have HN := Lib.hid hn; clear hn
  have i1 : (t : Int) < (n : Int) := by omega
  have i0 : (0 : Int) ≤ (t : Int) := by omega
  by_cases hx : cs.getD t 0 = 1
  · have HE : Hid (ok = true) := by unfold Hid; rw [HO.out, decide_eq_true hx]; rfl
    have HR := Lib.hid (HE2.out HE.out)
    have HX := Lib.hid hx
    have HL : Hid ((cs.map (Value.int .i64)).length = n) := by unfold Hid; rw [List.length_map, HN.out]
    rw [hx] at HZC
    clear hx
    go_enter Try.func58, Try.ntmps58
    go_wp2_with (first
      | (go_at_call 80; refine HC.out.mono ?_; rintro e w1 ⟨rfl, hb1⟩; have B1 := Lib.hid (bst HB.out hb1 HB.out.size); have Z1 := Lib.hid (Z0.out.below hb1); have R1 := Lib.hid (R0.out.below hb1); have d0 := R1.out.c0; have d1 := R1.out.c1; have d2 := R1.out.c2; have qz := (HZC.out _ Z1.out); clear hb1)
      | (go_at_call 116; refine (HT.out _).mono ?_; rintro e w2 ⟨rfl, rfl⟩)
      | (at_builtin; refine wl_appOwn _ rfl _ _ 25 rfl w1.heap.size 3 i00 (.int .i64 0) 8 Try.underlying25 hi00 hz0 hz1 hz2 rfl _ 0 [] rfl (own_nil0 w1) _ _ rfl ((Z1.out.below (below1 w1 (.cells #[] 3))).src) (by rw [HL.out]; unfold maxLen; omega) (by rw [HL.out]; omega) (by simp) ?_; intro v3 w3 ho hg hbl; have O3 : Hid (Own w3 w.heap.size v3 cs) := (by { unfold Hid; refine Own.mono ?_ B1.out.size; unfold Own; rw [List.nil_append, Nat.zero_add, List.length_map] at ho; exact ho }); have b3 := (below1 w1 (.cells #[] 3)).grown hg (by simp) (fun g e => (owns_lt (own_nil0 w1) e).1); have B3 := Lib.hid (bst B1.out b3 B1.out.size); have R3 := Lib.hid (R1.out.below b3); have e0 := R3.out.c0; have e1 := R3.out.c1; have e2 := R3.out.c2; clear ho hg hbl b3))
    refine (s_l6Scan w a b c v3 h.f cs t w3 HF.out B3.out O3.out (by rw [HN.out]; exact HTN.out) HTF.out (by rw [HN.out]; exact HIN.out) HRL.out).mono ?_
    rintro e w6 ⟨rfl, ho6, hg6⟩
    have O6 := Lib.hid ho6
    have B6 := Lib.hid (B3.out.grown hg6 B3.out.size (fun g e => (owns_lt O3.out e).1))
    clear ho6 hg6
    go_wp2_with fail
    go_ret2
    exact endI_yes B6.out O6.out (Nat.le_refl _) HR.out HE.out
  · have HE : Hid (ok = false) := by unfold Hid; rw [HO.out, decide_eq_false hx]; simp
    have HR := Lib.hid (HE1.out HE.out)
    generalize cs.getD t 0 = z at *
    have hx1 : (z == 1) = false := by simpa using hx
    clear hx
    go_enter Try.func58, Try.ntmps58
    go_wp2_with (first
      | (go_at_call 80; refine HC.out.mono ?_; rintro e w1 ⟨rfl, hb1⟩; have B1 := Lib.hid (bst HB.out hb1 HB.out.size); have Z1 := Lib.hid (Z0.out.below hb1); have qz := (HZC.out _ Z1.out); clear hb1)
      | (go_at_call 116; refine (HT.out _).mono ?_; rintro e w2 ⟨rfl, rfl⟩))
    go_ret2
    exact endI_no B1.out HR.out HE.out
end Go.Proofs.Ytdagkbgobnaijab
