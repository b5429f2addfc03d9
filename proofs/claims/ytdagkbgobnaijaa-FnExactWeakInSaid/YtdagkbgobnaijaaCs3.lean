/- The reference's ScanThing. -/
import Derived.Test.YtdagkbgobnaijaaCc4
namespace Go.Proofs.Ytdagkbgobnaijaa
open Go.RowKit Ph

set_option maxHeartbeats 1600000 in
theorem s_l6Both (a b c v : Value) (h : H) (cs : List Int) (w : World) (hA : HeapAt w a b c h) (hz : IntsAt w v cs) : Calls Try.prog 89 #[hv a b c, v] w fun e w' => e = .returned (.bool (bothB h cs)) ∧ Below w.heap.size w w' := by
  have hb0 := below1 w (.cells (c3 a b c) 32)
  have A0 := Lib.hid (hA.below hb0)
  have Z0 := Lib.hid (hz.below hb0)
  have HB := Lib.hid hb0
  have R0 := Lib.hid (show RowH _ _ a b c from Row.new w 32 (c3 a b c))
  obtain ⟨fa, fc, rfl⟩ := hA.f.shape
  obtain ⟨va, vc, rfl⟩ := hz.shape
  clear hA hb0 hz
  have HC := Lib.hid (s_GoodHeap _ _ _ h _ A0.out)
  have HCA : Hid (∀ w', IntsAt w' (.slice va cs.length vc) cs → Calls Try.prog 120 #[.slice va cs.length vc] w' fun e w'' => e = .returned (.bool (colsB cs)) ∧ w' = w'') := fun w' hh => s_l6Colours _ cs w' hh
  have hE := bothB_eq h cs
  generalize good h = x at *
  generalize colsB cs = y at *
  generalize bothB h cs = r at *
  generalize h.f.length = n at *
  generalize cs.length = m at *
  have c0 := R0.out.c0
  have c1 := R0.out.c1
  have c2 := R0.out.c2
  cases x
  · have HE : Hid (r = false) := by unfold Hid; rw [hE]; rfl
    clear hE
    go_enter Try.func89, Try.ntmps89
    go_wp2_with (go_at_call 103; refine HC.out.mono ?_; rintro e w1 ⟨rfl, hb1⟩; have B1 := Lib.hid (bst HB.out hb1 HB.out.size); clear hb1)
    go_ret
    exact ⟨r_b HE.out.symm, B1.out⟩
  cases y
  · have HE : Hid (r = false) := by unfold Hid; rw [hE]; rfl
    clear hE
    go_enter Try.func89, Try.ntmps89
    go_wp2_with (first
      | (go_at_call 103; refine HC.out.mono ?_; rintro e w1 ⟨rfl, hb1⟩; have B1 := Lib.hid (bst HB.out hb1 HB.out.size); have Z1 := Lib.hid (Z0.out.below hb1); clear hb1)
      | (go_at_call 120; refine (HCA.out _ Z1.out).mono ?_; rintro e w2 ⟨rfl, rfl⟩))
    go_ret
    exact ⟨r_b HE.out.symm, B1.out⟩
  · have hE2 : r = decide (m = n) := by rw [hE]; simp
    clear hE
    have hq : ((m : Int) == (n : Int)) = decide (m = n) := by
      by_cases e : m = n
      · subst e; simp
      · rw [decide_eq_false e]; simp; omega
    have HE := Lib.hid hE2
    clear hE2
    generalize decide (m = n) = z at *
    go_enter Try.func89, Try.ntmps89
    go_wp2_with (first
      | (go_at_call 103; refine HC.out.mono ?_; rintro e w1 ⟨rfl, hb1⟩; have B1 := Lib.hid (bst HB.out hb1 HB.out.size); have Z1 := Lib.hid (Z0.out.below hb1); have R1 := R0.out.below hb1; have d0 := R1.c0; clear hb1 R1)
      | (go_at_call 120; refine (HCA.out _ Z1.out).mono ?_; rintro e w2 ⟨rfl, rfl⟩))
    go_ret
    exact ⟨r_b HE.out.symm, B1.out⟩
set_option maxHeartbeats 1600000 in
theorem s_l6Scan (W : World) (a b c v : Value) (fs : List (List Int)) (cs : List Int) (k : Nat) (w : World) (hF : RowsAt W a fs) (hB : Below W.heap.size W w) (ho : Own w W.heap.size v cs) (hk : k < cs.length) (hkf : k < fs.length) (hr : ∀ z ∈ fs.getD k [], inR cs.length z) (hl : (fs.getD k []).length ≤ 3) :
    Calls Try.prog 99 #[hv a b c, v, .int .i64 k] w fun e w' => e = .returned (.tuple #[]) ∧ Own w' W.heap.size v (scan cs (fs.getD k []) k) ∧ w.grownBy w' v.ownBlock := by
  rcases ho.shape' with ⟨_, h0'⟩ | ⟨g, cap, rfl⟩
  · rw [h0'] at hk; simp at hk
  obtain ⟨fa, fc, rfl⟩ := hF.shape
  obtain ⟨fb, fo, rfl, hcf⟩ := hF.at' (by omega)
  obtain ⟨u, quf, huf⟩ := hcf k hkf
  obtain ⟨ua, uc, rfl⟩ := huf.shape
  have hgl : g < w.heap.size := (owns_lt ho rfl).2
  have HLO : Hid (∀ g', some g = some g' → W.heap.size ≤ g') := fun g' e => (owns_lt ho e).1
  obtain ⟨s1, s2, s3, s4⟩ := ho.store1 rfl hk 2
  have hba := below1 (w.setCell ⟨g, k, none⟩ (.int .i64 2)) (.cells (c3 (.slice (some ⟨fb, fo, none⟩) fs.length fc) b c) 32)
  have B1 := bst (hB.grown s2 hB.size HLO.out) hba (hB.grown s2 hB.size HLO.out).size
  have eu := cellBelow B1 (Nat.le_refl _) quf
  have BB1 := Lib.hid B1; have SS1 := Lib.hid (s1.below hba)
  have GG1 : Hid (w.grownBy ((w.setCell ⟨g, k, none⟩ (.int .i64 2)).alloc (.cells (c3 (.slice (some ⟨fb, fo, none⟩) fs.length fc) b c) 32)) (some g)) := grownBy_trans s2 ⟨rfl, rfl, rfl, by simp, fun i hi _ => hba.block i hi⟩
  have HU := Lib.hid huf; have HR := Lib.hid hr
  have HSC : Hid (scan cs (fs.getD k []) k = shades (cs.set k 2) (fs.getD k [])) := rfl
  have HLL : Hid ((cs.set k 2).length = cs.length) := List.length_set
  generalize scan cs (fs.getD k []) k = out at *
  clear ho hr hF hB hcf huf quf s1 s2 B1 hba
  generalize fs.getD k [] = row at *
  generalize hm : row.length = m at *
  have HM := Lib.hid hm; clear hm
  generalize cs.set k 2 = cs1 at *
  generalize cs.length = n at *
  generalize fs.length = fl at *
  have i1 : (k : Int) < (n : Int) := by omega
  have i2 : (k : Int) < (fl : Int) := by omega
  have i0 : (0 : Int) ≤ (k : Int) := by omega
  go_enter Try.func99, Try.ntmps99
  go_wp2_with fail
  generalize ((w.setCell ⟨g, k, none⟩ (.int .i64 2)).alloc (.cells (c3 (.slice (some ⟨fb, fo, none⟩) fl fc) b c) 32)) = w1 at *
  clear eu s3 s4
  go_loopw [17] (fun i wr => ∃ j : Nat, j ≤ m ∧ i = .int .i64 j ∧ Hid (Own wr W.heap.size (.slice (some ⟨g, 0, none⟩) n cap) (shades cs1 (row.take j))) ∧ Hid (w1.grownBy wr (some g))) (fun i _ => m - (intOf i).toNat)
  case atStart => exact ⟨0, Nat.zero_le _, rfl, by rw [List.take_zero, shades_nil]; exact SS1, World.grownBy.refl _ _⟩
  case round =>
    obtain ⟨j, hj, rfl, how, hgr⟩ := hrel
    by_cases hlt : j < m
    · obtain ⟨zb, zo, rfl, hcz⟩ := HU.out.at' (by omega)
      have BR : Below W.heap.size W wr := BB1.out.grown hgr.out BB1.out.size HLO.out
      have q := cellBelow BR (Nat.le_refl _) (hcz j hlt)
      have hjl : j < row.length := by rw [HM.out]; exact hlt
      have hin := HR.out (row.getD j 0) (by rw [List.getD, List.getElem?_eq_getElem hjl]; exact List.getElem_mem hjl)
      have HS := Lib.hid (shades_take_succ (cs := cs1) hjl)
      have HIN : Hid (row.getD j 0 < ((shades cs1 (row.take j)).length : Int)) := by unfold Hid; rw [shades_len, HLL.out]; rcases hin with h | h <;> omega
      have j1 : (j : Int) < (m : Int) := by omega
      clear hcz hjl hin BR
      generalize row.getD j 0 = z at *
      go_wp2_with fail
      refine (s_l6Shade _ _ z _ wr how.out HIN.out).mono ?_
      rintro e w6 ⟨rfl, ho6, hg6⟩
      have O6 := Lib.hid ho6
      have G6 : Hid (w1.grownBy w6 (some g)) := grownBy_trans hgr.out hg6
      clear ho6 hg6 q
      go_wp2_with fail
      go_roundw
      case rel => exact ⟨j + 1, by omega, by go_num, by rw [HS.out]; exact O6, G6⟩
      case measure => simp [intOf]; omega
    · obtain rfl : j = m := by omega
      have HE : Hid (row.take j = row) := List.take_of_length_le (by rw [HM.out]; exact Nat.le_refl _)
      go_wp2_with fail
      go_end0
      exact ⟨rfl, by rw [HSC.out, ← HE.out]; exact how.out, grownBy_trans GG1.out hgr.out⟩
end Go.Proofs.Ytdagkbgobnaijaa
