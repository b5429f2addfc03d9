/- What is live, what is a reference, what is valid: the project's functions. -/
import Derived.Test.YtdagkbgobnaijabHw1
namespace Go.Proofs.Ytdagkbgobnaijab
open Go.RowKit Ph

set_option maxHeartbeats 800000 in
theorem c_isLive (a b c : Value) (ls : List Bool) (z : Int) (w : World) (hl : BoolsAt w b ls) : Calls Try.prog 163 #[hv a b c, .int .i64 z] w fun e w' => e = .returned (.bool (liveB ls z)) ∧ Below w.heap.size w w' := by
  obtain ⟨ba, bc, rfl, hL⟩ := hl
  by_cases h0 : z < 0
  · have HE : Hid (liveB ls z = false) := by unfold Hid liveB; rw [decide_eq_false (by omega)]; rfl
    have g0 : ¬ 0 ≤ z := by omega
    clear hL
    generalize ls.length = n at *
    have HB := Lib.hid (below1 w (.cells (c3 a (.slice ba n bc) c) 27))
    go_enter Try.func163, Try.ntmps163
    go_wp2
    go_ret
    exact ⟨r_b HE.out.symm, HB.out⟩
  · obtain ⟨k, rfl⟩ : ∃ k : Nat, z = k := ⟨z.toNat, by omega⟩
    clear h0
    by_cases h1 : k < ls.length
    · obtain ⟨g, off, rfl, hc⟩ := hL (by omega)
      have q := hc k h1
      have HE : Hid (liveB ls (k : Int) = ls.getD k false) := by unfold Hid liveB; rw [decide_eq_true (by omega)]; simp
      rw [← HE.out] at q
      generalize liveB ls (k : Int) = x at *
      clear hc hL HE
      generalize ls.length = n at *
      have HB := Lib.hid (below1 w (.cells (c3 a (.slice (some ⟨g, off, none⟩) n bc) c) 27))
      have q' := cellBelow HB.out (Nat.le_refl _) q
      have i1 : (k : Int) < (n : Int) := by omega
      have i0 : (0 : Int) ≤ (k : Int) := by omega
      clear q
      go_enter Try.func163, Try.ntmps163
      go_wp2
      go_ret
      exact ⟨rfl, HB.out⟩
    · have HE : Hid (liveB ls (k : Int) = false) := by
        unfold Hid
        cases hq : liveB ls (k : Int) with
        | false => rfl
        | true => have := liveB_lt hq; omega
      clear hL
      generalize ls.length = n at *
      have HB := Lib.hid (below1 w (.cells (c3 a (.slice ba n bc) c) 27))
      have i1 : ¬ (k : Int) < (n : Int) := by omega
      have i0 : (0 : Int) ≤ (k : Int) := by omega
      go_enter Try.func163, Try.ntmps163
      go_wp2
      go_ret
      exact ⟨r_b HE.out.symm, HB.out⟩
set_option maxHeartbeats 800000 in
theorem c_isReference (a b c : Value) (ls : List Bool) (z : Int) (w : World) (hl : BoolsAt w b ls) : Calls Try.prog 152 #[hv a b c, .int .i64 z] w fun e w' => e = .returned (.bool (refB ls z)) ∧ Below w.heap.size w w' := by
  have hb0 := below1 w (.cells (c3 a b c) 27)
  have HL := Lib.hid (hl.below hb0)
  have HB := Lib.hid hb0
  have R0 := Lib.hid (show RowH _ _ a b c from Row.new w 27 (c3 a b c))
  clear hl hb0
  by_cases h0 : z = -1
  · subst h0
    have HE : Hid (refB ls (-1) = true) := by unfold Hid refB; simp
    go_enter Try.func152, Try.ntmps152
    go_wp2
    go_ret
    exact ⟨r_b HE.out.symm, HB.out⟩
  · have HE : Hid (refB ls z = liveB ls z) := by unfold Hid refB; simp [h0]
    have i0 : (z == -1) = false := by simpa using h0
    rw [HE.out]
    generalize hx : liveB ls z = x at *
    have HX := Lib.hid hx
    clear hx h0 HE
    have c0 := R0.out.c0
    have c1 := R0.out.c1
    have c2 := R0.out.c2
    go_enter Try.func152, Try.ntmps152
    go_wp2_with (go_at_call 163; refine (c_isLive a b c ls z _ HL.out).mono ?_; rintro e w1 ⟨rfl, hb1⟩; rw [HX.out]; have B1 := Lib.hid (bst HB.out hb1 HB.out.size); clear hb1)
    go_ret
    exact ⟨rfl, B1.out⟩
set_option maxHeartbeats 1600000 in
theorem c_areReferences (a b c v : Value) (ls : List Bool) (zs : List Int) (w : World) (hl : BoolsAt w b ls) (hz : IntsAt w v zs) (hm : zs.length ≤ 9223372036854775806) : Calls Try.prog 131 #[hv a b c, v] w fun e w' => e = .returned (.bool (refsB ls zs)) ∧ Below w.heap.size w w' := by
  have hb0 := below1 w (.cells (c3 a b c) 27)
  have HL := Lib.hid (hl.below hb0)
  have hz0 := hz.below hb0
  have HB := Lib.hid hb0
  have R0 := Lib.hid (show RowH _ _ a b c from Row.new w 27 (c3 a b c))
  obtain ⟨va, vc, rfl, hA⟩ := hz0
  have HA := Lib.hid hA
  clear hl hb0 hz hA
  generalize hn : zs.length = n at *
  have HN := Lib.hid hn; clear hn
  go_enter Try.func131, Try.ntmps131
  go_wp2
  generalize (w.alloc (.cells (c3 a b c) 27)) = w0 at *
  go_loopw [9] (fun i wr => ∃ k : Nat, k ≤ n ∧ i = .int .i64 k ∧ Hid (refsB ls (zs.take k) = true) ∧ Below w0.heap.size w0 wr) (fun i _ => n - (intOf i).toNat)
  case atStart => exact ⟨0, Nat.zero_le _, rfl, by simp [Hid, refsB], Below.refl _ _⟩
  case round =>
    obtain ⟨k, hk, rfl, ht, hbr⟩ := hrel
    have BW := Lib.hid (bst HB.out hbr HB.out.size)
    by_cases hlt : k < n
    · obtain ⟨g, off, rfl, hc⟩ := HA.out (by omega)
      have q := cellBelow hbr (Nat.le_refl _) (hc k hlt)
      have R1 := R0.out.below hbr
      have L1 := Lib.hid (HL.out.below hbr)
      have c0 := R1.c0
      have c1 := R1.c1
      have c2 := R1.c2
      have HBR := Lib.hid hbr
      have i1 : (k : Int) < (n : Int) := by omega
      have hs := refsB_take_succ (l := ls) (zs := zs) (k := k) (by rw [HN.out]; exact hlt)
      have hf := refsB_false (l := ls) (zs := zs) (k := k) (by rw [HN.out]; exact hlt)
      have HS := Lib.hid hs; have HF := Lib.hid hf
      clear hc hbr R1 hs hf
      generalize zs.getD k 0 = z at *
      generalize hx : refB ls z = x at *
      have HX := Lib.hid hx; clear hx
      cases x
      · have HE : Hid (refsB ls zs = false) := HF.out rfl
        clear HS HF
        go_wp2_with (go_at_call 152; refine (c_isReference a b c ls z _ L1.out).mono ?_; rintro e w1 ⟨rfl, hb1⟩; rw [HX.out]; have B1 := Lib.hid (bst BW.out hb1 BW.out.size); clear hb1)
        go_ret
        exact ⟨r_b HE.out.symm, B1.out⟩
      · have HE : Hid (refsB ls (zs.take (k + 1)) = true) := by unfold Hid; rw [HS.out, ht.out]; rfl
        clear HS HF
        go_wp2_with (go_at_call 152; refine (c_isReference a b c ls z _ L1.out).mono ?_; rintro e w1 ⟨rfl, hb1⟩; rw [HX.out]; have B1 := Lib.hid (bst HBR.out hb1 HBR.out.size); clear hb1)
        go_roundw
        case rel => exact ⟨k + 1, by omega, by go_num, HE.out, B1.out⟩
        case measure => simp [intOf]; omega
    · have HE : Hid (refsB ls zs = true) := by
        unfold Hid
        have := ht.out
        rwa [List.take_of_length_le (by rw [HN.out]; omega)] at this
      go_wp2
      go_ret
      exact ⟨r_b HE.out.symm, BW.out⟩
theorem good_many {h : H} (k : 12 < h.f.length) : good h = false := by unfold good; rw [decide_eq_false (by omega)]; rfl
theorem good_lens {h : H} (k : h.l.length ≠ h.f.length) : good h = false := by unfold good; rw [decide_eq_false (p := h.l.length = h.f.length) k]; simp
theorem good_row {h : H} {i : Nat} (hi : i < h.f.length) (k : rowB h.l (h.l.getD i false) (h.f.getD i []) = false) : good h = false := by unfold good; rw [rowsB_false hi k]; simp
theorem good_roots {h : H} (k : 4 < h.r.length) : good h = false := by unfold good; rw [decide_eq_false (p := h.r.length ≤ 4) (by omega)]; simp
theorem good_rr {h : H} (k : refsB h.l h.r = false) : good h = false := by unfold good; rw [k]; simp
theorem good_all {h : H} (h1 : h.f.length ≤ 12) (h2 : h.l.length = h.f.length) (h3 : rowsB h.l h.f h.f.length = true) (h4 : h.r.length ≤ 4) (h5 : refsB h.l h.r = true) : good h = true := by unfold good; rw [decide_eq_true h1, decide_eq_true h2, h3, decide_eq_true h4, h5]; rfl
theorem row_dead {l : List Bool} {zs : List Int} (h : 0 < zs.length) : rowB l false zs = false := by
  cases zs with
  | nil => simp at h
  | cons z zs => simp [rowB]
theorem row_long {l : List Bool} {on : Bool} {zs : List Int} (h : 3 < zs.length) : rowB l on zs = false := by unfold rowB; rw [decide_eq_false (by omega)]; simp
theorem row_bad {l : List Bool} {on : Bool} {zs : List Int} (h : refsB l zs = false) : rowB l on zs = false := by unfold rowB; rw [h]; simp
theorem row_ok {l : List Bool} {on : Bool} {zs : List Int} (h1 : zs.length ≤ 3) (h2 : on = true ∨ ¬ 0 < zs.length) (h3 : refsB l zs = true) : rowB l on zs = true := rowB_iff.2 ⟨h1, h2.imp id (fun h => List.eq_nil_of_length_eq_zero (by omega)), h3⟩
end Go.Proofs.Ytdagkbgobnaijab
