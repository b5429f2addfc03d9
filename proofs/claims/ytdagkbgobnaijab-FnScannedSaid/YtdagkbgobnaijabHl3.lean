/- The laws' own helpers over heaps: sizes, copies, are they the same. -/
import Derived.Test.YtdagkbgobnaijabHl2
namespace Go.Proofs.Ytdagkbgobnaijab
open Go.RowKit Ph

/-- How much a heap weighs. -/
def wtH (h : H) : Nat := wt h.f + h.l.length + h.r.length
structure FitH (h : H) : Prop where
  rows : Fit h.f
  f : h.f.length ≤ 9223372036854775807
  l : h.l.length ≤ 9223372036854775807
  r : h.r.length ≤ 9223372036854775807
set_option maxHeartbeats 1600000 in
theorem c_szHeap_yes (a b c : Value) (h : H) (left : Int) (w : World) (hA : HeapAt w a b c h) (h1 : left ≤ 1048576) (hw : (wtH h : Int) ≤ left) : Calls Try.prog 70 #[hv a b c, .int .i64 left] w fun e w' => e = .returned (.int .i64 (left - wtH h)) ∧ Below w.heap.size w w' := by
  have HB := Lib.hid (below1 w (.cells (c3 a b c) 68))
  have HF := Lib.hid (hA.f.below HB.out)
  obtain ⟨la, lc, rfl⟩ := hA.l.shape
  obtain ⟨ra, rc, rfl⟩ := hA.r.shape
  have e : (wtH h : Int) = (wt h.f : Int) + (h.l.length : Int) + (h.r.length : Int) := by unfold wtH; omega
  rw [e] at hw ⊢
  clear hA e
  generalize hnl : h.l.length = nl at *
  generalize hnr : h.r.length = nr at *
  clear hnl hnr
  generalize hx : wt h.f = x at *
  have HX := Lib.hid hx; clear hx
  have i1 : ¬ left - (x : Int) < 0 := by omega
  have i2 : ¬ left - (x : Int) - (nl : Int) < 0 := by omega
  have i3 : ¬ left - (x : Int) - (nl : Int) - (nr : Int) < 0 := by omega
  have J1 : Hid ((wt h.f : Int) ≤ left) := by unfold Hid; rw [HX.out]; omega
  have J2 : Hid (left - (x : Int) ≤ 1048576 ∧ (nl : Int) ≤ left - (x : Int)) := ⟨by omega, by omega⟩
  have J3 : Hid (left - (x : Int) - (nl : Int) ≤ 1048576 ∧ (nr : Int) ≤ left - (x : Int) - (nl : Int)) := ⟨by omega, by omega⟩
  go_enter Try.func70, Try.ntmps70
  go_wp2_with (first
    | (go_at_call 119; refine (c_szIntSS_yes _ h.f left _ HF.out h1 J1.out).mono ?_; rintro e w1 ⟨rfl, rfl⟩; rw [HX.out])
    | (go_at_call 120; refine (c_szBoolS_yes la nl lc (left - x) _ J2.out.1 J2.out.2).mono ?_; rintro e w1 ⟨rfl, rfl⟩)
    | (go_at_call 121; refine (c_szIntS_yes ra nr rc (left - x - nl) _ J3.out.1 J3.out.2).mono ?_; rintro e w1 ⟨rfl, rfl⟩))
  go_ret
  exact ⟨r_i (by omega), HB.out⟩
set_option maxHeartbeats 1600000 in
theorem c_szHeap_no (a b c : Value) (h : H) (left : Int) (w : World) (hA : HeapAt w a b c h) (hf : FitH h) (h0 : 0 ≤ left) (h1 : left ≤ 1048576) (hw : left < (wtH h : Int)) : Calls Try.prog 70 #[hv a b c, .int .i64 left] w fun e w' => e = .returned (.int .i64 (-1)) ∧ Below w.heap.size w w' := by
  have HB := Lib.hid (below1 w (.cells (c3 a b c) 68))
  have HF := Lib.hid (hA.f.below HB.out)
  obtain ⟨la, lc, rfl⟩ := hA.l.shape
  obtain ⟨ra, rc, rfl⟩ := hA.r.shape
  have e : (wtH h : Int) = (wt h.f : Int) + (h.l.length : Int) + (h.r.length : Int) := by unfold wtH; omega
  rw [e] at hw
  obtain ⟨f1, f2, f3, f4⟩ := hf
  have F1 := Lib.hid f1; have F2 := Lib.hid f2
  clear hA e f1 f2
  generalize hnl : h.l.length = nl at *
  generalize hnr : h.r.length = nr at *
  clear hnl hnr
  have F3 := Lib.hid f3; have F4 := Lib.hid f4
  clear f3 f4
  generalize hx : wt h.f = x at *
  have HX := Lib.hid hx; clear hx
  by_cases i1 : left < (x : Int)
  · have J1 : Hid (left < (wt h.f : Int)) := by unfold Hid; rw [HX.out]; exact i1
    clear i1
    go_enter Try.func70, Try.ntmps70
    go_wp2_with (go_at_call 119; refine (c_szIntSS_no _ h.f left _ HF.out F1.out F2.out h0 h1 J1.out).mono ?_; rintro e w1 ⟨rfl, rfl⟩)
    go_ret
    exact ⟨rfl, HB.out⟩
  · have J1 : Hid ((wt h.f : Int) ≤ left) := by unfold Hid; rw [HX.out]; omega
    have k1 : ¬ left - (x : Int) < 0 := by omega
    by_cases i2 : left - (x : Int) < (nl : Int)
    · have J2 : Hid (0 ≤ left - (x : Int) ∧ left - (x : Int) ≤ 1048576 ∧ left - (x : Int) < (nl : Int)) := ⟨by omega, by omega, i2⟩
      clear i2
      go_enter Try.func70, Try.ntmps70
      go_wp2_with (first
        | (go_at_call 119; refine (c_szIntSS_yes _ h.f left _ HF.out h1 J1.out).mono ?_; rintro e w1 ⟨rfl, rfl⟩; rw [HX.out])
        | (go_at_call 120; refine (c_szBoolS_no la nl lc (left - x) _ J2.out.1 J2.out.2.1 F3.out J2.out.2.2).mono ?_; rintro e w1 ⟨rfl, rfl⟩))
      go_ret
      exact ⟨rfl, HB.out⟩
    · have J2 : Hid (left - (x : Int) ≤ 1048576 ∧ (nl : Int) ≤ left - (x : Int)) := ⟨by omega, by omega⟩
      have J3 : Hid (0 ≤ left - (x : Int) - (nl : Int) ∧ left - (x : Int) - (nl : Int) ≤ 1048576 ∧ left - (x : Int) - (nl : Int) < (nr : Int)) := ⟨by omega, by omega, by omega⟩
      have k2 : ¬ left - (x : Int) - (nl : Int) < 0 := by omega
      go_enter Try.func70, Try.ntmps70
      go_wp2_with (first
        | (go_at_call 119; refine (c_szIntSS_yes _ h.f left _ HF.out h1 J1.out).mono ?_; rintro e w1 ⟨rfl, rfl⟩; rw [HX.out])
        | (go_at_call 120; refine (c_szBoolS_yes la nl lc (left - x) _ J2.out.1 J2.out.2).mono ?_; rintro e w1 ⟨rfl, rfl⟩)
        | (go_at_call 121; refine (c_szIntS_no ra nr rc (left - x - nl) _ J3.out.1 J3.out.2.1 F4.out J3.out.2.2).mono ?_; rintro e w1 ⟨rfl, rfl⟩))
      go_ret
      exact ⟨rfl, HB.out⟩
set_option maxHeartbeats 800000 in
theorem c_eqBoolS (va vb : Value) (zs : List Bool) (w : World) (hA : BoolsAt w va zs) (hB : BoolsAt w vb zs) (hm : zs.length ≤ 9223372036854775806) :
    Calls Try.prog 125 #[va, vb] w fun e w' => e = .returned (.bool true) ∧ ∃ n, w' = w.drewN n := by
  obtain ⟨a, ca, rfl, hA⟩ := hA
  obtain ⟨b, cb, rfl, hB⟩ := hB
  generalize hn : zs.length = n at *
  clear hn
  have hbq : ((n : Int) != (n : Int)) = false := by simp
  have HCA := Lib.hid hA; have HCB := Lib.hid hB; clear hA hB
  go_enter Try.func125, Try.ntmps125
  go_wp2
  go_loopw [5] (fun i wr => ∃ k : Nat, k ≤ n ∧ i = .int .i64 k ∧ ∃ n, wr = w.drewN n) (fun i _ => n - (intOf i).toNat)
  case atStart => exact ⟨0, Nat.zero_le _, rfl, drewN_refl _⟩
  case round =>
    obtain ⟨k, hk, rfl, nd, rfl⟩ := hrel
    by_cases hlt : k < n
    · obtain ⟨ba, oa, rfl, hca⟩ := HCA.out (by omega)
      obtain ⟨bb, ob, rfl, hcb⟩ := HCB.out (by omega)
      have q1 := hca k hlt
      have q2 := hcb k hlt
      have i1 : (k : Int) < (n : Int) := by omega
      clear hca hcb
      generalize zs.getD k false = x at *
      have hxx : (x != x) = false := by simp
      go_wp2
      go_quiet (fail)
      go_wp2
      go_roundw
      case rel => exact ⟨k + 1, by omega, by go_num, nd + nq, by simp⟩
      case measure => simp [intOf]; omega
    · go_wp2
      go_ret
      exact ⟨rfl, _, rfl⟩
set_option maxHeartbeats 800000 in
theorem c_eqIntSS (va vb : Value) (fs : List (List Int)) (w : World) (hA : RowsAt w va fs) (hB : RowsAt w vb fs) (hm : wt fs ≤ 1048576) :
    Calls Try.prog 124 #[va, vb] w fun e w' => e = .returned (.bool true) ∧ ∃ n, w' = w.drewN n := by
  have HM : Hid (∀ j, j < fs.length → (fs.getD j []).length ≤ 9223372036854775806) := fun j hj => by
    have h1 := sumL_succ hj
    have h2 := sumL_le fs (j + 1)
    unfold wt at hm
    omega
  have hm' : fs.length ≤ 1048576 := by unfold wt at hm; omega
  obtain ⟨a, ca, rfl, hA⟩ := hA
  obtain ⟨b, cb, rfl, hB⟩ := hB
  clear hm
  generalize hn : fs.length = n at *
  clear hn
  have hbq : ((n : Int) != (n : Int)) = false := by simp
  have HCA := Lib.hid hA; have HCB := Lib.hid hB; clear hA hB
  go_enter Try.func124, Try.ntmps124
  go_wp2
  go_loopw [5] (fun i wr => ∃ k : Nat, k ≤ n ∧ i = .int .i64 k ∧ ∃ n, wr = w.drewN n) (fun i _ => n - (intOf i).toNat)
  case atStart => exact ⟨0, Nat.zero_le _, rfl, drewN_refl _⟩
  case round =>
    obtain ⟨k, hk, rfl, nd, rfl⟩ := hrel
    by_cases hlt : k < n
    · obtain ⟨ba, oa, rfl, hca⟩ := HCA.out (by omega)
      obtain ⟨bb, ob, rfl, hcb⟩ := HCB.out (by omega)
      obtain ⟨u1, q1, hu1⟩ := hca k hlt
      obtain ⟨u2, q2, hu2⟩ := hcb k hlt
      have hml := Lib.hid (HM.out k hlt)
      have i1 : (k : Int) < (n : Int) := by omega
      have U1 := Lib.hid hu1; have U2 := Lib.hid hu2
      obtain ⟨a1, x1, rfl⟩ := hu1.shape
      obtain ⟨a2, x2, rfl⟩ := hu2.shape
      clear hca hcb hu1 hu2
      have HC : Hid (∀ m, Calls Try.prog 67 #[.slice a1 (fs.getD k []).length x1, .slice a2 (fs.getD k []).length x2] ((w.drewN nd).drewN m) fun e w' => e = .returned (.bool true) ∧ ∃ n, w' = ((w.drewN nd).drewN m).drewN n) := fun m =>
        (c_eqIntS _ _ (fs.getD k []) (fs.getD k []) ((w.drewN nd).drewN m) ((U1.out.drewN nd).drewN m) ((U2.out.drewN nd).drewN m) hml.out).mono fun _ _ ⟨he, hw⟩ => ⟨he.trans (r_b (decide_eq_true rfl)), hw⟩
      clear U1 U2 hml
      generalize (fs.getD k []).length = m at *
      replace q1 : (w.drewN nd).cell? ⟨ba, oa + k, none⟩ = some (.slice a1 m x1) := q1
      replace q2 : (w.drewN nd).cell? ⟨bb, ob + k, none⟩ = some (.slice a2 m x2) := q2
      generalize hwd : w.drewN nd = wd at *
      have HWD := Lib.hid hwd; clear hwd
      go_wp2
      go_quiet ((go_at_call 67; exact Calls.quiet_of (HC.out _)))
      go_wp2
      go_roundw
      case rel => exact ⟨k + 1, by omega, by go_num, nd + nq, by rw [← HWD.out]; simp⟩
      case measure => simp [intOf]; omega
    · go_wp2
      go_ret
      exact ⟨rfl, _, rfl⟩
set_option maxHeartbeats 800000 in
theorem c_eqHeap (a b c a' b' c' : Value) (h : H) (w : World) (hA : HeapAt w a b c h) (hB : HeapAt w a' b' c' h) (hm : wtH h ≤ 1048576) : Calls Try.prog 72 #[hv a b c, hv a' b' c'] w fun e w' => e = .returned (.bool true) ∧ Below w.heap.size w w' := by
  have HB := Lib.hid ((below1 w (.cells (c3 a b c) 27)).alloc (by simp) (.cells (c3 a' b' c') 27))
  have h1 := hA.below HB.out
  have h2 := hB.below HB.out
  have hm1 : wt h.f ≤ 1048576 ∧ h.l.length ≤ 9223372036854775806 ∧ h.r.length ≤ 9223372036854775806 := by unfold wtH at hm; omega
  have HM := Lib.hid hm1
  generalize hw0 : (w.alloc (.cells (c3 a b c) 27)).alloc (.cells (c3 a' b' c') 27) = w0 at h1 h2
  have C1 : Hid (∀ n, Calls Try.prog 124 #[a, a'] (w0.drewN n) fun e w' => e = .returned (.bool true) ∧ ∃ n, w' = w0.drewN n) := fun n => Calls.quiet_of (c_eqIntSS a a' h.f (w0.drewN n) h1.f h2.f HM.out.1)
  have C2 : Hid (∀ n, Calls Try.prog 125 #[b, b'] (w0.drewN n) fun e w' => e = .returned (.bool true) ∧ ∃ n, w' = w0.drewN n) := fun n => Calls.quiet_of (c_eqBoolS b b' h.l (w0.drewN n) h1.l h2.l HM.out.2.1)
  have C3 : Hid (∀ n, Calls Try.prog 67 #[c, c'] (w0.drewN n) fun e w' => e = .returned (.bool true) ∧ ∃ n, w' = w0.drewN n) := fun n => Calls.quiet_of ((c_eqIntS c c' h.r h.r (w0.drewN n) h1.r h2.r HM.out.2.2).mono fun _ _ ⟨he, hw⟩ => ⟨he.trans (r_b (decide_eq_true rfl)), hw⟩)
  have q1 : w0.cell? ⟨w.heap.size, 0, none⟩ = some a ∧ w0.cell? ⟨w.heap.size, 1, none⟩ = some b ∧ w0.cell? ⟨w.heap.size, 2, none⟩ = some c := by
    have R : RowH w0 w.heap.size a b c := by rw [← hw0]; exact Row.alloc (Row.new w 27 (c3 a b c)) _
    exact ⟨R.c0, R.c1, R.c2⟩
  have q2 : w0.cell? ⟨w.heap.size + 1, 0, none⟩ = some a' ∧ w0.cell? ⟨w.heap.size + 1, 1, none⟩ = some b' ∧ w0.cell? ⟨w.heap.size + 1, 2, none⟩ = some c' := by
    have R : RowH w0 (w.heap.size + 1) a' b' c' := by rw [← hw0]; exact Row.new1 w _ 27 (c3 a' b' c')
    exact ⟨R.c0, R.c1, R.c2⟩
  obtain ⟨p1, p2, p3⟩ := q1
  obtain ⟨p4, p5, p6⟩ := q2
  clear hA hB h1 h2 hm1
  rw [hw0] at HB
  have HW := Lib.hid hw0
  clear hw0
  go_enter Try.func72, Try.ntmps72
  go_wp2_with (first
    | (go_at_call 124; rw [HW.out]; refine (C1.out 0).mono ?_; rintro e w1 ⟨rfl, n1, rfl⟩)
    | (go_at_call 125; refine (C2.out _).mono ?_; rintro e w1 ⟨rfl, n2, rfl⟩)
    | (go_at_call 67; refine (C3.out _).mono ?_; rintro e w1 ⟨rfl, n3, rfl⟩))
  go_ret
  exact ⟨rfl, below_drewN HB.out _⟩
end Go.Proofs.Ytdagkbgobnaijab
