/- The reference's ReachedIn and ReachFrom. -/
import Derived.Test.YthanckifinfpiaaHs3
namespace Go.Proofs.Ythanckifinfpiaa.Ph
def inB (lo hi z : Int) : Bool := decide (lo ≤ z) && decide (z ≤ hi)
theorem inAll_take_succ {lo hi : Int} {zs : List Int} {k : Nat} (h : k < zs.length) : (zs.take (k + 1)).all (inB lo hi) = ((zs.take k).all (inB lo hi) && inB lo hi (zs.getD k 0)) := by
  have e : zs.getD k 0 = zs[k] := by simp [List.getD, List.getElem?_eq_getElem h]
  rw [List.take_succ_eq_append_getElem h, List.all_append, e]; simp
theorem inAll_false {lo hi : Int} {zs : List Int} {k : Nat} (h : k < zs.length) (hn : inB lo hi (zs.getD k 0) = false) : zs.all (inB lo hi) = false := by
  cases hq : zs.all (inB lo hi) with
  | false => rfl
  | true =>
    have e : zs.getD k 0 = zs[k] := by simp [List.getD, List.getElem?_eq_getElem h]
    have := (List.all_eq_true.1 hq) zs[k] (List.getElem_mem h)
    rw [e] at hn; rw [hn] at this; cases this
theorem all_live {h : H} (g : Ph.Good h) (zs : List Int) : zs.all (liveB h.l) = (zs.all (inB 0 ((h.f.length : Int) - 1)) && refsB h.l zs) := by
  rw [Bool.eq_iff_iff, Bool.and_eq_true, List.all_eq_true, List.all_eq_true, refsB_iff]
  constructor
  · intro hh
    refine ⟨fun z hz => ?_, fun z hz => refB_iff.2 (.inr (hh z hz))⟩
    have := live_inR g (hh z hz)
    simp [inB]; omega
  · rintro ⟨h1, h2⟩ z hz
    have a := h1 z hz
    simp [inB] at a
    rcases refB_iff.1 (h2 z hz) with e | e
    · omega
    · exact e
end Go.Proofs.Ythanckifinfpiaa.Ph
namespace Go.Proofs.Ythanckifinfpiaa
open Go.RowKit Ph

set_option maxHeartbeats 1600000 in
theorem s_l1All (v : Value) (zs : List Int) (lo hi : Int) (w : World) (hz : IntsAt w v zs) (hm : zs.length ≤ 9223372036854775806) : Calls Try.prog 88 #[v, .int .i64 lo, .int .i64 hi] w fun e w' => e = .returned (.bool (zs.all (inB lo hi))) ∧ w = w' := by
  obtain ⟨va, vc, rfl, hA⟩ := hz
  have HA := Lib.hid hA
  clear hA
  generalize hn : zs.length = n at *
  have HN := Lib.hid hn; clear hn
  go_enter Try.func88, Try.ntmps88
  go_wp2
  go_loop [11] (fun i => ∃ k : Nat, k ≤ n ∧ i = .int .i64 k ∧ Hid ((zs.take k).all (inB lo hi) = true)) (fun i => n - (intOf i).toNat)
  case atStart => exact ⟨0, Nat.zero_le _, rfl, by simp [Hid]⟩
  case round =>
    obtain ⟨k, hk, rfl, ht⟩ := hrel
    by_cases hlt : k < n
    · obtain ⟨g, off, rfl, hc⟩ := HA.out (by omega)
      have q := hc k hlt
      have i1 : (k : Int) < (n : Int) := by omega
      have hs := inAll_take_succ (lo := lo) (hi := hi) (zs := zs) (k := k) (by rw [HN.out]; exact hlt)
      have hf := inAll_false (lo := lo) (hi := hi) (zs := zs) (k := k) (by rw [HN.out]; exact hlt)
      have HS := Lib.hid hs; have HF := Lib.hid hf
      clear hc hs hf
      generalize zs.getD k 0 = z at *
      have hcall : Calls Try.prog 94 #[.int .i64 z, .int .i64 lo, .int .i64 hi] w fun e w' => e = .returned (.bool (inB lo hi z)) ∧ w = w' := s_l1In z lo hi w
      have HC := Lib.hid hcall
      clear hcall
      generalize hx : inB lo hi z = x at *
      clear hx
      cases x
      · have HE : Hid (zs.all (inB lo hi) = false) := HF.out rfl
        clear HS HF
        go_wp2_with (go_at_call 94; refine HC.out.mono ?_; rintro e w1 ⟨rfl, rfl⟩)
        go_ret
        exact ⟨r_b HE.out.symm, rfl⟩
      · have HE : Hid ((zs.take (k + 1)).all (inB lo hi) = true) := by unfold Hid; rw [HS.out, ht.out]; rfl
        clear HS HF
        go_wp2_with (go_at_call 94; refine HC.out.mono ?_; rintro e w1 ⟨rfl, rfl⟩)
        go_round
        case rel => exact ⟨k + 1, by omega, by go_num, HE.out⟩
        case measure => simp [intOf]; omega
    · have HE : Hid (zs.all (inB lo hi) = true) := by
        unfold Hid
        have := ht.out
        rwa [List.take_of_length_le (by rw [HN.out]; omega)] at this
      go_wp2
      go_ret
      exact ⟨r_b HE.out.symm, rfl⟩
set_option maxHeartbeats 1600000 in
theorem s_l5Reached (a b c : Value) (h : H) (w : World) (hA : HeapAt w a b c h) (hG : Ph.Good h) : Calls Try.prog 78 #[hv a b c] w fun e w' => ∃ v', e = .returned v' ∧ OwnBs w' w.heap.size v' (reachL h.f h.r) ∧ Below w.heap.size w w' := by
  have hb0 := below1 w (.cells (c3 a b c) 27)
  have A0 := Lib.hid (hA.below hb0)
  have HB := Lib.hid hb0; have G := Lib.hid hG
  have R0 := Lib.hid (show RowH _ _ a b c from Row.new w 27 (c3 a b c))
  clear hA hb0 hG
  have c0 := R0.out.c0
  have c1 := R0.out.c1
  have c2 := R0.out.c2
  go_enter Try.func78, Try.ntmps78
  go_wp2_with fail
  refine (s_l5From a b c c h h.r _ A0.out G.out A0.out.r (by have := G.out.rn; omega) (fun z hz => (refs_bound G.out G.out.rr z hz).imp id (fun h => ⟨h.1, h.2.1⟩))).mono ?_
  rintro e w2 ⟨v', rfl, ho2, hb2⟩
  have B2 := Lib.hid (bst HB.out hb2 HB.out.size); have O2 := Lib.hid (show OwnBs w2 w.heap.size v' (reachL h.f h.r) from owns_mono ho2 fun g hg => Nat.le_trans HB.out.size (owns_lt ho2 hg).1)
  clear hb2 ho2
  go_wp2_with fail
  go_ret
  exact ⟨_, rfl, O2.out, B2.out⟩
set_option maxHeartbeats 1600000 in
theorem s_ReachedIn (a b c : Value) (h : H) (w : World) (hA : HeapAt w a b c h) : Calls Try.prog 17 #[hv a b c] w (EndB (reachR h) (good h) w) := by
  have hb0 := below1 w (.cells (c3 a b c) 27)
  have A0 := Lib.hid (hA.below hb0)
  have HB := Lib.hid hb0
  have R0 := Lib.hid (show RowH _ _ a b c from Row.new w 27 (c3 a b c))
  clear hA hb0
  have HC := Lib.hid (s_GoodHeap a b c h _ A0.out)
  generalize hg : good h = x at *
  have HX := Lib.hid hg
  clear hg
  have c0 := R0.out.c0
  have c1 := R0.out.c1
  have c2 := R0.out.c2
  cases x
  · have HE := Lib.hid (reachR_no HX.out)
    go_enter Try.func17, Try.ntmps17
    go_wp2_with (go_at_call 75; refine HC.out.mono ?_; rintro e w1 ⟨rfl, hb1⟩; have B1 := Lib.hid (bst HB.out hb1 HB.out.size); clear hb1)
    go_ret2
    exact endB_no B1.out HE.out rfl
  · have HE := Lib.hid (reachR_yes HX.out)
    have G := Lib.hid (good_iff.1 HX.out)
    go_enter Try.func17, Try.ntmps17
    go_wp2_with (go_at_call 75; refine HC.out.mono ?_; rintro e w1 ⟨rfl, hb1⟩; have B1 := Lib.hid (bst HB.out hb1 HB.out.size); have A1 := Lib.hid (A0.out.below hb1); have R1 := R0.out.below hb1; have d0 := R1.c0; have d1 := R1.c1; have d2 := R1.c2; clear hb1 R1)
    refine (s_l5Reached a b c h _ A1.out G.out).mono ?_
    rintro e w2 ⟨v', rfl, ho2, hb2⟩
    have B2 := Lib.hid (bst B1.out hb2 B1.out.size); have O2 := Lib.hid ho2
    clear hb2 ho2
    go_wp2_with fail
    go_ret2
    exact endB_yes B2.out O2.out B1.out.size HE.out rfl
set_option maxHeartbeats 3200000 in
theorem s_ReachFrom (a b c v : Value) (h : H) (zs : List Int) (w : World) (hA : HeapAt w a b c h) (hz : IntsAt w v zs) : Calls Try.prog 26 #[hv a b c, v] w (EndB (reachF h zs) (fromOk h zs) w) := by
  have hb0 := below1 w (.cells (c3 a b c) 27)
  have A0 := Lib.hid (hA.below hb0)
  have Z0 := Lib.hid (hz.below hb0)
  have HB := Lib.hid hb0
  have R0 := Lib.hid (show RowH _ _ a b c from Row.new w 27 (c3 a b c))
  obtain ⟨va, vc, rfl⟩ := hz.shape
  obtain ⟨fa, fc, rfl⟩ := hA.f.shape
  clear hA hb0 hz
  have HC := Lib.hid (s_GoodHeap _ b c h _ A0.out)
  have F1 := Lib.hid (fromOk_bad (h := h) (zs := zs)); have F2 := Lib.hid (fromOk_long (h := h) (zs := zs)); have F3 := Lib.hid (fromOk_dead (h := h) (zs := zs)); have F4 := Lib.hid (fromOk_ok (h := h) (zs := zs))
  have E1 := Lib.hid (reachF_no (h := h) (zs := zs)); have E2 := Lib.hid (reachF_yes (h := h) (zs := zs))
  have G1 := Lib.hid (good_iff (h := h)).1
  have AL := Lib.hid (fun g => all_live (h := h) g zs)
  have hll : Hid (Ph.Good h → h.l.length ≤ 9223372036854775806) := fun g => by rw [g.ll]; have := g.n; omega
  have hfl : Hid (Ph.Good h → h.f.length ≤ 12) := fun g => g.n
  generalize hg : good h = x at *
  clear hg
  generalize hm : zs.length = m at *
  have HM := Lib.hid hm; clear hm
  generalize hn : h.f.length = n at *
  clear hn
  have c0 := R0.out.c0
  have c1 := R0.out.c1
  have c2 := R0.out.c2
  cases x
  · have HE := Lib.hid (F1.out rfl)
    go_enter Try.func26, Try.ntmps26
    go_wp2_with (go_at_call 75; refine HC.out.mono ?_; rintro e w1 ⟨rfl, hb1⟩; have B1 := Lib.hid (bst HB.out hb1 HB.out.size); clear hb1)
    go_ret2
    exact endB_no B1.out (E1.out HE.out) HE.out
  · have G := Lib.hid (G1.out rfl)
    by_cases hm12 : 12 < m
    · have HE := Lib.hid (F2.out hm12)
      have i1 : (12 : Int) < (m : Int) := by omega
      go_enter Try.func26, Try.ntmps26
      go_wp2_with (go_at_call 75; refine HC.out.mono ?_; rintro e w1 ⟨rfl, hb1⟩; have B1 := Lib.hid (bst HB.out hb1 HB.out.size); clear hb1)
      go_ret2
      exact endB_no B1.out (E1.out HE.out) HE.out
    · have i1 : ¬ (12 : Int) < (m : Int) := by omega
      have al := AL.out G.out
      have hn12 := hfl.out G.out
      have HML : Hid (zs.length ≤ 9223372036854775806) := by unfold Hid; rw [HM.out]; omega
      have HLL := Lib.hid (hll.out G.out)
      have F5 : Hid (zs.all (liveB h.l) = true → fromOk h zs = true) := fun k => F4.out rfl (by omega) k
      have K1 : Hid (∀ w', IntsAt w' (.slice va m vc) zs → Calls Try.prog 88 #[.slice va m vc, .int .i64 0, .int .i64 ((n : Int) - 1)] w' fun e w'' => e = .returned (.bool (zs.all (inB 0 ((n : Int) - 1)))) ∧ w' = w'') := fun w' hz => s_l1All _ zs 0 _ w' hz HML.out
      have K2 : Hid (∀ w', IntsAt w' (.slice va m vc) zs → BoolsAt w' b h.l → Calls Try.prog 89 #[b, .slice va m vc] w' fun e w'' => e = .returned (.bool (refsB h.l zs)) ∧ w' = w'') := fun w' hz hl => s_l5Names b _ h.l zs w' hl hz HML.out HLL.out
      clear F4
      generalize hx1 : zs.all (inB 0 ((n : Int) - 1)) = x1 at *
      generalize hx2 : refsB h.l zs = x2 at *
      have AL2 := Lib.hid al
      clear al hx1 hx2 AL
      cases x1
      · have HE := Lib.hid (F3.out AL2.out)
        go_enter Try.func26, Try.ntmps26
        go_wp2_with (first
          | (go_at_call 75; refine HC.out.mono ?_; rintro e w1 ⟨rfl, hb1⟩; have B1 := Lib.hid (bst HB.out hb1 HB.out.size); have A1 := Lib.hid (A0.out.below hb1); have Z1 := Lib.hid (Z0.out.below hb1); have R1 := R0.out.below hb1; have d0 := R1.c0; have d1 := R1.c1; have d2 := R1.c2; clear hb1 R1)
          | (go_at_call 88; refine (K1.out _ Z1.out).mono ?_; rintro e w2 ⟨rfl, rfl⟩))
        go_ret2
        exact endB_no B1.out (E1.out HE.out) HE.out
      · cases x2
        · have HE := Lib.hid (F3.out AL2.out)
          go_enter Try.func26, Try.ntmps26
          go_wp2_with (first
            | (go_at_call 75; refine HC.out.mono ?_; rintro e w1 ⟨rfl, hb1⟩; have B1 := Lib.hid (bst HB.out hb1 HB.out.size); have A1 := Lib.hid (A0.out.below hb1); have Z1 := Lib.hid (Z0.out.below hb1); have R1 := R0.out.below hb1; have d0 := R1.c0; have d1 := R1.c1; have d2 := R1.c2; clear hb1 R1)
            | (go_at_call 88; refine (K1.out _ Z1.out).mono ?_; rintro e w2 ⟨rfl, rfl⟩)
            | (go_at_call 89; refine (K2.out _ Z1.out A1.out.l).mono ?_; rintro e w2 ⟨rfl, rfl⟩))
          go_ret2
          exact endB_no B1.out (E1.out HE.out) HE.out
        · have HALL := Lib.hid AL2.out
          have HE := Lib.hid (F5.out AL2.out)
          go_enter Try.func26, Try.ntmps26
          go_wp2_with (first
            | (go_at_call 75; refine HC.out.mono ?_; rintro e w1 ⟨rfl, hb1⟩; have B1 := Lib.hid (bst HB.out hb1 HB.out.size); have A1 := Lib.hid (A0.out.below hb1); have Z1 := Lib.hid (Z0.out.below hb1); have R1 := R0.out.below hb1; have d0 := R1.c0; have d1 := R1.c1; have d2 := R1.c2; clear hb1 R1)
            | (go_at_call 88; refine (K1.out _ Z1.out).mono ?_; rintro e w2 ⟨rfl, rfl⟩)
            | (go_at_call 89; refine (K2.out _ Z1.out A1.out.l).mono ?_; rintro e w2 ⟨rfl, rfl⟩))
          refine (s_l5From _ b c _ h zs _ A1.out G.out Z1.out (by rw [HM.out]; omega) (fun z hz => .inr (live_inR G.out (List.all_eq_true.1 HALL.out z hz)))).mono ?_
          rintro e w4 ⟨v', rfl, ho4, hb4⟩
          have B4 := Lib.hid (bst B1.out hb4 B1.out.size); have O4 := Lib.hid ho4
          clear hb4 ho4
          go_wp2_with fail
          go_ret2
          exact endB_yes B4.out O4.out B1.out.size (E2.out HE.out) HE.out
end Go.Proofs.Ythanckifinfpiaa
