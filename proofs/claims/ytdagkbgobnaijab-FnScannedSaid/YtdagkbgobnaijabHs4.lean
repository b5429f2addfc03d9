/- The reference's ReachedIn and ReachFrom. -/
import Derived.Test.YtdagkbgobnaijabHs3
namespace Go.Proofs.Ytdagkbgobnaijab.Ph
def inB (lo hi z : Int) : Bool := decide (lo ≤ z) && decide (z ≤ hi)
theorem inAll_take_succ {lo hi : Int} {zs : List Int} {k : Nat} (h : k < zs.length) : (zs.take (k + 1)).all (inB lo hi) = ((zs.take k).all (inB lo hi) && inB lo hi (zs.getD k 0)) := by
  have e : zs.getD k 0 = zs[k] := by simp [List.getD, List.getElem?_eq_getElem h]
  rw [List.take_succ_eq_append_getElem h, List.all_append, e]; simp
theorem inAll_false {lo hi : Int} {zs : List Int} {k : Nat} (h : k < zs.length) (hn : inB lo hi (zs.getD k 0) = false) : zs.all (inB lo hi) = false := by
  cases hq : zs.all (inB lo hi) with
  | false => rfl
  | true =>
    have e : zs.getD k 0 = zs[k] := by simp [List.getD, List.getElem?_eq_getElem h]
    have := (List.all_eq_true.1 hq) zs[k] (List.getElem_mem h)
    rw [e] at hn; rw [hn] at this; cases this
theorem all_live {h : H} (g : Ph.Good h) (zs : List Int) : zs.all (liveB h.l) = (zs.all (inB 0 ((h.f.length : Int) - 1)) && refsB h.l zs) := by
  rw [Bool.eq_iff_iff, Bool.and_eq_true, List.all_eq_true, List.all_eq_true, refsB_iff]
  constructor
  · intro hh
    refine ⟨fun z hz => ?_, fun z hz => refB_iff.2 (.inr (hh z hz))⟩
    have := live_inR g (hh z hz)
    simp [inB]; omega
  · rintro ⟨h1, h2⟩ z hz
    have a := h1 z hz
    simp [inB] at a
    rcases refB_iff.1 (h2 z hz) with e | e
    · omega
    · exact e
end Go.Proofs.Ytdagkbgobnaijab.Ph
namespace Go.Proofs.Ytdagkbgobnaijab
open Go.RowKit Ph

set_option maxHeartbeats 1600000 in
theorem s_l1All (v : Value) (zs : List Int) (lo hi : Int) (w : World) (hz : IntsAt w v zs) (hm : zs.length ≤ 9223372036854775806) : Calls Try.prog 111 #[v, .int .i64 lo, .int .i64 hi] w fun e w' => e = .returned (.bool (zs.all (inB lo hi))) ∧ w = w' := by
  obtain ⟨va, vc, rfl, hA⟩ := hz
  have HA := Lib.hid hA
  clear hA
  generalize hn : zs.length = n at *
  have HN := Lib.hid hn; clear hn
  go_enter Try.func111, Try.ntmps111
  go_wp2
  go_loop [11] (fun i => ∃ k : Nat, k ≤ n ∧ i = .int .i64 k ∧ Hid ((zs.take k).all (inB lo hi) = true)) (fun i => n - (intOf i).toNat)
  case atStart => exact ⟨0, Nat.zero_le _, rfl, by simp [Hid]⟩
  case round =>
    obtain ⟨k, hk, rfl, ht⟩ := hrel
    by_cases hlt : k < n
    · obtain ⟨g, off, rfl, hc⟩ := HA.out (by omega)
      have q := hc k hlt
      have i1 : (k : Int) < (n : Int) := by omega
      have hs := inAll_take_succ (lo := lo) (hi := hi) (zs := zs) (k := k) (by rw [HN.out]; exact hlt)
      have hf := inAll_false (lo := lo) (hi := hi) (zs := zs) (k := k) (by rw [HN.out]; exact hlt)
      have HS := Lib.hid hs; have HF := Lib.hid hf
      clear hc hs hf
      generalize zs.getD k 0 = z at *
      have hcall : Calls Try.prog 116 #[.int .i64 z, .int .i64 lo, .int .i64 hi] w fun e w' => e = .returned (.bool (inB lo hi z)) ∧ w = w' := s_l1In z lo hi w
      have HC := Lib.hid hcall
      clear hcall
      generalize hx : inB lo hi z = x at *
      clear hx
      cases x
      · have HE : Hid (zs.all (inB lo hi) = false) := HF.out rfl
        clear HS HF
        go_wp2_with (go_at_call 116; refine HC.out.mono ?_; rintro e w1 ⟨rfl, rfl⟩)
        go_ret
        exact ⟨r_b HE.out.symm, rfl⟩
      · have HE : Hid ((zs.take (k + 1)).all (inB lo hi) = true) := by unfold Hid; rw [HS.out, ht.out]; rfl
        clear HS HF
        go_wp2_with (go_at_call 116; refine HC.out.mono ?_; rintro e w1 ⟨rfl, rfl⟩)
        go_round
        case rel => exact ⟨k + 1, by omega, by go_num, HE.out⟩
        case measure => simp [intOf]; omega
    · have HE : Hid (zs.all (inB lo hi) = true) := by
        unfold Hid
        have := ht.out
        rwa [List.take_of_length_le (by rw [HN.out]; omega)] at this
      go_wp2
      go_ret
      exact ⟨r_b HE.out.symm, rfl⟩
set_option maxHeartbeats 1600000 in
theorem s_l5Reached (a b c : Value) (h : H) (w : World) (hA : HeapAt w a b c h) (hG : Ph.Good h) : Calls Try.prog 135 #[hv a b c] w fun e w' => ∃ v', e = .returned v' ∧ OwnBs w' w.heap.size v' (reachL h.f h.r) ∧ Below w.heap.size w w' := by
  have hb0 := below1 w (.cells (c3 a b c) 27)
  have A0 := Lib.hid (hA.below hb0)
  have HB := Lib.hid hb0; have G := Lib.hid hG
  have R0 := Lib.hid (show RowH _ _ a b c from Row.new w 27 (c3 a b c))
  clear hA hb0 hG
  have c0 := R0.out.c0
  have c1 := R0.out.c1
  have c2 := R0.out.c2
  go_enter Try.func135, Try.ntmps135
  go_wp2_with fail
  refine (s_l5From a b c c h h.r _ A0.out G.out A0.out.r (by have := G.out.rn; omega) (fun z hz => (refs_bound G.out G.out.rr z hz).imp id (fun h => ⟨h.1, h.2.1⟩))).mono ?_
  rintro e w2 ⟨v', rfl, ho2, hb2⟩
  have B2 := Lib.hid (bst HB.out hb2 HB.out.size); have O2 := Lib.hid (show OwnBs w2 w.heap.size v' (reachL h.f h.r) from owns_mono ho2 fun g hg => Nat.le_trans HB.out.size (owns_lt ho2 hg).1)
  clear hb2 ho2
  go_wp2_with fail
  go_ret
  exact ⟨_, rfl, O2.out, B2.out⟩
end Go.Proofs.Ytdagkbgobnaijab
