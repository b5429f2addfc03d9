/- The project's ReachedIn and ReachFrom. -/
import Derived.Test.YthanckifinfpiaaHr2
namespace Go.Proofs.Ythanckifinfpiaa.Ph
def fromOk (h : H) (zs : List Int) : Bool := good h && decide (zs.length ≤ 12) && zs.all (liveB h.l)
theorem fromOk_iff {h : H} {zs : List Int} : fromOk h zs = true ↔ Ph.Good h ∧ zs.length ≤ 12 ∧ ∀ z ∈ zs, liveB h.l z = true := by
  unfold fromOk
  simp only [Bool.and_eq_true, decide_eq_true_eq, List.all_eq_true, good_iff, and_assoc]
noncomputable def reachR (h : H) : List Bool := if good h = true then reachL h.f h.r else []
noncomputable def reachF (h : H) (zs : List Int) : List Bool := if fromOk h zs = true then reachL h.f zs else []
theorem live_inR {h : H} (g : Ph.Good h) {z : Int} (hz : liveB h.l z = true) : 0 ≤ z ∧ z < h.f.length := by
  have := liveB_lt hz
  rw [g.ll] at this
  exact this
theorem all_take_succ {l : List Bool} {zs : List Int} {k : Nat} (h : k < zs.length) : (zs.take (k + 1)).all (liveB l) = ((zs.take k).all (liveB l) && liveB l (zs.getD k 0)) := by
  have e : zs.getD k 0 = zs[k] := by simp [List.getD, List.getElem?_eq_getElem h]
  rw [List.take_succ_eq_append_getElem h, List.all_append, e]; simp
theorem all_false {l : List Bool} {zs : List Int} {k : Nat} (h : k < zs.length) (hn : liveB l (zs.getD k 0) = false) : zs.all (liveB l) = false := by
  cases hq : zs.all (liveB l) with
  | false => rfl
  | true =>
    have e : zs.getD k 0 = zs[k] := by simp [List.getD, List.getElem?_eq_getElem h]
    have := (List.all_eq_true.1 hq) zs[k] (List.getElem_mem h)
    rw [e] at hn; rw [hn] at this; cases this
theorem fromOk_bad {h : H} {zs : List Int} (k : good h = false) : fromOk h zs = false := by unfold fromOk; rw [k]; rfl
theorem fromOk_long {h : H} {zs : List Int} (k : 12 < zs.length) : fromOk h zs = false := by unfold fromOk; rw [decide_eq_false (by omega)]; simp
theorem fromOk_dead {h : H} {zs : List Int} (k : zs.all (liveB h.l) = false) : fromOk h zs = false := by unfold fromOk; rw [k]; simp
theorem fromOk_ok {h : H} {zs : List Int} (k1 : good h = true) (k2 : zs.length ≤ 12) (k3 : zs.all (liveB h.l) = true) : fromOk h zs = true := by unfold fromOk; rw [k1, decide_eq_true k2, k3]; rfl
theorem reachF_no {h : H} {zs : List Int} (k : fromOk h zs = false) : reachF h zs = [] := by unfold reachF; rw [k]; rfl
theorem reachF_yes {h : H} {zs : List Int} (k : fromOk h zs = true) : reachF h zs = reachL h.f zs := by unfold reachF; rw [k]; rfl
theorem reachR_no {h : H} (k : good h = false) : reachR h = [] := by unfold reachR; rw [k]; rfl
theorem reachR_len (h : H) : (reachR h).length ≤ 1000 := by
  cases hg : good h with
  | false => rw [reachR_no hg]; simp
  | true => unfold reachR; rw [hg, if_pos rfl, reachL_length]; have := (good_iff.1 hg).n; omega
theorem reachF_len (h : H) (zs : List Int) : (reachF h zs).length ≤ 1000 := by
  cases hg : fromOk h zs with
  | false => rw [reachF_no hg]; simp
  | true => rw [reachF_yes hg, reachL_length]; have := (fromOk_iff.1 hg).1.n; omega
theorem reachR_yes {h : H} (k : good h = true) : reachR h = reachL h.f h.r := by unfold reachR; rw [k]; rfl
end Go.Proofs.Ythanckifinfpiaa.Ph
namespace Go.Proofs.Ythanckifinfpiaa
open Go.RowKit Ph

theorem endB_no {w w' : World} {bs : List Bool} {ok : Bool} (hb : Below w.heap.size w w') (h1 : bs = []) (h2 : ok = false) : EndB bs ok w (.returned (.tuple #[.slice none 0 0, .bool false])) w' := by
  subst h1; subst h2
  exact ⟨_, rfl, OwnH.nil w' _ _, hb⟩
theorem endB_yes {w w' : World} {bs bs' : List Bool} {ok : Bool} {v : Value} {B : Nat} (hb : Below w.heap.size w w') (ho : OwnBs w' B v bs') (hB : w.heap.size ≤ B) (h1 : bs = bs') (h2 : ok = true) : EndB bs ok w (.returned (.tuple #[v, .bool true])) w' := by
  subst h1; subst h2
  exact ⟨_, rfl, OwnH.ofBools (owns_mono ho fun g hg => Nat.le_trans hB (owns_lt ho hg).1) hb.size, hb⟩
set_option maxHeartbeats 1600000 in
theorem c_ReachedIn (a b c : Value) (h : H) (w : World) (hA : HeapAt w a b c h) : Calls Try.prog 16 #[hv a b c] w (EndB (reachR h) (good h) w) := by
  have hb0 := below1 w (.cells (c3 a b c) 27)
  have A0 := Lib.hid (hA.below hb0)
  have HB := Lib.hid hb0
  have R0 := Lib.hid (show RowH _ _ a b c from Row.new w 27 (c3 a b c))
  clear hA hb0
  have HC := Lib.hid (c_GoodHeap a b c h _ A0.out)
  generalize hg : good h = x at *
  have HX := Lib.hid hg
  clear hg
  have c0 := R0.out.c0
  have c1 := R0.out.c1
  have c2 := R0.out.c2
  cases x
  · have HE := Lib.hid (reachR_no HX.out)
    go_enter Try.func16, Try.ntmps16
    go_wp2_with (go_at_call 20; refine HC.out.mono ?_; rintro e w1 ⟨rfl, hb1⟩; have B1 := Lib.hid (bst HB.out hb1 HB.out.size); clear hb1)
    go_ret2
    exact endB_no B1.out HE.out rfl
  · have HE := Lib.hid (reachR_yes HX.out)
    have G := Lib.hid (good_iff.1 HX.out)
    go_enter Try.func16, Try.ntmps16
    go_wp2_with (go_at_call 20; refine HC.out.mono ?_; rintro e w1 ⟨rfl, hb1⟩; have B1 := Lib.hid (bst HB.out hb1 HB.out.size); have A1 := Lib.hid (A0.out.below hb1); have R1 := R0.out.below hb1; have d0 := R1.c0; have d1 := R1.c1; have d2 := R1.c2; clear hb1 R1)
    refine (c_reachedOver a b c c h h.r _ A1.out G.out A1.out.r (by have := G.out.rn; omega) (fun z hz => (refs_bound G.out G.out.rr z hz).imp id (fun h => ⟨h.1, h.2.1⟩))).mono ?_
    rintro e w2 ⟨v', rfl, ho2, hb2⟩
    have B2 := Lib.hid (bst B1.out hb2 B1.out.size); have O2 := Lib.hid ho2
    clear hb2 ho2
    go_wp2_with fail
    go_ret2
    exact endB_yes B2.out O2.out B1.out.size HE.out rfl
set_option maxHeartbeats 3200000 in
theorem c_ReachFrom (a b c v : Value) (h : H) (zs : List Int) (w : World) (hA : HeapAt w a b c h) (hz : IntsAt w v zs) : Calls Try.prog 25 #[hv a b c, v] w (EndB (reachF h zs) (fromOk h zs) w) := by
  have hb0 := below1 w (.cells (c3 a b c) 27)
  have A0 := Lib.hid (hA.below hb0)
  have Z0 := Lib.hid (hz.below hb0)
  have HB := Lib.hid hb0
  have R0 := Lib.hid (show RowH _ _ a b c from Row.new w 27 (c3 a b c))
  obtain ⟨va, vc, rfl⟩ := hz.shape
  clear hA hb0 hz
  have HC := Lib.hid (c_GoodHeap a b c h _ A0.out)
  have F1 := Lib.hid (fromOk_bad (h := h) (zs := zs)); have F2 := Lib.hid (fromOk_long (h := h) (zs := zs)); have F3 := Lib.hid (fromOk_dead (h := h) (zs := zs)); have F4 := Lib.hid (fromOk_ok (h := h) (zs := zs))
  have E1 := Lib.hid (reachF_no (h := h) (zs := zs)); have E2 := Lib.hid (reachF_yes (h := h) (zs := zs))
  have G1 := Lib.hid (good_iff (h := h)).1
  generalize hg : good h = x at *
  clear hg
  generalize hm : zs.length = m at *
  have HM := Lib.hid hm; clear hm
  have c0 := R0.out.c0
  have c1 := R0.out.c1
  have c2 := R0.out.c2
  cases x
  · have HE := Lib.hid (F1.out rfl)
    go_enter Try.func25, Try.ntmps25
    go_wp2_with (go_at_call 20; refine HC.out.mono ?_; rintro e w1 ⟨rfl, hb1⟩; have B1 := Lib.hid (bst HB.out hb1 HB.out.size); clear hb1)
    go_ret2
    exact endB_no B1.out (E1.out HE.out) HE.out
  · have G := Lib.hid (G1.out rfl)
    by_cases hm12 : 12 < m
    · have HE := Lib.hid (F2.out hm12)
      have i1 : (12 : Int) < (m : Int) := by omega
      go_enter Try.func25, Try.ntmps25
      go_wp2_with (go_at_call 20; refine HC.out.mono ?_; rintro e w1 ⟨rfl, hb1⟩; have B1 := Lib.hid (bst HB.out hb1 HB.out.size); clear hb1)
      go_ret2
      exact endB_no B1.out (E1.out HE.out) HE.out
    · have i1 : ¬ (12 : Int) < (m : Int) := by omega
      go_enter Try.func25, Try.ntmps25
      go_wp2_with (go_at_call 20; refine HC.out.mono ?_; rintro e w1 ⟨rfl, hb1⟩; have B1 := Lib.hid (bst HB.out hb1 HB.out.size); have A1 := Lib.hid (A0.out.below hb1); have Z1 := Lib.hid (Z0.out.below hb1); have R1 := Lib.hid (R0.out.below hb1); clear hb1)
      clear c0 c1 c2 R0 A0 Z0 HC HB
      go_loopw [18] (fun i wr => ∃ k : Nat, k ≤ m ∧ i = .int .i64 k ∧ Hid ((zs.take k).all (liveB h.l) = true) ∧ Below w1.heap.size w1 wr) (fun i _ => m - (intOf i).toNat)
      case atStart => exact ⟨0, Nat.zero_le _, rfl, by simp [Hid], Below.refl _ _⟩
      case round =>
        obtain ⟨k, hk, rfl, ht, hbr⟩ := hrel
        have BW := Lib.hid (bst B1.out hbr B1.out.size)
        have A2 := Lib.hid (A1.out.below hbr); have Z2 := Lib.hid (Z1.out.below hbr)
        have R2 := R1.out.below hbr
        have d0 := R2.c0
        have d1 := R2.c1
        have d2 := R2.c2
        have HBR := Lib.hid hbr
        clear hbr R2
        by_cases hlt : k < m
        · obtain ⟨g, off, rfl, hc⟩ := Z2.out.at' (by omega)
          have q := hc k hlt
          have i2 : (k : Int) < (m : Int) := by omega
          have hs := all_take_succ (l := h.l) (zs := zs) (k := k) (by rw [HM.out]; exact hlt)
          have hf := all_false (l := h.l) (zs := zs) (k := k) (by rw [HM.out]; exact hlt)
          have HS := Lib.hid hs; have HF := Lib.hid hf
          clear hc hs hf
          generalize zs.getD k 0 = z at *
          generalize hx : liveB h.l z = x at *
          have HX := Lib.hid hx; clear hx
          cases x
          · have HE := Lib.hid (F3.out (HF.out rfl))
            go_wp2_with (go_at_call 87; refine (c_isLive a b c h.l z _ A2.out.l).mono ?_; rintro e w3 ⟨rfl, hb3⟩; rw [HX.out]; have B3 := Lib.hid (bst BW.out hb3 BW.out.size); clear hb3)
            go_ret2
            exact endB_no B3.out (E1.out HE.out) HE.out
          · have HE : Hid ((zs.take (k + 1)).all (liveB h.l) = true) := by unfold Hid; rw [HS.out, ht.out]; rfl
            go_wp2_with (go_at_call 87; refine (c_isLive a b c h.l z _ A2.out.l).mono ?_; rintro e w3 ⟨rfl, hb3⟩; rw [HX.out]; have B3 := Lib.hid (bst HBR.out hb3 HBR.out.size); clear hb3)
            go_roundw
            case rel => exact ⟨k + 1, by omega, by go_num, HE.out, B3.out⟩
            case measure => simp [intOf]; omega
        · have hall : zs.all (liveB h.l) = true := by
            have := ht.out
            rwa [List.take_of_length_le (by rw [HM.out]; omega)] at this
          have HE := Lib.hid (F4.out trivial (by omega) hall)
          have HALL := Lib.hid hall
          clear hall
          go_wp2_with fail
          refine (c_reachedOver a b c _ h zs _ A2.out G.out Z2.out (by rw [HM.out]; omega) (fun z hz => .inr (live_inR G.out (List.all_eq_true.1 HALL.out z hz)))).mono ?_
          rintro e w4 ⟨v', rfl, ho4, hb4⟩
          have B4 := Lib.hid (bst BW.out hb4 BW.out.size); have O4 := Lib.hid ho4
          clear hb4 ho4
          go_wp2_with fail
          go_ret2
          exact endB_yes B4.out O4.out BW.out.size (E2.out HE.out) HE.out
end Go.Proofs.Ythanckifinfpiaa
