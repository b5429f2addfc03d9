/- What the laws rest on, part 2. -/
import Derived.Test.YtkkigoamphkalaaQD1
import Derived.Deep.AppendSrc
import Derived.ArgAppend
import Derived.Deep.LoopGhost
namespace Go.Proofs.Ytkkigoamphkalaa.Ph
def fromOk (h : H) (zs : List Int) : Bool := good h && decide (zs.length ≤ 12) && zs.all (liveB h.l)
theorem fromOk_iff {h : H} {zs : List Int} : fromOk h zs = true ↔ Ph.Good h ∧ zs.length ≤ 12 ∧ ∀ z ∈ zs, liveB h.l z = true := by
  unfold fromOk
  simp only [Bool.and_eq_true, decide_eq_true_eq, List.all_eq_true, good_iff, and_assoc]
noncomputable def reachR (h : H) : List Bool := if good h = true then reachL h.f h.r else []
noncomputable def reachF (h : H) (zs : List Int) : List Bool := if fromOk h zs = true then reachL h.f zs else []
theorem live_inR {h : H} (g : Ph.Good h) {z : Int} (hz : liveB h.l z = true) : 0 ≤ z ∧ z < h.f.length := by
  have := liveB_lt hz
  rw [g.ll] at this
  exact this
theorem all_take_succ {l : List Bool} {zs : List Int} {k : Nat} (h : k < zs.length) : (zs.take (k + 1)).all (liveB l) = ((zs.take k).all (liveB l) && liveB l (zs.getD k 0)) := by
  have e : zs.getD k 0 = zs[k] := by simp [List.getD, List.getElem?_eq_getElem h]
  rw [List.take_succ_eq_append_getElem h, List.all_append, e]; simp
theorem all_false {l : List Bool} {zs : List Int} {k : Nat} (h : k < zs.length) (hn : liveB l (zs.getD k 0) = false) : zs.all (liveB l) = false := by
  cases hq : zs.all (liveB l) with
  | false => rfl
  | true =>
    have e : zs.getD k 0 = zs[k] := by simp [List.getD, List.getElem?_eq_getElem h]
    have := (List.all_eq_true.1 hq) zs[k] (List.getElem_mem h)
    rw [e] at hn; rw [hn] at this; cases this
theorem fromOk_bad {h : H} {zs : List Int} (k : good h = false) : fromOk h zs = false := by unfold fromOk; rw [k]; rfl
theorem fromOk_long {h : H} {zs : List Int} (k : 12 < zs.length) : fromOk h zs = false := by unfold fromOk; rw [decide_eq_false (by omega)]; simp
theorem fromOk_dead {h : H} {zs : List Int} (k : zs.all (liveB h.l) = false) : fromOk h zs = false := by unfold fromOk; rw [k]; simp
theorem fromOk_ok {h : H} {zs : List Int} (k1 : good h = true) (k2 : zs.length ≤ 12) (k3 : zs.all (liveB h.l) = true) : fromOk h zs = true := by unfold fromOk; rw [k1, decide_eq_true k2, k3]; rfl
theorem reachF_no {h : H} {zs : List Int} (k : fromOk h zs = false) : reachF h zs = [] := by unfold reachF; rw [k]; rfl
theorem reachF_yes {h : H} {zs : List Int} (k : fromOk h zs = true) : reachF h zs = reachL h.f zs := by unfold reachF; rw [k]; rfl
theorem reachR_no {h : H} (k : good h = false) : reachR h = [] := by unfold reachR; rw [k]; rfl
theorem reachR_len (h : H) : (reachR h).length ≤ 1000 := by
  cases hg : good h with
  | false => rw [reachR_no hg]; simp
  | true => unfold reachR; rw [hg, if_pos rfl, reachL_length]; have := (good_iff.1 hg).n; omega
theorem reachF_len (h : H) (zs : List Int) : (reachF h zs).length ≤ 1000 := by
  cases hg : fromOk h zs with
  | false => rw [reachF_no hg]; simp
  | true => rw [reachF_yes hg, reachL_length]; have := (fromOk_iff.1 hg).1.n; omega
theorem reachR_yes {h : H} (k : good h = true) : reachR h = reachL h.f h.r := by unfold reachR; rw [k]; rfl
end Go.Proofs.Ytkkigoamphkalaa.Ph
namespace Go.Proofs.Ytkkigoamphkalaa
open Go.RowKit Ph

theorem endB_no {w w' : World} {bs : List Bool} {ok : Bool} (hb : Below w.heap.size w w') (h1 : bs = []) (h2 : ok = false) : EndB bs ok w (.returned (.tuple #[.slice none 0 0, .bool false])) w' := by
  subst h1; subst h2
  exact ⟨_, rfl, OwnH.nil w' _ _, hb⟩
theorem endB_yes {w w' : World} {bs bs' : List Bool} {ok : Bool} {v : Value} {B : Nat} (hb : Below w.heap.size w w') (ho : OwnBs w' B v bs') (hB : w.heap.size ≤ B) (h1 : bs = bs') (h2 : ok = true) : EndB bs ok w (.returned (.tuple #[v, .bool true])) w' := by
  subst h1; subst h2
  exact ⟨_, rfl, OwnH.ofBools (owns_mono ho fun g hg => Nat.le_trans hB (owns_lt ho hg).1) hb.size, hb⟩
set_option maxHeartbeats 1600000 in
theorem c_ReachedIn (a b c : Value) (h : H) (w : World) (hA : HeapAt w a b c h) : Calls Try.prog 17 #[hv a b c] w (EndB (reachR h) (good h) w) := by
  have hb0 := below1 w (.cells (c3 a b c) 30)
  have A0 := Lib.hid (hA.below hb0)
  have HB := Lib.hid hb0
  have R0 := Lib.hid (show RowH _ _ a b c from Row.new w 30 (c3 a b c))
  clear hA hb0
  have HC := Lib.hid (c_GoodHeap a b c h _ A0.out)
  generalize hg : good h = x at *
  have HX := Lib.hid hg
  clear hg
  have c0 := R0.out.c0
  have c1 := R0.out.c1
  have c2 := R0.out.c2
  cases x
  · have HE := Lib.hid (reachR_no HX.out)
    go_enter Try.func17, Try.ntmps17
    go_wp2_with (go_at_call 55; refine HC.out.mono ?_; rintro e w1 ⟨rfl, hb1⟩; have B1 := Lib.hid (bst HB.out hb1 HB.out.size); clear hb1)
    go_ret2
    exact endB_no B1.out HE.out rfl
  · have HE := Lib.hid (reachR_yes HX.out)
    have G := Lib.hid (good_iff.1 HX.out)
    go_enter Try.func17, Try.ntmps17
    go_wp2_with (go_at_call 55; refine HC.out.mono ?_; rintro e w1 ⟨rfl, hb1⟩; have B1 := Lib.hid (bst HB.out hb1 HB.out.size); have A1 := Lib.hid (A0.out.below hb1); have R1 := R0.out.below hb1; have d0 := R1.c0; have d1 := R1.c1; have d2 := R1.c2; clear hb1 R1)
    refine (c_reachedOver a b c c h h.r _ A1.out G.out A1.out.r (by have := G.out.rn; omega) (fun z hz => (refs_bound G.out G.out.rr z hz).imp id (fun h => ⟨h.1, h.2.1⟩))).mono ?_
    rintro e w2 ⟨v', rfl, ho2, hb2⟩
    have B2 := Lib.hid (bst B1.out hb2 B1.out.size); have O2 := Lib.hid ho2
    clear hb2 ho2
    go_wp2_with fail
    go_ret2
    exact endB_yes B2.out O2.out B1.out.size HE.out rfl
set_option maxHeartbeats 3200000 in
theorem c_ReachFrom (a b c v : Value) (h : H) (zs : List Int) (w : World) (hA : HeapAt w a b c h) (hz : IntsAt w v zs) : Calls Try.prog 25 #[hv a b c, v] w (EndB (reachF h zs) (fromOk h zs) w) := by
  have hb0 := below1 w (.cells (c3 a b c) 30)
  have A0 := Lib.hid (hA.below hb0)
  have Z0 := Lib.hid (hz.below hb0)
  have HB := Lib.hid hb0
  have R0 := Lib.hid (show RowH _ _ a b c from Row.new w 30 (c3 a b c))
  obtain ⟨va, vc, rfl⟩ := hz.shape
  clear hA hb0 hz
  have HC := Lib.hid (c_GoodHeap a b c h _ A0.out)
  have F1 := Lib.hid (fromOk_bad (h := h) (zs := zs)); have F2 := Lib.hid (fromOk_long (h := h) (zs := zs)); have F3 := Lib.hid (fromOk_dead (h := h) (zs := zs)); have F4 := Lib.hid (fromOk_ok (h := h) (zs := zs))
  have E1 := Lib.hid (reachF_no (h := h) (zs := zs)); have E2 := Lib.hid (reachF_yes (h := h) (zs := zs))
  have G1 := Lib.hid (good_iff (h := h)).1
  generalize hg : good h = x at *
  clear hg
  generalize hm : zs.length = m at *
  have HM := Lib.hid hm; clear hm
  have c0 := R0.out.c0
  have c1 := R0.out.c1
  have c2 := R0.out.c2
  cases x
  · have HE := Lib.hid (F1.out rfl)
    go_enter Try.func25, Try.ntmps25
    go_wp2_with (go_at_call 55; refine HC.out.mono ?_; rintro e w1 ⟨rfl, hb1⟩; have B1 := Lib.hid (bst HB.out hb1 HB.out.size); clear hb1)
    go_ret2
    exact endB_no B1.out (E1.out HE.out) HE.out
  · have G := Lib.hid (G1.out rfl)
    by_cases hm12 : 12 < m
    · have HE := Lib.hid (F2.out hm12)
      have i1 : (12 : Int) < (m : Int) := by omega
      go_enter Try.func25, Try.ntmps25
      go_wp2_with (go_at_call 55; refine HC.out.mono ?_; rintro e w1 ⟨rfl, hb1⟩; have B1 := Lib.hid (bst HB.out hb1 HB.out.size); clear hb1)
      go_ret2
      exact endB_no B1.out (E1.out HE.out) HE.out
    · have i1 : ¬ (12 : Int) < (m : Int) := by omega
      go_enter Try.func25, Try.ntmps25
      go_wp2_with (go_at_call 55; refine HC.out.mono ?_; rintro e w1 ⟨rfl, hb1⟩; have B1 := Lib.hid (bst HB.out hb1 HB.out.size); have A1 := Lib.hid (A0.out.below hb1); have Z1 := Lib.hid (Z0.out.below hb1); have R1 := Lib.hid (R0.out.below hb1); clear hb1)
      clear c0 c1 c2 R0 A0 Z0 HC HB
      go_loopw [18] (fun i wr => ∃ k : Nat, k ≤ m ∧ i = .int .i64 k ∧ Hid ((zs.take k).all (liveB h.l) = true) ∧ Below w1.heap.size w1 wr) (fun i _ => m - (intOf i).toNat)
      case atStart => exact ⟨0, Nat.zero_le _, rfl, by simp [Hid], Below.refl _ _⟩
      case round =>
        obtain ⟨k, hk, rfl, ht, hbr⟩ := hrel
        have BW := Lib.hid (bst B1.out hbr B1.out.size)
        have A2 := Lib.hid (A1.out.below hbr); have Z2 := Lib.hid (Z1.out.below hbr)
        have R2 := R1.out.below hbr
        have d0 := R2.c0
        have d1 := R2.c1
        have d2 := R2.c2
        have HBR := Lib.hid hbr
        clear hbr R2
        by_cases hlt : k < m
        · obtain ⟨g, off, rfl, hc⟩ := Z2.out.at' (by omega)
          have q := hc k hlt
          have i2 : (k : Int) < (m : Int) := by omega
          have hs := all_take_succ (l := h.l) (zs := zs) (k := k) (by rw [HM.out]; exact hlt)
          have hf := all_false (l := h.l) (zs := zs) (k := k) (by rw [HM.out]; exact hlt)
          have HS := Lib.hid hs; have HF := Lib.hid hf
          clear hc hs hf
          generalize zs.getD k 0 = z at *
          generalize hx : liveB h.l z = x at *
          have HX := Lib.hid hx; clear hx
          cases x
          · have HE := Lib.hid (F3.out (HF.out rfl))
            go_wp2_with (go_at_call 90; refine (c_isLive a b c h.l z _ A2.out.l).mono ?_; rintro e w3 ⟨rfl, hb3⟩; rw [HX.out]; have B3 := Lib.hid (bst BW.out hb3 BW.out.size); clear hb3)
            go_ret2
            exact endB_no B3.out (E1.out HE.out) HE.out
          · have HE : Hid ((zs.take (k + 1)).all (liveB h.l) = true) := by unfold Hid; rw [HS.out, ht.out]; rfl
            go_wp2_with (go_at_call 90; refine (c_isLive a b c h.l z _ A2.out.l).mono ?_; rintro e w3 ⟨rfl, hb3⟩; rw [HX.out]; have B3 := Lib.hid (bst HBR.out hb3 HBR.out.size); clear hb3)
            go_roundw
            case rel => exact ⟨k + 1, by omega, by go_num, HE.out, B3.out⟩
            case measure => simp [intOf]; omega
        · have hall : zs.all (liveB h.l) = true := by
            have := ht.out
            rwa [List.take_of_length_le (by rw [HM.out]; omega)] at this
          have HE := Lib.hid (F4.out trivial (by omega) hall)
          have HALL := Lib.hid hall
          clear hall
          go_wp2_with fail
          refine (c_reachedOver a b c _ h zs _ A2.out G.out Z2.out (by rw [HM.out]; omega) (fun z hz => .inr (live_inR G.out (List.all_eq_true.1 HALL.out z hz)))).mono ?_
          rintro e w4 ⟨v', rfl, ho4, hb4⟩
          have B4 := Lib.hid (bst BW.out hb4 BW.out.size); have O4 := Lib.hid ho4
          clear hb4 ho4
          go_wp2_with fail
          go_ret2
          exact endB_yes B4.out O4.out BW.out.size (E2.out HE.out) HE.out
end Go.Proofs.Ytkkigoamphkalaa
namespace Go.Proofs.Ytkkigoamphkalaa.Ph
def keepStep (ks : List Bool) (p : H × Nat) (j : Nat) : H × Nat := if (p.1.l.getD j false && !ks.getD j false) = true then (⟨p.1.f.set j [], p.1.l.set j false, p.1.r⟩, p.2 + 1) else p
def keepTo (h : H) (ks : List Bool) : Nat → H × Nat
  | 0 => (h, 0)
  | j + 1 => keepStep ks (keepTo h ks j) j
theorem keepTo_len (h : H) (ks : List Bool) (j : Nat) : (keepTo h ks j).1.f.length = h.f.length ∧ (keepTo h ks j).1.l.length = h.l.length ∧ (keepTo h ks j).1.r = h.r ∧ (keepTo h ks j).2 ≤ j := by
  induction j with
  | zero => exact ⟨rfl, rfl, rfl, Nat.le_refl _⟩
  | succ j ih =>
    simp only [keepTo, keepStep]
    split
    · simp only [List.length_set]; exact ⟨ih.1, ih.2.1, ih.2.2.1, by omega⟩
    · exact ⟨ih.1, ih.2.1, ih.2.2.1, by omega⟩
theorem keepTo_yes {h : H} {ks : List Bool} {j : Nat} (h1 : (keepTo h ks j).1.l.getD j false = true) (h2 : ks.getD j false = false) : keepTo h ks (j + 1) = (⟨(keepTo h ks j).1.f.set j [], (keepTo h ks j).1.l.set j false, (keepTo h ks j).1.r⟩, (keepTo h ks j).2 + 1) := by
  simp only [keepTo, keepStep]; rw [h1, h2]; rfl
theorem keepTo_no {h : H} {ks : List Bool} {j : Nat} (h1 : (keepTo h ks j).1.l.getD j false = false ∨ ks.getD j false = true) : keepTo h ks (j + 1) = keepTo h ks j := by
  simp only [keepTo, keepStep]
  rcases h1 with h1 | h1
  · rw [h1]; rfl
  · rw [h1]; simp
end Go.Proofs.Ytkkigoamphkalaa.Ph
namespace Go.Proofs.Ytkkigoamphkalaa
open Go.RowKit Ph

theorem putNil {w : World} {lo hi : Nat} {a b c : Value} {h : H} (k : OwnH w lo hi a b c h) {j : Nat} (hj : j < h.f.length) : ∃ ga ca x, a = .slice (some ⟨ga, 0, none⟩) h.f.length ca ∧ w.cell? ⟨ga, j, none⟩ = some x ∧ w.frozen? ⟨ga, j, none⟩ = false ∧ OwnH (w.setCell ⟨ga, j, none⟩ (.slice none 0 0)) lo hi a b c ⟨h.f.set j [], h.l, h.r⟩ ∧ Chg lo hi w (w.setCell ⟨ga, j, none⟩ (.slice none 0 0)) := by
  obtain ⟨us, hf⟩ := k
  rcases hf.shape with ⟨_, h0⟩ | ⟨ga, ca, ha⟩
  · rw [h0] at hj; simp at hj
  obtain ⟨c1, f1⟩ := hf.cell ha hj
  obtain ⟨s1, s2⟩ := hf.putRow hj (Own.nil w lo) (Nat.le_refl _) (fun g hg => by cases hg) ha
  exact ⟨ga, ca, _, ha, c1, f1, ⟨_, s1⟩, Chg.of_grown s2 fun g hg => by
    cases hg
    have := Fam.blk hf (k := 0) (g := ga) (by omega) (by show a.ownBlock = _; rw [ha]; rfl)
    exact ⟨this.1, this.2.1⟩⟩
theorem putLiveB {w : World} {lo hi : Nat} {a b c : Value} {h : H} (k : OwnH w lo hi a b c h) {j : Nat} (hj : j < h.l.length) (x : Bool) : ∃ gb cb, b = .slice (some ⟨gb, 0, none⟩) h.l.length cb ∧ w.cell? ⟨gb, j, none⟩ = some (.bool (h.l.getD j false)) ∧ w.frozen? ⟨gb, j, none⟩ = false ∧ OwnH (w.setCell ⟨gb, j, none⟩ (.bool x)) lo hi a b c ⟨h.f, h.l.set j x, h.r⟩ ∧ Chg lo hi w (w.setCell ⟨gb, j, none⟩ (.bool x)) := by
  obtain ⟨us, hf⟩ := k
  have hl := hf.live
  rcases hl.shape with ⟨_, h0⟩ | ⟨gb, cb, hb⟩
  · rw [h0] at hj; simp at hj
  have hl2 := hl
  rw [hb] at hl2
  obtain ⟨s1, s2, s3, s4⟩ := hl2.stored rfl hj x
  exact ⟨gb, cb, hb, s3, s4, ⟨us, hf.setLive (by rw [hb]; exact s2) (by rw [hb]; exact s1)⟩, Chg.of_grown s2 fun g hg => by
    cases hg
    have := Fam.blk hf (k := 1) (g := gb) (by omega) (by show b.ownBlock = _; rw [hb]; rfl)
    exact ⟨this.1, this.2.1⟩⟩
theorem OwnBs.chg {w w' : World} {B lo hi : Nat} {v : Value} {bs : List Bool} (h : OwnBs w B v bs) (hc : Chg lo hi w w') (hd : hi ≤ B) : OwnBs w' B v bs := owns_block h fun g hg => by have := owns_lt h hg; exact hc.block g this.2 (.inr (by omega))
set_option maxRecDepth 100000 in
set_option maxHeartbeats 3200000 in
theorem c_keepThings (a b c kv : Value) (h : H) (ks : List Bool) (lo hi : Nat) (w : World) (hO : OwnH w lo hi a b c h) (hK : OwnBs w hi kv ks) (hs : hi ≤ w.heap.size) (hlf : h.l.length = h.f.length) (hkl : ks.length = h.f.length) (hn : h.f.length ≤ 12) :
    Calls Try.prog 94 #[hv a b c, kv] w fun e w' => e = .returned (.int .i64 ((keepTo h ks h.f.length).2 : Int)) ∧ OwnH w' lo hi a b c (keepTo h ks h.f.length).1 ∧ Chg lo hi w w' := by
  have hb0 := below1 w (.cells (c3 a b c) 30)
  have O0 := Lib.hid (hO.below hb0); have K0 := Lib.hid (OwnBs.below hK hb0)
  have C0 := Lib.hid (Chg.of_below (lo := lo) (hi := hi) hb0)
  have R0 := Lib.hid (show RowH _ _ a b c from Row.new w 30 (c3 a b c))
  have HKT := Lib.hid (keepTo_len h ks)
  obtain ⟨⟨pa, qa, rfl⟩, ⟨pb, qb, rfl⟩, _⟩ := hO.shapes
  obtain ⟨pk, qk, rfl⟩ := (owns_bools hK).shape
  rw [hlf] at O0 C0 R0 K0 ⊢
  rw [hkl] at K0 ⊢
  have HLF := Lib.hid hlf; have HS := Lib.hid hs; have HKL := Lib.hid hkl
  clear hO hK hb0 hlf hs hkl
  generalize hnn : h.f.length = n at *
  have HN := Lib.hid hnn
  clear hnn
  have hc1 := R0.out.c1
  go_enter Try.func94, Try.ntmps94
  go_wp2_with fail
  clear hc1
  generalize (w.alloc (.cells (c3 (.slice pa n qa) (.slice pb n qb) c) 30)) = w0 at *
  go_loopw [5, 11] (fun cnt i wr => ∃ j : Nat, j ≤ n ∧ i = .int .i64 j ∧ ∃ m : Nat, Hid ((keepTo h ks j).2 = m) ∧ m ≤ j ∧ cnt = .int .i64 m ∧ Hid (OwnH wr lo hi (.slice pa n qa) (.slice pb n qb) c (keepTo h ks j).1) ∧ Hid (OwnBs wr hi (.slice pk n qk) ks) ∧ Hid (RowH wr w.heap.size (.slice pa n qa) (.slice pb n qb) c) ∧ Hid (Chg lo hi w wr)) (fun _ i _ => n - (intOf i).toNat)
  case atStart => exact ⟨0, Nat.zero_le _, rfl, 0, rfl, Nat.le_refl _, rfl, O0, K0, R0, C0⟩
  case round =>
    obtain ⟨j, hj, rfl, m, hm, hmj, rfl, hO, hK, hR, hC⟩ := hrel
    by_cases hlt : j < n
    · obtain ⟨e1, e2, _, _⟩ := HKT.out j
      rw [HLF.out] at e2
      obtain ⟨gb, cb, hb, qb1, fb1, oL, cL⟩ := putLiveB hO.out (j := j) (by rw [e2]; exact hlt) false
      rw [e2] at hb
      cases hb
      obtain ⟨gk, ok, hk, hkc⟩ := (owns_bools hK.out).at' (by omega)
      subst hk
      have qk1 := hkc j hlt
      have i1 : (j : Int) < (n : Int) := by omega
      have d0 := hR.out.c0
      have d1 := hR.out.c1
      have hyes := keepTo_yes (h := h) (ks := ks) (j := j)
      have hno := keepTo_no (h := h) (ks := ks) (j := j)
      have HYES := Lib.hid hyes; have HNO := Lib.hid hno
      clear hkc hyes hno
      generalize (keepTo h ks j).1.l.getD j false = on at *
      generalize ks.getD j false = kk at *
      cases on
      · have HE := Lib.hid (HNO.out (.inl rfl))
        clear oL cL
        go_wp2_with fail
        go_roundw
        case rel => exact ⟨j + 1, by omega, by go_num, m, by rw [HE.out]; exact hm, by omega, rfl, by rw [HE.out]; exact hO, hK, hR, hC⟩
        case measure => simp [intOf]; omega
      · cases kk
        · have HE := Lib.hid (HYES.out rfl rfl)
          have K1 := OwnBs.chg hK.out cL (Nat.le_refl _)
          have R1 : RowH _ _ _ _ _ := Row.chg hR.out cL (.inr HS.out)
          obtain ⟨ga, ca, x, ha, qa1, fa1, oF, cF⟩ := putNil oL (j := j) (by simp only; rw [e1]; exact hlt)
          simp only at ha
          rw [e1] at ha
          cases ha
          have d2 := R1.c0
          have K2 := Lib.hid (OwnBs.chg K1 cF (Nat.le_refl _))
          have R2 : Hid (RowH _ _ _ _ _) := Row.chg R1 cF (.inr HS.out)
          have C2 := Lib.hid ((hC.out.trans cL).trans cF)
          have O2 := Lib.hid oF
          clear oL cL oF cF K1 R1
          go_wp2_with fail
          go_roundw
          case rel => exact ⟨j + 1, by omega, by go_num, m + 1, by rw [HE.out]; exact congrArg (· + 1) hm.out, by omega, by go_num, by rw [HE.out]; exact O2, K2, R2, C2⟩
          case measure => simp [intOf]; omega
        · have HE := Lib.hid (HNO.out (.inr rfl))
          clear oL cL
          go_wp2_with fail
          go_roundw
          case rel => exact ⟨j + 1, by omega, by go_num, m, by rw [HE.out]; exact hm, by omega, rfl, by rw [HE.out]; exact hO, hK, hR, hC⟩
          case measure => simp [intOf]; omega
    · obtain rfl : j = n := by omega
      go_wp2_with fail
      go_ret
      exact ⟨r_i (by rw [hm.out]), hO.out, hC.out⟩
end Go.Proofs.Ytkkigoamphkalaa
namespace Go.Proofs.Ytkkigoamphkalaa.Ph
noncomputable def cleanP (h : H) : H × Nat := if good h = true then keepTo h (reachL h.f h.r) h.f.length else (⟨[], [], []⟩, 0)
theorem cleanP_no {h : H} (k : good h = false) : cleanP h = (⟨[], [], []⟩, 0) := by unfold cleanP; rw [k]; rfl
theorem cleanP_yes {h : H} (k : good h = true) : cleanP h = keepTo h (reachL h.f h.r) h.f.length := by unfold cleanP; rw [k]; rfl
theorem keepTo_rows {h : H} {ks : List Bool} (hr : ∀ i, i < h.f.length → (h.f.getD i []).length ≤ 3) (j : Nat) : ∀ i, i < h.f.length → ((keepTo h ks j).1.f.getD i []).length ≤ 3 := by
  induction j with
  | zero => exact hr
  | succ j ih =>
    intro i hi
    simp only [keepTo, keepStep]
    split
    · simp only
      by_cases hj : j < (keepTo h ks j).1.f.length
      · rw [getD_setL hj]
        by_cases e : i = j
        · rw [if_pos e]; simp
        · rw [if_neg e]; exact ih i hi
      · rw [List.set_eq_of_length_le (by omega)]; exact ih i hi
    · exact ih i hi
end Go.Proofs.Ytkkigoamphkalaa.Ph
namespace Go.Proofs.Ytkkigoamphkalaa
open Go.RowKit Ph

theorem endHI_no {w w' : World} {h : H} {n : Int} {ok : Bool} (hb : Below w.heap.size w w') (h1 : h = ⟨[], [], []⟩) (h2 : n = 0) (h3 : ok = false) : EndHI h n ok w (.returned (.tuple #[hv (.slice none 0 0) (.slice none 0 0) (.slice none 0 0), .int .i64 0, .bool false])) w' := by
  subst h1; subst h2; subst h3
  exact ⟨_, _, _, rfl, OwnH.nil w' _ _, hb⟩
theorem endHI_yes {w w' : World} {h h' : H} {n n' : Int} {ok : Bool} {a b c : Value} {lo hi : Nat} (hb : Below w.heap.size w w') (ho : OwnH w' lo hi a b c h') (hl : w.heap.size ≤ lo) (hi' : hi ≤ w'.heap.size) (h1 : h = h') (h2 : n = n') (h3 : ok = true) : EndHI h n ok w (.returned (.tuple #[hv a b c, .int .i64 n', .bool true])) w' := by
  subst h1; subst h2; subst h3
  exact ⟨_, _, _, rfl, ho.wide hl hi', hb⟩
theorem res_row_slot2 {P : Program} {fn : Func} {p q r : Tmp} {ty : TypeId} (h : fn.results = #[.cell p ty, .tmp q, .tmp r]) {tmps : Array Value} {w : World} {g : Nat} {t : TypeId} {cs : Array Value} {d : TypeDesc} {v u : Value} (hg : Row w g t cs)
    (hp : tmps.getD p undef = .pointer (some ⟨g, 0, none⟩)) (hq : tmps.getD q undef = v) (hr : tmps.getD r undef = u) (hu : P.underlying ty = some d) (hd : (match d with | .struct _ | .array _ _ => true | _ => false) = true) (hi : (P.info? ty).map (·.size) = some cs.size) :
    (results fn tmps).run P w = .ok (.tuple #[.agg cs, v, u]) w := by
  have hp' : tmps[p]?.getD undef = .pointer (some ⟨g, 0, none⟩) := by simpa using hp
  have hq' : tmps[q]?.getD undef = v := by simpa using hq
  have hr' : tmps[r]?.getD undef = u := by simpa using hr
  simp [results, h, hp', hq', hr', asAddr, run_loadVar_row w g t ty cs (0, 0) d hg hu hd hi]
set_option maxRecDepth 100000 in
set_option maxHeartbeats 6400000 in
theorem c_CleanHeap (a b c : Value) (h : H) (w : World) (hA : HeapAt w a b c h) : Calls Try.prog 29 #[hv a b c] w (EndHI (cleanP h).1 ((cleanP h).2 : Int) (good h) w) := by
  have hb0 := (below1 w (.cells (c3 a b c) 30)).alloc (by simp) (.cells (c3 (.slice none 0 0) (.slice none 0 0) (.slice none 0 0)) 30)
  have A0 := Lib.hid (hA.below hb0)
  have HB := Lib.hid hb0
  have P0 := Lib.hid (show RowH _ _ a b c from (Row.new w 30 (c3 a b c)).alloc (.cells (c3 (.slice none 0 0) (.slice none 0 0) (.slice none 0 0)) 30))
  have R0 := Lib.hid (show RowH _ (w.heap.size + 1) (.slice none 0 0) (.slice none 0 0) (.slice none 0 0) from Row.new1 w (.cells (c3 a b c) 30) 30 (c3 (.slice none 0 0) (.slice none 0 0) (.slice none 0 0)))
  clear hA hb0
  have HC := Lib.hid (c_GoodHeap a b c h _ A0.out)
  have G1 := Lib.hid (good_iff (h := h)).1
  have E1 := Lib.hid (cleanP_no (h := h))
  have E2 := Lib.hid (cleanP_yes (h := h))
  generalize good h = x at *
  have p0 := P0.out.c0
  have p1 := P0.out.c1
  have p2 := P0.out.c2
  cases x
  · have HE := Lib.hid (E1.out rfl)
    go_enter Try.func29, Try.ntmps29
    go_wp2_with (first
      | (go_at_call 55; refine HC.out.mono ?_; rintro e w1 ⟨rfl, hb1⟩; have B1 := Lib.hid (bst HB.out hb1 HB.out.size); have R1 := Lib.hid (R0.out.below hb1); clear hb1)
      | (refine wl_storeH rfl _ _ rfl (w.heap.size + 1) (.slice none 0 0) (.slice none 0 0) (.slice none 0 0) _ _ _ R1.out rfl rfl rfl rfl rfl ?_))
    refine bodyPost_ret (res_row_slot2 Try.results29 (Row.put R1.out (c3 (.slice none 0 0) (.slice none 0 0) (.slice none 0 0))) rfl rfl rfl Try.underlying30 rfl info_heap) rfl (endHI_no (below_setRow B1.out (by omega) _) (by rw [HE.out]) (by rw [HE.out]; rfl) rfl)
  · have HE := Lib.hid (E2.out rfl)
    have G := Lib.hid (G1.out rfl)
    go_enter Try.func29, Try.ntmps29
    go_wp2_with (go_at_call 55; refine HC.out.mono ?_; rintro e w1 ⟨rfl, hb1⟩; have B1 := Lib.hid (bst HB.out hb1 HB.out.size); have A1 := Lib.hid (A0.out.below hb1); have P1 := Lib.hid (P0.out.below hb1); have R1 := Lib.hid (R0.out.below hb1); have d10 := P1.out.c0; have d11 := P1.out.c1; have d12 := P1.out.c2; clear hb1)
    refine (c_copyHeap a b c h _ A1.out G.out).mono ?_
    rintro e w9 ⟨a', b', c', rfl, ho, hb9⟩
    obtain ⟨⟨pa, qa, rfl⟩, ⟨pb, qb, rfl⟩, ⟨pc, qc, rfl⟩⟩ := ho.shapes
    have hbA := below1 w9 (.cells (c3 (.slice pa h.f.length qa) (.slice pb h.l.length qb) (.slice pc h.r.length qc)) 30)
    have BX := Lib.hid ((bst B1.out hb9 B1.out.size).alloc (bst B1.out hb9 B1.out.size).size (.cells (c3 (.slice pa h.f.length qa) (.slice pb h.l.length qb) (.slice pc h.r.length qc)) 30))
    have RX := Lib.hid (show RowH _ _ _ _ _ from Row.alloc (R1.out.below hb9) (.cells (c3 (.slice pa h.f.length qa) (.slice pb h.l.length qb) (.slice pc h.r.length qc)) 30))
    have PX := Lib.hid (show RowH _ _ _ _ _ from Row.alloc (P1.out.below hb9) (.cells (c3 (.slice pa h.f.length qa) (.slice pb h.l.length qb) (.slice pc h.r.length qc)) 30))
    have AX := Lib.hid (A1.out.below (bst hb9 hbA hb9.size))
    have VX := Lib.hid (show RowH _ _ _ _ _ from Row.new w9 30 (c3 (.slice pa h.f.length qa) (.slice pb h.l.length qb) (.slice pc h.r.length qc)))
    have OX := Lib.hid (ho.below hbA)
    have S9 := Lib.hid hb9.size
    clear ho hb9 hbA d10 d11 d12 p0 p1 p2
    go_wp2_with fail
    have hszX : (w9.alloc (.cells (c3 (.slice pa h.f.length qa) (.slice pb h.l.length qb) (.slice pc h.r.length qc)) 30)).heap.size = w9.heap.size + 1 := World.size_alloc _ _
    generalize (w9.alloc (.cells (c3 (.slice pa h.f.length qa) (.slice pb h.l.length qb) (.slice pc h.r.length qc)) 30)) = wx at *
    have HSX := Lib.hid hszX
    clear hszX
    have cA : wx.drew.cell? ⟨w9.heap.size, 0, none⟩ = some (.slice pa h.f.length qa) ∧ wx.drew.cell? ⟨w9.heap.size, 1, none⟩ = some (.slice pb h.l.length qb) ∧ wx.drew.cell? ⟨w9.heap.size, 2, none⟩ = some (.slice pc h.r.length qc) := ⟨VX.out.c0, VX.out.c1, VX.out.c2⟩
    have cP : wx.drew.cell? ⟨w.heap.size, 0, none⟩ = some a ∧ wx.drew.cell? ⟨w.heap.size, 1, none⟩ = some b ∧ wx.drew.cell? ⟨w.heap.size, 2, none⟩ = some c := ⟨PX.out.c0, PX.out.c1, PX.out.c2⟩
    refine wp_region_held_drew (S := (fun w' => (w'.cell? ⟨w9.heap.size, 0, none⟩ = some (.slice pa h.f.length qa) ∧ w'.cell? ⟨w9.heap.size, 1, none⟩ = some (.slice pb h.l.length qb) ∧ w'.cell? ⟨w9.heap.size, 2, none⟩ = some (.slice pc h.r.length qc)) ∧ w'.cell? ⟨w.heap.size, 0, none⟩ = some a ∧ w'.cell? ⟨w.heap.size, 1, none⟩ = some b ∧ w'.cell? ⟨w.heap.size, 2, none⟩ = some c)) (by kernel_rfl) (⟨cA, cP⟩) (fun hHeld => ?_)
    refine wpAnyH_take (i := 0) (v := ?va0x1) rfl (by kernel_rfl) (by kernel_rfl) (by kernel_rfl) (fun _ _ _ h => h) (Or.inl ⟨by rfl, ?hy0x1⟩) (by assumption) ?rest0x1
    case hy0x1 => (intro w hSw; (try dsimp only at hSw); go_simp; try with_reducible rfl)
    (try simp only [Act.put, List.getElem_toArray, List.getElem_cons_zero, List.setIfInBounds_toArray, List.set_cons_zero, List.set_cons_succ])
    refine wpAnyH_take (i := 1) (v := ?va1x2) rfl (by kernel_rfl) (by kernel_rfl) (by kernel_rfl) (fun _ _ _ h => h) (Or.inl ⟨by rfl, ?hy1x2⟩) (by assumption) ?rest1x2
    case hy1x2 => (intro w hSw; (try dsimp only at hSw); go_simp; try with_reducible rfl)
    (try simp only [Act.put, List.getElem_toArray, List.getElem_cons_zero, List.getElem_cons_succ, List.setIfInBounds_toArray, List.set_cons_zero, List.set_cons_succ])
    refine wpAnyH_take (i := 2) (v := ?va2x3) rfl (by kernel_rfl) (by kernel_rfl) (by kernel_rfl) (fun _ _ _ h => h) (Or.inl ⟨by rfl, ?hy2x3⟩) (by assumption) ?rest2x3
    case hy2x3 => (intro w hSw; (try dsimp only at hSw); go_simp; try with_reducible rfl)
    (try simp only [Act.put, List.getElem_toArray, List.getElem_cons_zero, List.getElem_cons_succ, List.setIfInBounds_toArray, List.set_cons_zero, List.set_cons_succ])
    refine wpAnyH_take (i := 3) (v := ?va3x4) rfl (by kernel_rfl) (by kernel_rfl) (by kernel_rfl) (fun _ _ _ h => h) (Or.inl ⟨by rfl, ?hy3x4⟩) (by assumption) ?rest3x4
    case hy3x4 => (intro w hSw; (try dsimp only at hSw); go_simp; try with_reducible rfl)
    (try simp only [Act.put, List.getElem_toArray, List.getElem_cons_zero, List.getElem_cons_succ, List.setIfInBounds_toArray, List.set_cons_zero, List.set_cons_succ])
    refine wpAnyH_ready (rs := [4]) (by kernel_rfl) (by simp) ?_
    refine AllReadyH.cons rfl (fun K hK => ?_) AllReadyH.nil
    go_simp
    have AD := AX.out.below (below_drew (Below.refl wx.heap.size wx))
    refine (c_reachedOver a b c c h h.r _ AD G.out AD.r (by have := G.out.rn; omega) (fun z hz => (refs_bound G.out G.out.rr z hz).imp id (fun h => ⟨h.1, h.2.1⟩))).mono ?_
    rintro e w2 ⟨kv, rfl, hok, hb2⟩
    have hbx := bst (below_drew (Below.refl wx.heap.size wx)) hb2 (below_drew (Below.refl wx.heap.size wx)).size
    have V2 := VX.out.below hbx; have P2 := PX.out.below hbx
    obtain ⟨pk, qk, hpk⟩ := (owns_bools hok).shape
    subst hpk
    refine hK.out _ _ ⟨⟨V2.c0, V2.c1, V2.c2⟩, P2.c0, P2.c1, P2.c2⟩ (fun hHeld => ?_)
    clear hK K
    (try simp only [Act.put, List.getElem_toArray, List.getElem_cons_zero, List.getElem_cons_succ, List.setIfInBounds_toArray, List.set_cons_zero, List.set_cons_succ])
    refine wpAnyH_ready (rs := [5]) (by kernel_rfl) (by simp) ?_
    refine AllReadyH.cons rfl (fun K hK => ?_) AllReadyH.nil
    go_simp
    refine (c_keepThings _ _ _ _ h (reachL h.f h.r) w1.heap.size w9.heap.size _ (OX.out.below hbx) (owns_mono hok fun g hg => by have := (owns_lt hok hg).1; have := HSX.out; have e : wx.drew.heap.size = wx.heap.size := rfl; omega) (by have := hbx.size; have := HSX.out; omega) G.out.ll (reachL_length _ _) G.out.n).mono ?_
    rintro e w3 ⟨rfl, ho3, hch⟩
    have V3 : RowH _ _ _ _ _ := Row.chg V2 hch (.inr (Nat.le_refl _))
    have P3 : RowH _ _ _ _ _ := Row.chg P2 hch (.inl (by have := B1.out.size; have := R1.out.lt; omega))
    have R3 : RowH _ _ _ _ _ := Row.chg (RX.out.below hbx) hch (.inl (by have := R1.out.lt; omega))
    have B3 := below_chg (bst BX.out hbx BX.out.size) hch B1.out.size (by have := B1.out.size; have := S9.out; have := hbx.size; have := HSX.out; omega)
    refine hK.out _ _ ⟨⟨V3.c0, V3.c1, V3.c2⟩, P3.c0, P3.c1, P3.c2⟩ (fun hHeld => ?_)
    clear hK K
    (try simp only [Act.put, List.getElem_toArray, List.getElem_cons_zero, List.getElem_cons_succ, List.setIfInBounds_toArray, List.set_cons_zero, List.set_cons_succ])
    refine wpAnyH_take (i := 6) (v := ?va6x5) rfl (by kernel_rfl) (by kernel_rfl) (by kernel_rfl) (fun _ _ _ h => h) (Or.inl ⟨by rfl, ?hy6x5⟩) (by assumption) ?rest6x5
    case hy6x5 => (intro w hSw; (try dsimp only at hSw); go_simp; try with_reducible rfl)
    (try simp only [Act.put, List.getElem_toArray, List.getElem_cons_zero, List.getElem_cons_succ, List.setIfInBounds_toArray, List.set_cons_zero, List.set_cons_succ])
    refine wpAnyH_done (by kernel_rfl) ?_ _
    have VV := Lib.hid V3; have RR := Lib.hid R3; have OO := Lib.hid ho3; have BB := Lib.hid B3; have CC := Lib.hid hch.size; have XX := Lib.hid hbx.size
    clear V3 P3 R3 ho3 B3 hch V2 P2 hok hb2 hbx AD cA cP hHeld
    have hE := HE.out
    have HE1 : Hid ((cleanP h).1 = (keepTo h (reachL h.f h.r) h.f.length).1) := by unfold Hid; rw [hE]
    have HE2 : Hid (((cleanP h).2 : Int) = ((keepTo h (reachL h.f h.r) h.f.length).2 : Int)) := by unfold Hid; rw [hE]
    clear hE
    generalize (cleanP h).1 = c1 at *
    generalize (cleanP h).2 = c2 at *
    generalize (keepTo h (reachL h.f h.r) h.f.length).1 = k1 at *
    generalize (keepTo h (reachL h.f h.r) h.f.length).2 = k2 at *
    generalize h.f.length = nf at *
    generalize h.l.length = nl at *
    generalize h.r.length = nr at *
    go_wp2_with (first
      | (refine wl_loadH rfl _ rfl w9.heap.size _ _ _ VV.out rfl ?_)
      | (refine wl_storeH rfl _ _ rfl (w.heap.size + 1) (.slice pa nf qa) (.slice pb nl qb) (.slice pc nr qc) _ _ _ RR.out rfl rfl rfl rfl rfl ?_))
    refine bodyPost_ret (res_row_slot2 Try.results29 (Row.put RR.out (c3 (.slice pa nf qa) (.slice pb nl qb) (.slice pc nr qc))) rfl rfl rfl Try.underlying30 rfl info_heap) rfl (endHI_yes (below_setRow BB.out (by omega) _) (OO.out.wholeRow RR.out _) B1.out.size (by rw [size_setRow]; have := CC.out; have := XX.out; have := HSX.out; omega) HE1.out HE2.out rfl)
end Go.Proofs.Ytkkigoamphkalaa
namespace Go.Proofs.Ytkkigoamphkalaa
open Go.RowKit Ph

set_option maxHeartbeats 800000 in
theorem s_l1In (z lo hi : Int) (w : World) : Calls Try.prog 126 #[.int .i64 z, .int .i64 lo, .int .i64 hi] w fun e w' => e = .returned (.bool (decide (lo ≤ z) && decide (z ≤ hi))) ∧ w = w' := by
  generalize hx : (decide (lo ≤ z) && decide (z ≤ hi)) = x
  by_cases h1 : lo ≤ z
  · by_cases h2 : z ≤ hi
    · have HE : Hid (x = true) := by unfold Hid; rw [← hx]; simp [h1, h2]
      clear hx
      go_enter Try.func126, Try.ntmps126
      go_wp2
      go_ret
      exact ⟨r_b HE.out.symm, rfl⟩
    · have HE : Hid (x = false) := by unfold Hid; rw [← hx]; simp [h2]
      clear hx
      go_enter Try.func126, Try.ntmps126
      go_wp2
      go_ret
      exact ⟨r_b HE.out.symm, rfl⟩
  · have HE : Hid (x = false) := by unfold Hid; rw [← hx]; simp [h1]
    clear hx
    go_enter Try.func126, Try.ntmps126
    go_wp2
    go_ret
    exact ⟨r_b HE.out.symm, rfl⟩
theorem in_yes {z lo hi : Int} (h1 : lo ≤ z) (h2 : z ≤ hi) : (decide (lo ≤ z) && decide (z ≤ hi)) = true := by simp [h1, h2]
theorem in_lo {z lo hi : Int} (h1 : z < lo) : (decide (lo ≤ z) && decide (z ≤ hi)) = false := by simp; omega
theorem in_hi {z lo hi : Int} (h1 : hi < z) : (decide (lo ≤ z) && decide (z ≤ hi)) = false := by simp; omega
theorem s_l1In_yes (z lo hi : Int) (w : World) (h1 : lo ≤ z) (h2 : z ≤ hi) : Calls Try.prog 126 #[.int .i64 z, .int .i64 lo, .int .i64 hi] w fun e w' => e = .returned (.bool true) ∧ w = w' :=
  (s_l1In z lo hi w).mono fun _ _ ⟨he, hw⟩ => ⟨he.trans (r_b (in_yes h1 h2)), hw⟩
theorem s_l1In_no (z lo hi : Int) (w : World) (h : z < lo ∨ hi < z) : Calls Try.prog 126 #[.int .i64 z, .int .i64 lo, .int .i64 hi] w fun e w' => e = .returned (.bool false) ∧ w = w' :=
  (s_l1In z lo hi w).mono fun _ _ ⟨he, hw⟩ => ⟨he.trans (r_b (h.elim in_lo in_hi)), hw⟩
set_option maxHeartbeats 1600000 in
theorem s_l5Names (b v : Value) (ls : List Bool) (zs : List Int) (w : World) (hl : BoolsAt w b ls) (hz : IntsAt w v zs) (hm : zs.length ≤ 9223372036854775806) (hml : ls.length ≤ 9223372036854775806) : Calls Try.prog 88 #[b, v] w fun e w' => e = .returned (.bool (refsB ls zs)) ∧ w = w' := by
  have HL := Lib.hid hl
  obtain ⟨ba, bc, rfl⟩ := hl.shape
  obtain ⟨va, vc, rfl, hA⟩ := hz
  have HA := Lib.hid hA
  clear hl hA
  generalize hn : zs.length = n at *
  generalize hnl : ls.length = nl at *
  have HN := Lib.hid hn; have HNL := Lib.hid hnl; clear hn hnl
  go_enter Try.func88, Try.ntmps88
  go_wp2
  go_loop [9] (fun i => ∃ k : Nat, k ≤ n ∧ i = .int .i64 k ∧ Hid (refsB ls (zs.take k) = true)) (fun i => n - (intOf i).toNat)
  case atStart => exact ⟨0, Nat.zero_le _, rfl, by simp [Hid, refsB]⟩
  case round =>
    obtain ⟨k, hk, rfl, ht⟩ := hrel
    by_cases hlt : k < n
    · obtain ⟨g, off, rfl, hc⟩ := HA.out (by omega)
      have q := hc k hlt
      have i1 : (k : Int) < (n : Int) := by omega
      have hs := refsB_take_succ (l := ls) (zs := zs) (k := k) (by rw [HN.out]; exact hlt)
      have hf := refsB_false (l := ls) (zs := zs) (k := k) (by rw [HN.out]; exact hlt)
      have HS := Lib.hid hs; have HF := Lib.hid hf
      clear hc hs hf
      generalize zs.getD k 0 = z at *
      by_cases z1 : z < -1 ∨ (nl : Int) - 1 < z
      · have HE : Hid (refsB ls zs = false) := HF.out (by
          cases hq : refB ls z with
          | false => rfl
          | true =>
            rcases refB_iff.1 hq with h1 | h1
            · have := HNL.out; omega
            · have := liveB_lt h1; have := HNL.out; omega)
        have Z1 := Lib.hid z1
        clear z1 HS HF
        go_wp2_with (go_at_call 126; refine (s_l1In_no z (-1) (nl - 1) _ Z1.out).mono ?_; rintro e w1 ⟨rfl, rfl⟩)
        go_ret
        exact ⟨r_b HE.out.symm, rfl⟩
      · have Z1 : Hid (-1 ≤ z ∧ z ≤ (nl : Int) - 1) := ⟨by omega, by omega⟩
        by_cases z0 : z < 0
        · have HE : Hid (refsB ls (zs.take (k + 1)) = true) := by
            unfold Hid; rw [HS.out, ht.out, refB_iff.2 (.inl (by omega))]; rfl
          have i2 : ¬ 0 ≤ z := by omega
          clear z1 HS HF
          go_wp2_with (go_at_call 126; refine (s_l1In_yes z (-1) (nl - 1) _ Z1.out.1 Z1.out.2).mono ?_; rintro e w1 ⟨rfl, rfl⟩)
          go_round
          case rel => exact ⟨k + 1, by omega, by go_num, HE.out⟩
          case measure => simp [intOf]; omega
        · obtain ⟨j, rfl⟩ : ∃ j : Nat, z = j := ⟨z.toNat, by omega⟩
          have hj : j < nl := by omega
          obtain ⟨gl, ol, rfl, hcl⟩ := HL.out.at' (by omega)
          have ql := hcl j hj
          have hrx : refB ls (j : Int) = ls.getD j false := by
            unfold refB liveB
            rw [decide_eq_false (show ¬ (j : Int) = -1 by omega), decide_eq_true (show (0 : Int) ≤ (j : Int) by omega)]; simp
          have HRX := Lib.hid hrx
          clear hcl hrx z0 z1
          generalize ls.getD j false = x at *
          have i2 : (0 : Int) ≤ (j : Int) := by omega
          have i3 : (j : Int) < (nl : Int) := by omega
          cases x
          · have HE : Hid (refsB ls zs = false) := HF.out HRX.out
            clear HS HF
            go_wp2_with (go_at_call 126; refine (s_l1In_yes j (-1) (nl - 1) _ Z1.out.1 Z1.out.2).mono ?_; rintro e w1 ⟨rfl, rfl⟩)
            go_ret
            exact ⟨r_b HE.out.symm, rfl⟩
          · have HE : Hid (refsB ls (zs.take (k + 1)) = true) := by
              unfold Hid; rw [HS.out, ht.out, HRX.out]; rfl
            clear HS HF
            go_wp2_with (go_at_call 126; refine (s_l1In_yes j (-1) (nl - 1) _ Z1.out.1 Z1.out.2).mono ?_; rintro e w1 ⟨rfl, rfl⟩)
            go_round
            case rel => exact ⟨k + 1, by omega, by go_num, HE.out⟩
            case measure => simp [intOf]; omega
    · have HE : Hid (refsB ls zs = true) := by
        unfold Hid
        have := ht.out
        rwa [List.take_of_length_le (by rw [HN.out]; omega)] at this
      go_wp2
      go_ret
      exact ⟨r_b HE.out.symm, rfl⟩
end Go.Proofs.Ytkkigoamphkalaa
namespace Go.Proofs.Ytkkigoamphkalaa
open Go.RowKit Ph

set_option maxRecDepth 100000 in
set_option maxHeartbeats 3200000 in
theorem s_GoodHeap (a b c : Value) (h : H) (w : World) (hh : HeapAt w a b c h) : Calls Try.prog 80 #[hv a b c] w fun e w' => e = .returned (.bool (good h)) ∧ Below w.heap.size w w' := by
  obtain ⟨hF, hL, hR⟩ := hh
  have hb0 := below1 w (.cells (c3 a b c) 30)
  have HF := Lib.hid (hF.below hb0)
  have HL := Lib.hid (hL.below hb0)
  have HR := Lib.hid (hR.below hb0)
  have R0 := Lib.hid (show RowH _ _ a b c from Row.new w 30 (c3 a b c))
  have HB := Lib.hid hb0
  obtain ⟨fa, fc, rfl⟩ := hF.shape
  obtain ⟨la, lc, rfl⟩ := hL.shape
  obtain ⟨ra, rc, rfl⟩ := hR.shape
  clear hF hL hR hb0
  have HM := Lib.hid (good_many (h := h))
  have HLN := Lib.hid (good_lens (h := h))
  have HG : Hid (∀ i, i < h.f.length → rowB h.l (h.l.getD i false) (h.f.getD i []) = false → good h = false) := fun i => good_row
  have HG4 : Hid (4 < h.r.length → good h = false) := good_roots
  have HGR : Hid (refsB h.l h.r = false → good h = false) := good_rr
  have HGA := Lib.hid (good_all (h := h))
  generalize hnf : h.f.length = n at *
  generalize hnl : h.l.length = nl at *
  generalize hnr : h.r.length = nr at *
  have HNF := Lib.hid hnf; have HNR := Lib.hid hnr; have HNL := Lib.hid hnl
  clear hnf hnr hnl
  by_cases n1 : 12 < n
  · have HE := Lib.hid (HM.out n1)
    have i1 : (12 : Int) < (n : Int) := by omega
    clear HF HL HR R0
    go_enter Try.func80, Try.ntmps80
    go_wp2
    go_ret
    exact ⟨r_b HE.out.symm, HB.out⟩
  · by_cases n2 : nl = n
    · have n2' := n2.symm
      subst n2'
      clear n2
      have i1 : ¬ (12 : Int) < (n : Int) := by omega
      have i2 : ((n : Int) != (n : Int)) = false := by simp
      by_cases n4 : nr ≤ 4
      · have i4 : ¬ (4 : Int) < (nr : Int) := by omega
        have HRX := Lib.hid (s_l5Names (.slice la n lc) (.slice ra nr rc) h.l h.r _ HL.out HR.out (by rw [HNR.out]; omega) (by rw [HNL.out]; omega))
        have HNM : Hid (n ≤ 9223372036854775806) := by unfold Hid; omega
        generalize hx : refsB h.l h.r = x at *
        cases x
        · have HE := Lib.hid (HGR.out rfl)
          clear hx
          go_enter Try.func80, Try.ntmps80
          go_wp2_with (go_at_call 88; refine HRX.out.mono ?_; rintro e w1 ⟨rfl, rfl⟩)
          go_ret
          exact ⟨r_b HE.out.symm, HB.out⟩
        · have HA : Hid (rowsB h.l h.f n = true → good h = true) := fun h3 => HGA.out (by omega) rfl h3 n4 rfl
          clear hx
          go_enter Try.func80, Try.ntmps80
          go_wp2_with (go_at_call 88; refine HRX.out.mono ?_; rintro e w1 ⟨rfl, rfl⟩)
          clear HRX
          generalize (w.alloc (.cells (c3 (.slice fa n fc) (.slice la n lc) (.slice ra nr rc)) 30)) = w0 at *
          go_loop [35] (fun i => ∃ k : Nat, k ≤ n ∧ i = .int .i64 k ∧ Hid (rowsB h.l h.f k = true)) (fun i => n - (intOf i).toNat)
          case atStart => exact ⟨0, Nat.zero_le _, rfl, by simp [Hid, rowsB]⟩
          case round =>
            obtain ⟨k, hk, rfl, ht⟩ := hrel
            have c0 := R0.out.c0
            have c1 := R0.out.c1
            have c2 := R0.out.c2
            by_cases hlt : k < n
            · obtain ⟨gf, of, rfl, hcf⟩ := HF.out.at' (by omega)
              have L1 := Lib.hid HL.out
              obtain ⟨gl, ol, rfl, hcl⟩ := HL.out.at' (by omega)
              obtain ⟨u, qf, hu⟩ := hcf k hlt
              have ql := hcl k hlt
              obtain ⟨ua, uc, rfl⟩ := hu.shape
              have HU := Lib.hid hu
              have i3 : (k : Int) < (n : Int) := by omega
              have hg := HG.out k hlt
              have hs := rowsB_succ (l := h.l) (fs := h.f) (n := k)
              rw [ht.out, Bool.true_and] at hs
              clear hcf hcl hu
              generalize h.f.getD k [] = zs at *
              generalize hon : h.l.getD k false = on at *
              have HS := Lib.hid hs; have HG' := Lib.hid hg
              clear hs hg hon
              by_cases m3 : 3 < zs.length
              · have HE := Lib.hid (HG'.out (row_long m3))
                generalize zs.length = m at *
                have j0 : (3 : Int) < (m : Int) := by omega
                go_wp2_with fail
                go_ret
                exact ⟨r_b HE.out.symm, HB.out⟩
              · by_cases m0 : on = false ∧ 0 < zs.length
                · obtain ⟨rfl, m0⟩ := m0
                  have HE := Lib.hid (HG'.out (row_dead m0))
                  generalize zs.length = m at *
                  have j0 : (0 : Int) < (m : Int) := by omega
                  have j3 : ¬ (3 : Int) < (m : Int) := by omega
                  go_wp2_with fail
                  go_ret
                  exact ⟨r_b HE.out.symm, HB.out⟩
                · have j3 : ¬ (3 : Int) < (zs.length : Int) := by omega
                  have hok := row_ok (l := h.l) (on := on) (zs := zs) (by omega) (by cases on; (right; intro h0; exact m0 ⟨rfl, h0⟩); (left; rfl))
                  have hbad := row_bad (l := h.l) (on := on) (zs := zs)
                  have hcall := s_l5Names _ _ h.l zs w0 L1.out HU.out (by omega) (by rw [HNL.out]; exact HNM.out)
                  generalize hx : refsB h.l zs = x at *
                  have HX := Lib.hid hx; have HOK := Lib.hid hok; have HBAD := Lib.hid hbad; have HC := Lib.hid hcall
                  clear hx hok hbad hcall
                  have j0 : on = false → ¬ (0 : Int) < (zs.length : Int) := fun h1 h2 => m0 ⟨h1, by omega⟩
                  have J0 := Lib.hid j0
                  clear m0 m3 j0
                  generalize zs.length = m at *
                  cases x
                  · have HE := Lib.hid (HG'.out (HBAD.out rfl))
                    cases on
                    · have j0 := J0.out rfl
                      obtain rfl : m = 0 := by omega
                      clear j0 J0
                      go_wp2_with (go_at_call 88; refine HC.out.mono ?_; rintro e w1 ⟨rfl, rfl⟩)
                      go_ret
                      exact ⟨r_b HE.out.symm, HB.out⟩
                    · go_wp2_with (go_at_call 88; refine HC.out.mono ?_; rintro e w1 ⟨rfl, rfl⟩)
                      go_ret
                      exact ⟨r_b HE.out.symm, HB.out⟩
                  · have HE : Hid (rowsB h.l h.f (k + 1) = true) := by unfold Hid; rw [HS.out]; exact HOK.out rfl
                    cases on
                    · have j0 := J0.out rfl
                      obtain rfl : m = 0 := by omega
                      clear j0 J0
                      go_wp2_with (go_at_call 88; refine HC.out.mono ?_; rintro e w1 ⟨rfl, rfl⟩)
                      go_round
                      case rel => exact ⟨k + 1, by omega, by go_num, HE.out⟩
                      case measure => simp [intOf]; omega
                    · go_wp2_with (go_at_call 88; refine HC.out.mono ?_; rintro e w1 ⟨rfl, rfl⟩)
                      go_round
                      case rel => exact ⟨k + 1, by omega, by go_num, HE.out⟩
                      case measure => simp [intOf]; omega
            · obtain rfl : k = n := by omega
              have HE := Lib.hid (HA.out ht.out)
              go_wp2_with fail
              go_ret
              exact ⟨r_b HE.out.symm, HB.out⟩
      · have HE := Lib.hid (HG4.out (by omega))
        have j4 : (4 : Int) < (nr : Int) := by omega
        clear HF HL HR R0
        go_enter Try.func80, Try.ntmps80
        go_wp2
        go_ret
        exact ⟨r_b HE.out.symm, HB.out⟩
    · have HE := Lib.hid (HLN.out n2)
      have i2 : ((nl : Int) != (n : Int)) = true := by rw [bne_iff_ne]; omega
      have i1 : ¬ (12 : Int) < (n : Int) := by omega
      clear n2 HF HL HR R0
      go_enter Try.func80, Try.ntmps80
      go_wp2
      go_ret
      exact ⟨r_b HE.out.symm, HB.out⟩
end Go.Proofs.Ytkkigoamphkalaa
namespace Go.Proofs.Ytkkigoamphkalaa
open Go.RowKit Ph

structure Que (w : World) (lo b off cap : Nat) (zs : List Int) : Prop where
  lo : lo ≤ b
  lt : b < w.heap.size
  le : zs.length ≤ cap
  at' : ∀ i, i < zs.length → w.cell? ⟨b, off + i, none⟩ = some (.int .i64 (zs.getD i 0))
  there : ∀ i, i < cap → (w.cell? ⟨b, off + i, none⟩).isSome = true
  free : ∀ i, w.frozen? ⟨b, off + i, none⟩ = false
theorem Que.kept {w w' : World} {lo b off cap : Nat} {zs : List Int} (h : Que w lo b off cap zs) (hs : w.heap.size ≤ w'.heap.size) (hb : w'.heap[b]? = w.heap[b]?) : Que w' lo b off cap zs := by
  have hc : ∀ k, w'.cell? ⟨b, k, none⟩ = w.cell? ⟨b, k, none⟩ := fun k => World.cell?_of_block (a := ⟨b, k, none⟩) hb
  have hf : ∀ k, w'.frozen? ⟨b, k, none⟩ = w.frozen? ⟨b, k, none⟩ := fun k => World.frozen?_of_block (a := ⟨b, k, none⟩) hb
  exact ⟨h.lo, Nat.lt_of_lt_of_le h.lt hs, h.le, fun i hi => by rw [hc]; exact h.at' i hi, fun i hi => by rw [hc]; exact h.there i hi, fun i => by rw [hf]; exact h.free i⟩
theorem Que.tail {w : World} {lo b off cap : Nat} {z : Int} {zs : List Int} (h : Que w lo b off cap (z :: zs)) : Que w lo b (off + 1) (cap - 1) zs := by
  have hl := h.le
  simp only [List.length_cons] at hl
  refine ⟨h.lo, h.lt, by omega, fun i hi => ?_, fun i hi => ?_, fun i => ?_⟩
  · have := h.at' (i + 1) (by simp; omega)
    rw [show off + 1 + i = off + (i + 1) by omega, this]
    simp
  · rw [show off + 1 + i = off + (i + 1) by omega]; exact h.there (i + 1) (by omega)
  · rw [show off + 1 + i = off + (i + 1) by omega]; exact h.free (i + 1)
theorem Que.tail0 {w : World} {lo b off cap : Nat} {z : Int} {zs : List Int} (h : Que w lo b off cap (z :: zs)) (h1 : cap = 1) : Que w lo b off (cap - 1) zs := by
  have hl := h.le
  simp only [List.length_cons] at hl
  exact ⟨h.lo, h.lt, by omega, fun i hi => by omega, fun i hi => by omega, h.free⟩
theorem Que.ofOwn {w : World} {lo : Nat} {v : Value} {zs : List Int} (h : Own w lo v zs) (h0 : 0 < zs.length) : ∃ b cap, v = .slice (some ⟨b, 0, none⟩) zs.length cap ∧ Que w lo b 0 cap zs := by
  have h' := h
  unfold Own at h'
  rcases h.2 with ⟨_, h2⟩ | ⟨g, cap, cur, rfl, hg, hh, hle, _, hcs, _⟩
  · omega
  · refine ⟨g, cap, rfl, hg, ?_, hle, fun i hi => ?_, fun i hi => ?_, fun i => ?_⟩
    · exact (owns_lt h' rfl).2
    · rw [Nat.zero_add, h'.cellAt i (by omega), List.getElem?_map, List.getElem?_eq_getElem hi]
      simp [List.getD, List.getElem?_eq_getElem hi]
    · rw [Nat.zero_add]
      have : w.cell? ⟨g, i, none⟩ = cur[i]? := cell_of_row w g i _ _ _ hh
      rw [this]
      simp; omega
    · rw [Nat.zero_add]; exact frozen_of_row w g i _ _ hh
theorem ints_src {w : World} {x : Value} {ys : List Int} (h : IntsAt w x ys) : ∃ ao c, x = .slice ao ys.length c ∧ Src Try.prog 1 24 x ys.length (ys.map (Value.int .i64)) w ∧ (0 < ys.length → ∃ ad, ao = some ad ∧ ∀ j u, (ys.map (Value.int .i64))[j]? = some u → w.cell? (ad.add j) = some u) := by
  obtain ⟨ao, c, rfl, hc⟩ := h
  refine ⟨ao, c, rfl, ?_, fun h0 => ?_⟩
  · cases ao with
    | none =>
      have : ys = [] := by
        cases ys with
        | nil => rfl
        | cons y ys => obtain ⟨b, off, hb, _⟩ := hc (by simp); cases hb
      subst this
      exact Src.ofNil w Try.underlying24 c
    | some ad =>
      refine Src.ofSlice w Try.underlying24 ad _ c _ (by simp) (fun j u hu => ?_) (fun u hu => by obtain ⟨_, _, rfl⟩ := List.mem_map.1 hu; rfl)
      have hj : j < ys.length := by
        have := List.getElem?_eq_some_iff.1 hu
        obtain ⟨h1, _⟩ := this
        simpa using h1
      obtain ⟨b, off, hb, hcc⟩ := hc (by omega)
      cases hb
      have := hcc j hj
      rw [Addr.add_lit]
      rw [this]
      rw [List.getElem?_map, List.getElem?_eq_getElem hj] at hu
      simp only [Option.map_some, Option.some.injEq] at hu
      rw [← hu]; simp [List.getD, List.getElem?_eq_getElem hj]
  · obtain ⟨b, off, rfl, hcc⟩ := hc h0
    refine ⟨_, rfl, fun j u hu => ?_⟩
    have hj : j < ys.length := by
      obtain ⟨h1, _⟩ := List.getElem?_eq_some_iff.1 hu
      simpa using h1
    have := hcc j hj
    rw [Addr.add_lit]
    rw [this]
    rw [List.getElem?_map, List.getElem?_eq_getElem hj] at hu
    simp only [Option.map_some, Option.some.injEq] at hu
    rw [← hu]; simp [List.getD, List.getElem?_eq_getElem hj]
theorem grownBy_setCells (w : World) (g o : Nat) : ∀ (vs : List Value), w.grownBy (w.setCells g o vs) (some g) := by
  intro vs
  induction vs generalizing w o with
  | nil => exact World.grownBy.refl _ _
  | cons v vs ih =>
    have h1 : w.grownBy (w.setCell ⟨g, o, none⟩ v) (some g) := ⟨rfl, rfl, rfl, by rw [World.size_setCell]; exact Nat.le_refl _, fun i _ hne => heap_setCell_other w ⟨g, o, none⟩ i _ (fun e => hne (by rw [e]))⟩
    exact grownBy_trans h1 (ih _ _)
/-- What an append makes of a queue. -/
theorem wl_appQ (w : World) {ops : Array Oper} {rest : List Oper} {o : Oper} {q : Act} {Q : Exit → Act → World → Prop} (hg : o.guard = none) (s x : Operand) (hop : o.op = Op.call { callee := Callee.builtin Builtin.append, args := #[s, x], argTypes := #[24, 24] })
    (lo b off cap : Nat) (zs : List Int) (hs : q.eval s = .slice (some ⟨b, off, none⟩) zs.length cap) (hQ : Que w lo b off cap zs) (y : Value) (ys : List Int) (hx : q.eval x = y) (hy : IntsAt w y ys) (hlo : lo ≤ w.heap.size) (hm : zs.length + ys.length ≤ 1000000)
    (hK : ∀ b' off' cap' w', Que w' lo b' off' cap' (zs ++ ys) → w.grownBy w' (some b) → wpList Try.prog ops Q rest (q.put o.dst (.slice (some ⟨b', off', none⟩) (zs ++ ys).length cap')) w') : wpList Try.prog ops Q (o :: rest) q w := by
  obtain ⟨i, hi, hz0, hz1, hz2⟩ := info_parts info_int
  obtain ⟨ao, c, rfl, hsrc, hcell⟩ := ints_src hy
  by_cases hfit : zs.length + ys.length ≤ cap
  · have hrun := run_append_room_src (P := Try.prog) w 24 24 o.type 3 i Try.underlying24 hi b off zs.length cap _ ys.length (ys.map (Value.int .i64)) (by rw [hz1]; exact hsrc) hfit
      (fun j hj => by rw [hz1, Nat.mul_one, Nat.add_assoc]; exact hQ.there _ (by simp at hj; omega)) (fun j hj => by rw [hz1, Nat.mul_one, Nat.add_assoc]; exact hQ.free _)
    rw [hz1, Nat.mul_one] at hrun
    have hgr := grownBy_setCells w b (off + zs.length) (ys.map (Value.int .i64))
    have hQ' : Que (w.setCells b (off + zs.length) (ys.map (Value.int .i64))) lo b off cap (zs ++ ys) := by
      refine ⟨hQ.lo, Nat.lt_of_lt_of_le hQ.lt hgr.size, by simp; omega, fun k hk => ?_, fun k hk => ?_, fun k => ?_⟩
      · by_cases e : k < zs.length
        · rw [World.cell?_setCells_out b _ _ w ⟨b, off + k, none⟩ (fun _ _ => .inl (by simp only; omega)), hQ.at' k e]
          simp [List.getD, List.getElem?_append_left e]
        · have hk' : k - zs.length < ys.length := by simp at hk; omega
          have := World.cell?_setCells_in b (ys.map (Value.int .i64)) (off + zs.length) w (fun j hj => by rw [Nat.add_assoc]; exact hQ.there _ (by simp at hj; omega)) (k - zs.length) (by simp; omega)
          rw [show off + zs.length + (k - zs.length) = off + k by omega] at this
          rw [this]
          simp [List.getD, List.getElem?_append_right (show zs.length ≤ k by omega), List.getElem?_eq_getElem hk']
      · by_cases e : k < zs.length ∨ zs.length + ys.length ≤ k
        · rw [World.cell?_setCells_out b _ _ w ⟨b, off + k, none⟩ (fun _ _ => by simp only [List.length_map]; omega)]; exact hQ.there k hk
        · have hk' : k - zs.length < ys.length := by omega
          have := World.cell?_setCells_in b (ys.map (Value.int .i64)) (off + zs.length) w (fun j hj => by rw [Nat.add_assoc]; exact hQ.there _ (by simp at hj; omega)) (k - zs.length) (by simp; omega)
          rw [show off + zs.length + (k - zs.length) = off + k by omega] at this
          rw [this]; rfl
      · rw [World.frozen?_setCells]; exact hQ.free k
    refine wpList_plain hg fun K hK' => ?_
    have hh := hK b off cap _ hQ' hgr
    rw [List.length_append] at hh
    unfold Oper.wp
    simp [execOp, hop, resolve, invoke, builtin, hs, hx, hrun, Result.andThen]
    exact hK' _ _ hh
  · obtain ⟨ad, rfl, hnews⟩ := hcell (by have := hQ.le; omega)
    refine wpList_append_grows w hg s x 24 hop 3 i (.int .i64 0) 1 8 Try.underlying24 hi hz0 hz1 hz2 rfl (by omega) (some ⟨b, off, none⟩) zs.length cap (zs.map (Value.int .i64)) hs (fun h => by cases h) (by simp) (fun b' hb' j u hu => ?_) ad ys.length c (ys.map (Value.int .i64)) hx (by simp) hnews (fun u hu => by obtain ⟨_, _, rfl⟩ := List.mem_map.1 hu; rfl) (by omega) (by unfold maxLen; omega) (by omega) ?_
    · cases hb'
      have hj : j < zs.length := by
        obtain ⟨h1, _⟩ := List.getElem?_eq_some_iff.1 hu
        simpa using h1
      have := hQ.at' j hj
      rw [Addr.add_lit]
      rw [this]
      rw [List.getElem?_map, List.getElem?_eq_getElem hj] at hu
      simp only [Option.map_some, Option.some.injEq] at hu
      rw [← hu]; simp [List.getD, List.getElem?_eq_getElem hj]
    · intro v' w' hown hgr
      have ho : Own w' w.heap.size v' (zs ++ ys) := by unfold Own; rw [List.length_append, List.map_append]; exact hown
      obtain ⟨b', cap', rfl, hq⟩ := Que.ofOwn ho (by rw [List.length_append]; have := hQ.le; omega)
      exact hK b' 0 cap' w' ⟨Nat.le_trans hlo hq.lo, hq.lt, hq.le, hq.at', hq.there, hq.free⟩ ⟨hgr.os, hgr.tape, hgr.output, hgr.size, fun i hi _ => hgr.block i hi (by simp)⟩
end Go.Proofs.Ytkkigoamphkalaa
namespace Go.Proofs.Ytkkigoamphkalaa.Ph
theorem left_rep (n : Nat) : left (List.replicate n false) = n := by unfold left; simp
end Go.Proofs.Ytkkigoamphkalaa.Ph
namespace Go.Proofs.Ytkkigoamphkalaa
open Go.RowKit Ph

theorem que_nil (w : World) (lo : Nat) (hlo : lo ≤ w.heap.size) : Que (w.alloc (.cells #[] 3)) lo w.heap.size 0 0 [] :=
  ⟨hlo, by simp, Nat.le_refl _, fun i hi => by simp at hi, fun i hi => by omega, fun i => by rw [Nat.zero_add]; exact Row.frozen (Row.new w 3 #[]) i⟩
set_option maxRecDepth 100000 in
set_option maxHeartbeats 6400000 in
theorem s_l5From (a b' c v : Value) (h : H) (zs : List Int) (w : World) (hA : HeapAt w a b' c h) (hG : Ph.Good h) (hz : IntsAt w v zs) (hzl : zs.length ≤ 12) (hzr : ∀ z ∈ zs, inR h.f.length z) :
    Calls Try.prog 89 #[hv a b' c, v] w fun e w' => ∃ v', e = .returned v' ∧ OwnBs w' w.heap.size v' (reachL h.f zs) ∧ Below w.heap.size w w' := by
  obtain ⟨i0, hi, hz0, hz1, hz2⟩ := info_parts info_boolz
  have hrow : ∀ i, i < h.f.length → ∀ z ∈ h.f.getD i [], inR h.f.length z := fun i _ z hz => (hG.field hz).imp id (fun h => ⟨h.1, h.2.1⟩)
  have hrl : ∀ i, i < h.f.length → (h.f.getD i []).length ≤ 3 := fun i hi => (hG.row i hi).1
  have hn1 := hG.n
  obtain ⟨fa, fc, rfl⟩ := hA.f.shape
  obtain ⟨va, vc, hva⟩ := hz.shape
  have HF := Lib.hid hA.f; have HZ := Lib.hid hz; have HR := Lib.hid hrow; have HRL := Lib.hid hrl; have HZR := Lib.hid hzr
  have HST := Lib.hid (Bfs.start h.f zs)
  clear hA hG hz hrow hrl hzr
  generalize hn : h.f.length = n at *
  have HN := Lib.hid hn; clear hn
  have HVA := Lib.hid hva
  clear hva
  have hb0 := Lib.hid (below1 w (.cells (c3 (.slice fa n fc) b' c) 30))
  have R0 := Lib.hid (show RowH _ _ (.slice fa n fc) b' c from Row.new w 30 (c3 (.slice fa n fc) b' c))
  go_enter Try.func89, Try.ntmps89
  go_wp2_with (first
    | (at_make; refine wpList_make_full _ rfl _ _ 23 rfl w.heap.size 4 i0 (.bool false) 1 Try.underlying23 hi hz0 hz1 .i64 .i64 _ _ n rfl rfl rfl rfl (by rw [hz2]; omega) (by unfold maxLen; omega) (by simp) ?_; intro w1 hown hgr
       rw [rep_bools] at hown
       have hsz0 : (w.alloc (.cells (c3 (.slice fa n fc) b' c) 30)).heap.size = w.heap.size + 1 := by simp
       rw [hsz0] at hown
       have lt1 : w.heap.size + 1 < w1.heap.size := (owns_lt hown rfl).2
       have o1 : OwnBs w1 w.heap.size (.slice (some ⟨w.heap.size + 1, 0, none⟩) n n) (List.replicate n false) := by unfold OwnBs; rw [List.length_replicate]; exact hown
       have b1 := hb0.out.grown hgr hb0.out.size (fun k hk => by cases hk)
       have O1 := Lib.hid o1; have B1 := Lib.hid b1; have R1 := Lib.hid (Row.grown R0.out hgr); have LT1 := Lib.hid lt1
       clear hown hgr hsz0 o1 b1 lt1)
    | (at_builtin; refine wl_appQ _ rfl _ _ rfl (w.heap.size + 2) w1.heap.size 0 0 [] rfl (que_nil w1 _ (by have := LT1.out; omega)) v zs rfl (HZ.out.below (bst B1.out (below1 w1 (.cells #[] 3)) (by have := LT1.out; omega))) (by have := LT1.out; simp; omega) (by simp; omega) ?_
       intro b2 o2 k2 w2 hq2 hg2
       have b2' := (bst B1.out (below1 w1 (.cells #[] 3)) (by have := LT1.out; omega)).grown hg2 (by have := LT1.out; simp; omega) (fun k hk => by cases hk; have := LT1.out; omega)
       have e2 : OwnBs w2 w.heap.size (.slice (some ⟨w.heap.size + 1, 0, none⟩) n n) (List.replicate n false) := owns_block (OwnBs.below O1.out (below1 w1 (.cells #[] 3))) (fun g hg => hg2.block g (by have := LT1.out; cases hg; simp; omega) (by have := LT1.out; cases hg; simp; omega))
       have r2 := Row.grownBy (R1.out.alloc (.cells #[] 3)) hg2 (by have := LT1.out; simp; omega)
       have Q2 := Lib.hid hq2; have B2 := Lib.hid b2'; have O2 := Lib.hid e2; have R2 := Lib.hid r2
       clear hq2 hg2 b2' e2 r2))
  rw [List.nil_append] at Q2
  clear O1 B1 R1 hb0 R0 HZ HVA
  have LTW : Hid (w.heap.size + 2 ≤ w2.heap.size) := by unfold Hid; have := Q2.out.lt; have := Q2.out.lo; omega
  go_loopg [6] (4 * n + zs.length) (fun k q wr => ∃ (b off cap : Nat) (zq : List Int) (S : List Bool), q = .slice (some ⟨b, off, none⟩) zq.length cap ∧ Hid (k = 4 * left S + zq.length) ∧ k ≤ 60 ∧ Hid (Que wr (w.heap.size + 2) b off cap zq) ∧ Hid (Bfs h.f zs zq S) ∧ Hid (∀ z ∈ zq, inR n z) ∧ Hid (OwnBs wr w.heap.size (.slice (some ⟨w.heap.size + 1, 0, none⟩) n n) S) ∧ Hid (RowH wr w.heap.size (.slice fa n fc) b' c) ∧ Hid (Below w.heap.size w wr) ∧ Hid (w.heap.size + 2 ≤ wr.heap.size))
  case atStart => exact ⟨b2, o2, k2, zs, List.replicate n false, rfl, by rw [left_rep]; exact rfl, by omega, Q2, HST, HZR, O2, R2, B2, LTW⟩
  case round =>
    obtain ⟨b, off, cap, zq, S, rfl, hgk, hg60, hq, hbf, hzq, hos, hrw, hbw, hlw⟩ := hrel
    have hSl : S.length = n := by rw [hbf.out.len, HN.out]
    cases zq with
    | nil =>
      have HE := Lib.hid hbf.out.done
      simp only [List.length_nil]
      go_wp2_with fail
      go_ret
      exact ⟨_, rfl, by rw [← HE.out]; exact hos.out, hbw.out⟩
    | cons z zq =>
      have q0 := hq.out.at' 0 (by simp)
      have hin := hzq.out z (by simp)
      have hcap := hq.out.le
      have HQ0 : Hid (cap = 1 → Que wr (w.heap.size + 2) b off (cap - 1) zq) := hq.out.tail0
      have HQ1 := Lib.hid hq.out.tail
      have HZT : Hid (∀ y ∈ zq, inR n y) := fun y hy => hzq.out y (List.mem_cons_of_mem _ hy)
      simp only [List.getD_cons_zero, Nat.add_zero] at q0
      simp only [List.length_cons] at hgk hcap ⊢
      generalize hql : zq.length = ql at *
      have HQL := Lib.hid hql
      have ipos : (0 : Int) < ((ql + 1 : Nat) : Int) := by omega
      clear hql hzq
      by_cases hc1 : cap = 1
      · subst hc1
        obtain rfl : ql = 0 := by omega
        obtain rfl : zq = [] := List.eq_nil_of_length_eq_zero HQL.out
        have HQT : Hid (Que wr (w.heap.size + 2) b off 0 []) := HQ0.out rfl
        clear HQ0 HQ1
        by_cases z0 : z < 0
        · have HS1 : Hid (Bfs h.f zs [] S) := hbf.out.skip (.inl z0)
          clear hin
          go_wp2_with fail
          go_roundg (4 * left S)
          case measure => have := hgk.out; omega
          case rel => exact ⟨b, off, 0, [], S, rfl, rfl, by have := hgk.out; omega, HQT, HS1, HZT, hos, hrw, hbw, hlw⟩
        · obtain ⟨t, rfl⟩ : ∃ t : Nat, z = t := ⟨z.toNat, by omega⟩
          have htn : t < n := by unfold inR at hin; omega
          obtain ⟨s1, s2, s3, s4⟩ := hos.out.stored hSl htn true
          have i2 : ¬ (t : Int) < 0 := by omega
          have i3 : (t : Int) < (n : Int) := by omega
          have i4 : (0 : Int) ≤ (t : Int) := by omega
          generalize hx : S.getD t false = x at *
          have HX := Lib.hid hx
          clear hin z0 hx
          cases x
          · have hls := left_set (S := S) (z := t) (by omega) HX.out
            obtain ⟨fb, fo, rfl, hcf⟩ := HF.out.at' (by omega)
            obtain ⟨u, quf, huf⟩ := hcf t htn
            have B1 : Below w.heap.size w (wr.setCell ⟨w.heap.size + 1, t, none⟩ (.bool true)) := hbw.out.setCell (p := ⟨w.heap.size + 1, t, none⟩) (by simp) (.bool true)
            have qu := cellBelow B1 (Nat.le_refl _) quf
            have U1 := Lib.hid (huf.below B1)
            have hqb := hq.out.lo
            have Q1 : Hid (Que (wr.setCell ⟨w.heap.size + 1, t, none⟩ (.bool true)) (w.heap.size + 2) b off 0 []) := HQT.out.kept s2.size (s2.block b HQT.out.lt (by simp; omega))
            have R1 : RowH (wr.setCell ⟨w.heap.size + 1, t, none⟩ (.bool true)) w.heap.size (.slice (some ⟨fb, fo, none⟩) n fc) b' c := Row.grownBy hrw.out s2 (by simp)
            have d0 := R1.c0
            have TK := Lib.hid (by have := hbf.out.take (z := t) (by rw [HN.out]; exact htn); rwa [List.nil_append] at this : Bfs h.f zs (h.f.getD t []) (S.set t true))
            have hrt := HR.out t htn
            have hlt3 := HRL.out t htn
            have HZA : Hid (∀ y ∈ h.f.getD t [], inR n y) := hrt
            have RR1 := Lib.hid R1; have BB1 := Lib.hid B1; have SS1 := Lib.hid s1; have HLS := Lib.hid hls
            have LL1 : Hid (w.heap.size + 2 ≤ (wr.setCell ⟨w.heap.size + 1, t, none⟩ (.bool true)).heap.size) := by unfold Hid; rw [World.size_setCell]; exact hlw.out
            obtain ⟨ua, uc, hu⟩ := huf.shape
            subst hu
            clear hls hcf huf quf B1 R1 s1 s2 hrt
            have HL3 := Lib.hid hlt3
            have HGT := Lib.hid (show (h.f.getD t []).length ≤ 1000000 by have := hgk.out; omega)
            generalize hrr : h.f.getD t [] = row at *
            have HRR := Lib.hid hrr
            clear hrr hlt3
            generalize hrl' : row.length = rl at *
            have HRLN := Lib.hid hrl'
            clear hrl'
            go_wp2_with (at_builtin; refine wl_appQ _ rfl _ _ rfl (w.heap.size + 2) b off 0 [] rfl Q1.out _ row rfl U1.out LL1.out (by have := HGT.out; simp only [List.length_nil, Nat.zero_add, HRLN.out]; exact this) ?_
                         intro b3 o3 k3 w3 hq3 hg3
                         have f1 : Hid (Que w3 (w.heap.size + 2) b3 o3 k3 row) := (by rw [List.nil_append] at hq3; exact hq3)
                         have f2 := Lib.hid (BB1.out.grown hg3 (by have := LL1.out; omega) (fun k hk => by cases hk; omega))
                         have f3 : Hid (OwnBs w3 w.heap.size (.slice (some ⟨w.heap.size + 1, 0, none⟩) n n) (S.set t true)) := owns_block SS1.out (fun g hg => hg3.block g (owns_lt SS1.out hg).2 (by cases hg; simp; omega))
                         have f4 : Hid (RowH w3 w.heap.size (.slice (some ⟨fb, fo, none⟩) n fc) b' c) := Row.grownBy RR1.out hg3 (by simp; omega)
                         have f5 : Hid (w.heap.size + 2 ≤ w3.heap.size) := Nat.le_trans LL1.out hg3.size
                         clear hq3 hg3)
            go_roundg (4 * left (S.set t true) + (row).length)
            case measure => rw [HRLN.out]; have := hgk.out; have := HLS.out; have := HL3.out; omega
            case rel => exact ⟨b3, o3, k3, row, S.set t true, rfl, rfl, by rw [HRLN.out]; have := hgk.out; have := HLS.out; have := HL3.out; omega, f1, TK, HZA, f3, f4, f2, f5⟩
          · have HS1 : Hid (Bfs h.f zs [] S) := hbf.out.skip (.inr (by simpa using HX.out))
            go_wp2_with fail
            go_roundg (4 * left S)
            case measure => have := hgk.out; omega
            case rel => exact ⟨b, off, 0, [], S, rfl, rfl, by have := hgk.out; omega, HQT, HS1, HZT, hos, hrw, hbw, hlw⟩
      · have HQT := HQ1
        clear HQ0 HQ1
        by_cases z0 : z < 0
        · have HS1 : Hid (Bfs h.f zs zq S) := hbf.out.skip (.inl z0)
          clear hin
          go_wp2_with fail
          go_roundg (4 * left S + ql)
          case measure => have := hgk.out; omega
          case rel => exact ⟨b, off + 1, cap - 1, zq, S, by simp [HQL.out], by rw [HQL.out]; exact rfl, by have := hgk.out; omega, HQT, HS1, HZT, hos, hrw, hbw, hlw⟩
        · obtain ⟨t, rfl⟩ : ∃ t : Nat, z = t := ⟨z.toNat, by omega⟩
          have htn : t < n := by unfold inR at hin; omega
          obtain ⟨s1, s2, s3, s4⟩ := hos.out.stored hSl htn true
          have i2 : ¬ (t : Int) < 0 := by omega
          have i3 : (t : Int) < (n : Int) := by omega
          have i4 : (0 : Int) ≤ (t : Int) := by omega
          generalize hx : S.getD t false = x at *
          have HX := Lib.hid hx
          clear hin z0 hx
          cases x
          · have hls := left_set (S := S) (z := t) (by omega) HX.out
            obtain ⟨fb, fo, rfl, hcf⟩ := HF.out.at' (by omega)
            obtain ⟨u, quf, huf⟩ := hcf t htn
            have B1 : Below w.heap.size w (wr.setCell ⟨w.heap.size + 1, t, none⟩ (.bool true)) := hbw.out.setCell (p := ⟨w.heap.size + 1, t, none⟩) (by simp) (.bool true)
            have qu := cellBelow B1 (Nat.le_refl _) quf
            have U1 := Lib.hid (huf.below B1)
            have hqb := hq.out.lo
            have Q1 : Hid (Que (wr.setCell ⟨w.heap.size + 1, t, none⟩ (.bool true)) (w.heap.size + 2) b (off + 1) (cap - 1) zq) := HQT.out.kept s2.size (s2.block b HQT.out.lt (by simp; omega))
            have R1 : RowH (wr.setCell ⟨w.heap.size + 1, t, none⟩ (.bool true)) w.heap.size (.slice (some ⟨fb, fo, none⟩) n fc) b' c := Row.grownBy hrw.out s2 (by simp)
            have d0 := R1.c0
            have TK := Lib.hid (hbf.out.take (z := t) (by rw [HN.out]; exact htn))
            have hrt := HR.out t htn
            have hlt3 := HRL.out t htn
            have HZA : Hid (∀ y ∈ zq ++ h.f.getD t [], inR n y) := fun y hy => (List.mem_append.1 hy).elim (HZT.out y) (hrt y)
            have RR1 := Lib.hid R1; have BB1 := Lib.hid B1; have SS1 := Lib.hid s1; have HLS := Lib.hid hls
            have LL1 : Hid (w.heap.size + 2 ≤ (wr.setCell ⟨w.heap.size + 1, t, none⟩ (.bool true)).heap.size) := by unfold Hid; rw [World.size_setCell]; exact hlw.out
            obtain ⟨ua, uc, hu⟩ := huf.shape
            subst hu
            clear hls hcf huf quf B1 R1 s1 s2 hrt
            have HL3 := Lib.hid hlt3
            have HGT := Lib.hid (show zq.length + (h.f.getD t []).length ≤ 1000000 by rw [HQL.out]; have := hgk.out; omega)
            generalize hrr : h.f.getD t [] = row at *
            have HRR := Lib.hid hrr
            clear hrr hlt3
            generalize hrl' : row.length = rl at *
            have HRLN := Lib.hid hrl'
            clear hrl'
            go_wp2_with (at_builtin; refine wl_appQ _ rfl _ _ rfl (w.heap.size + 2) b (off + 1) (cap - 1) zq (by first | (rw [HQL.out]; rfl) | (simp [HQL.out])) Q1.out _ row rfl U1.out LL1.out (by rw [HRLN.out]; exact HGT.out) ?_
                         intro b3 o3 k3 w3 hq3 hg3
                         have f1 := Lib.hid hq3; have f2 := Lib.hid (BB1.out.grown hg3 (by have := LL1.out; omega) (fun k hk => by cases hk; omega))
                         have f3 : Hid (OwnBs w3 w.heap.size (.slice (some ⟨w.heap.size + 1, 0, none⟩) n n) (S.set t true)) := owns_block SS1.out (fun g hg => hg3.block g (owns_lt SS1.out hg).2 (by cases hg; simp; omega))
                         have f4 : Hid (RowH w3 w.heap.size (.slice (some ⟨fb, fo, none⟩) n fc) b' c) := Row.grownBy RR1.out hg3 (by simp; omega)
                         have f5 : Hid (w.heap.size + 2 ≤ w3.heap.size) := Nat.le_trans LL1.out hg3.size
                         clear hq3 hg3)
            go_roundg (4 * left (S.set t true) + (zq ++ row).length)
            case measure => rw [List.length_append, HQL.out, HRLN.out]; have := hgk.out; have := HLS.out; have := HL3.out; omega
            case rel => exact ⟨b3, o3, k3, zq ++ row, S.set t true, by rw [List.length_append], rfl, by rw [List.length_append, HQL.out, HRLN.out]; have := hgk.out; have := HLS.out; have := HL3.out; omega, f1, TK, HZA, f3, f4, f2, f5⟩
          · have HS1 : Hid (Bfs h.f zs zq S) := hbf.out.skip (.inr (by simpa using HX.out))
            go_wp2_with fail
            go_roundg (4 * left S + ql)
            case measure => have := hgk.out; omega
            case rel => exact ⟨b, off + 1, cap - 1, zq, S, by simp [HQL.out], by rw [HQL.out]; exact rfl, by have := hgk.out; omega, HQT, HS1, HZT, hos, hrw, hbw, hlw⟩
end Go.Proofs.Ytkkigoamphkalaa
namespace Go.Proofs.Ytkkigoamphkalaa.Ph
def inB (lo hi z : Int) : Bool := decide (lo ≤ z) && decide (z ≤ hi)
theorem inAll_take_succ {lo hi : Int} {zs : List Int} {k : Nat} (h : k < zs.length) : (zs.take (k + 1)).all (inB lo hi) = ((zs.take k).all (inB lo hi) && inB lo hi (zs.getD k 0)) := by
  have e : zs.getD k 0 = zs[k] := by simp [List.getD, List.getElem?_eq_getElem h]
  rw [List.take_succ_eq_append_getElem h, List.all_append, e]; simp
theorem inAll_false {lo hi : Int} {zs : List Int} {k : Nat} (h : k < zs.length) (hn : inB lo hi (zs.getD k 0) = false) : zs.all (inB lo hi) = false := by
  cases hq : zs.all (inB lo hi) with
  | false => rfl
  | true =>
    have e : zs.getD k 0 = zs[k] := by simp [List.getD, List.getElem?_eq_getElem h]
    have := (List.all_eq_true.1 hq) zs[k] (List.getElem_mem h)
    rw [e] at hn; rw [hn] at this; cases this
theorem all_live {h : H} (g : Ph.Good h) (zs : List Int) : zs.all (liveB h.l) = (zs.all (inB 0 ((h.f.length : Int) - 1)) && refsB h.l zs) := by
  rw [Bool.eq_iff_iff, Bool.and_eq_true, List.all_eq_true, List.all_eq_true, refsB_iff]
  constructor
  · intro hh
    refine ⟨fun z hz => ?_, fun z hz => refB_iff.2 (.inr (hh z hz))⟩
    have := live_inR g (hh z hz)
    simp [inB]; omega
  · rintro ⟨h1, h2⟩ z hz
    have a := h1 z hz
    simp [inB] at a
    rcases refB_iff.1 (h2 z hz) with e | e
    · omega
    · exact e
end Go.Proofs.Ytkkigoamphkalaa.Ph
namespace Go.Proofs.Ytkkigoamphkalaa
open Go.RowKit Ph

set_option maxHeartbeats 1600000 in
theorem s_l1All (v : Value) (zs : List Int) (lo hi : Int) (w : World) (hz : IntsAt w v zs) (hm : zs.length ≤ 9223372036854775806) : Calls Try.prog 87 #[v, .int .i64 lo, .int .i64 hi] w fun e w' => e = .returned (.bool (zs.all (inB lo hi))) ∧ w = w' := by
  obtain ⟨va, vc, rfl, hA⟩ := hz
  have HA := Lib.hid hA
  clear hA
  generalize hn : zs.length = n at *
  have HN := Lib.hid hn; clear hn
  go_enter Try.func87, Try.ntmps87
  go_wp2
  go_loop [11] (fun i => ∃ k : Nat, k ≤ n ∧ i = .int .i64 k ∧ Hid ((zs.take k).all (inB lo hi) = true)) (fun i => n - (intOf i).toNat)
  case atStart => exact ⟨0, Nat.zero_le _, rfl, by simp [Hid]⟩
  case round =>
    obtain ⟨k, hk, rfl, ht⟩ := hrel
    by_cases hlt : k < n
    · obtain ⟨g, off, rfl, hc⟩ := HA.out (by omega)
      have q := hc k hlt
      have i1 : (k : Int) < (n : Int) := by omega
      have hs := inAll_take_succ (lo := lo) (hi := hi) (zs := zs) (k := k) (by rw [HN.out]; exact hlt)
      have hf := inAll_false (lo := lo) (hi := hi) (zs := zs) (k := k) (by rw [HN.out]; exact hlt)
      have HS := Lib.hid hs; have HF := Lib.hid hf
      clear hc hs hf
      generalize zs.getD k 0 = z at *
      have hcall : Calls Try.prog 126 #[.int .i64 z, .int .i64 lo, .int .i64 hi] w fun e w' => e = .returned (.bool (inB lo hi z)) ∧ w = w' := s_l1In z lo hi w
      have HC := Lib.hid hcall
      clear hcall
      generalize hx : inB lo hi z = x at *
      clear hx
      cases x
      · have HE : Hid (zs.all (inB lo hi) = false) := HF.out rfl
        clear HS HF
        go_wp2_with (go_at_call 126; refine HC.out.mono ?_; rintro e w1 ⟨rfl, rfl⟩)
        go_ret
        exact ⟨r_b HE.out.symm, rfl⟩
      · have HE : Hid ((zs.take (k + 1)).all (inB lo hi) = true) := by unfold Hid; rw [HS.out, ht.out]; rfl
        clear HS HF
        go_wp2_with (go_at_call 126; refine HC.out.mono ?_; rintro e w1 ⟨rfl, rfl⟩)
        go_round
        case rel => exact ⟨k + 1, by omega, by go_num, HE.out⟩
        case measure => simp [intOf]; omega
    · have HE : Hid (zs.all (inB lo hi) = true) := by
        unfold Hid
        have := ht.out
        rwa [List.take_of_length_le (by rw [HN.out]; omega)] at this
      go_wp2
      go_ret
      exact ⟨r_b HE.out.symm, rfl⟩
set_option maxHeartbeats 1600000 in
theorem s_l5Reached (a b c : Value) (h : H) (w : World) (hA : HeapAt w a b c h) (hG : Ph.Good h) : Calls Try.prog 81 #[hv a b c] w fun e w' => ∃ v', e = .returned v' ∧ OwnBs w' w.heap.size v' (reachL h.f h.r) ∧ Below w.heap.size w w' := by
  have hb0 := below1 w (.cells (c3 a b c) 30)
  have A0 := Lib.hid (hA.below hb0)
  have HB := Lib.hid hb0; have G := Lib.hid hG
  have R0 := Lib.hid (show RowH _ _ a b c from Row.new w 30 (c3 a b c))
  clear hA hb0 hG
  have c0 := R0.out.c0
  have c1 := R0.out.c1
  have c2 := R0.out.c2
  go_enter Try.func81, Try.ntmps81
  go_wp2_with fail
  refine (s_l5From a b c c h h.r _ A0.out G.out A0.out.r (by have := G.out.rn; omega) (fun z hz => (refs_bound G.out G.out.rr z hz).imp id (fun h => ⟨h.1, h.2.1⟩))).mono ?_
  rintro e w2 ⟨v', rfl, ho2, hb2⟩
  have B2 := Lib.hid (bst HB.out hb2 HB.out.size); have O2 := Lib.hid (show OwnBs w2 w.heap.size v' (reachL h.f h.r) from owns_mono ho2 fun g hg => Nat.le_trans HB.out.size (owns_lt ho2 hg).1)
  clear hb2 ho2
  go_wp2_with fail
  go_ret
  exact ⟨_, rfl, O2.out, B2.out⟩
set_option maxHeartbeats 1600000 in
theorem s_ReachedIn (a b c : Value) (h : H) (w : World) (hA : HeapAt w a b c h) : Calls Try.prog 15 #[hv a b c] w (EndB (reachR h) (good h) w) := by
  have hb0 := below1 w (.cells (c3 a b c) 30)
  have A0 := Lib.hid (hA.below hb0)
  have HB := Lib.hid hb0
  have R0 := Lib.hid (show RowH _ _ a b c from Row.new w 30 (c3 a b c))
  clear hA hb0
  have HC := Lib.hid (s_GoodHeap a b c h _ A0.out)
  generalize hg : good h = x at *
  have HX := Lib.hid hg
  clear hg
  have c0 := R0.out.c0
  have c1 := R0.out.c1
  have c2 := R0.out.c2
  cases x
  · have HE := Lib.hid (reachR_no HX.out)
    go_enter Try.func15, Try.ntmps15
    go_wp2_with (go_at_call 80; refine HC.out.mono ?_; rintro e w1 ⟨rfl, hb1⟩; have B1 := Lib.hid (bst HB.out hb1 HB.out.size); clear hb1)
    go_ret2
    exact endB_no B1.out HE.out rfl
  · have HE := Lib.hid (reachR_yes HX.out)
    have G := Lib.hid (good_iff.1 HX.out)
    go_enter Try.func15, Try.ntmps15
    go_wp2_with (go_at_call 80; refine HC.out.mono ?_; rintro e w1 ⟨rfl, hb1⟩; have B1 := Lib.hid (bst HB.out hb1 HB.out.size); have A1 := Lib.hid (A0.out.below hb1); have R1 := R0.out.below hb1; have d0 := R1.c0; have d1 := R1.c1; have d2 := R1.c2; clear hb1 R1)
    refine (s_l5Reached a b c h _ A1.out G.out).mono ?_
    rintro e w2 ⟨v', rfl, ho2, hb2⟩
    have B2 := Lib.hid (bst B1.out hb2 B1.out.size); have O2 := Lib.hid ho2
    clear hb2 ho2
    go_wp2_with fail
    go_ret2
    exact endB_yes B2.out O2.out B1.out.size HE.out rfl
set_option maxHeartbeats 3200000 in
theorem s_ReachFrom (a b c v : Value) (h : H) (zs : List Int) (w : World) (hA : HeapAt w a b c h) (hz : IntsAt w v zs) : Calls Try.prog 23 #[hv a b c, v] w (EndB (reachF h zs) (fromOk h zs) w) := by
  have hb0 := below1 w (.cells (c3 a b c) 30)
  have A0 := Lib.hid (hA.below hb0)
  have Z0 := Lib.hid (hz.below hb0)
  have HB := Lib.hid hb0
  have R0 := Lib.hid (show RowH _ _ a b c from Row.new w 30 (c3 a b c))
  obtain ⟨va, vc, rfl⟩ := hz.shape
  obtain ⟨fa, fc, rfl⟩ := hA.f.shape
  clear hA hb0 hz
  have HC := Lib.hid (s_GoodHeap _ b c h _ A0.out)
  have F1 := Lib.hid (fromOk_bad (h := h) (zs := zs)); have F2 := Lib.hid (fromOk_long (h := h) (zs := zs)); have F3 := Lib.hid (fromOk_dead (h := h) (zs := zs)); have F4 := Lib.hid (fromOk_ok (h := h) (zs := zs))
  have E1 := Lib.hid (reachF_no (h := h) (zs := zs)); have E2 := Lib.hid (reachF_yes (h := h) (zs := zs))
  have G1 := Lib.hid (good_iff (h := h)).1
  have AL := Lib.hid (fun g => all_live (h := h) g zs)
  have hll : Hid (Ph.Good h → h.l.length ≤ 9223372036854775806) := fun g => by rw [g.ll]; have := g.n; omega
  have hfl : Hid (Ph.Good h → h.f.length ≤ 12) := fun g => g.n
  generalize hg : good h = x at *
  clear hg
  generalize hm : zs.length = m at *
  have HM := Lib.hid hm; clear hm
  generalize hn : h.f.length = n at *
  clear hn
  have c0 := R0.out.c0
  have c1 := R0.out.c1
  have c2 := R0.out.c2
  cases x
  · have HE := Lib.hid (F1.out rfl)
    go_enter Try.func23, Try.ntmps23
    go_wp2_with (go_at_call 80; refine HC.out.mono ?_; rintro e w1 ⟨rfl, hb1⟩; have B1 := Lib.hid (bst HB.out hb1 HB.out.size); clear hb1)
    go_ret2
    exact endB_no B1.out (E1.out HE.out) HE.out
  · have G := Lib.hid (G1.out rfl)
    by_cases hm12 : 12 < m
    · have HE := Lib.hid (F2.out hm12)
      have i1 : (12 : Int) < (m : Int) := by omega
      go_enter Try.func23, Try.ntmps23
      go_wp2_with (go_at_call 80; refine HC.out.mono ?_; rintro e w1 ⟨rfl, hb1⟩; have B1 := Lib.hid (bst HB.out hb1 HB.out.size); clear hb1)
      go_ret2
      exact endB_no B1.out (E1.out HE.out) HE.out
    · have i1 : ¬ (12 : Int) < (m : Int) := by omega
      have al := AL.out G.out
      have hn12 := hfl.out G.out
      have HML : Hid (zs.length ≤ 9223372036854775806) := by unfold Hid; rw [HM.out]; omega
      have HLL := Lib.hid (hll.out G.out)
      have F5 : Hid (zs.all (liveB h.l) = true → fromOk h zs = true) := fun k => F4.out rfl (by omega) k
      have K1 : Hid (∀ w', IntsAt w' (.slice va m vc) zs → Calls Try.prog 87 #[.slice va m vc, .int .i64 0, .int .i64 ((n : Int) - 1)] w' fun e w'' => e = .returned (.bool (zs.all (inB 0 ((n : Int) - 1)))) ∧ w' = w'') := fun w' hz => s_l1All _ zs 0 _ w' hz HML.out
      have K2 : Hid (∀ w', IntsAt w' (.slice va m vc) zs → BoolsAt w' b h.l → Calls Try.prog 88 #[b, .slice va m vc] w' fun e w'' => e = .returned (.bool (refsB h.l zs)) ∧ w' = w'') := fun w' hz hl => s_l5Names b _ h.l zs w' hl hz HML.out HLL.out
      clear F4
      generalize hx1 : zs.all (inB 0 ((n : Int) - 1)) = x1 at *
      generalize hx2 : refsB h.l zs = x2 at *
      have AL2 := Lib.hid al
      clear al hx1 hx2 AL
      cases x1
      · have HE := Lib.hid (F3.out AL2.out)
        go_enter Try.func23, Try.ntmps23
        go_wp2_with (first
          | (go_at_call 80; refine HC.out.mono ?_; rintro e w1 ⟨rfl, hb1⟩; have B1 := Lib.hid (bst HB.out hb1 HB.out.size); have A1 := Lib.hid (A0.out.below hb1); have Z1 := Lib.hid (Z0.out.below hb1); have R1 := R0.out.below hb1; have d0 := R1.c0; have d1 := R1.c1; have d2 := R1.c2; clear hb1 R1)
          | (go_at_call 87; refine (K1.out _ Z1.out).mono ?_; rintro e w2 ⟨rfl, rfl⟩))
        go_ret2
        exact endB_no B1.out (E1.out HE.out) HE.out
      · cases x2
        · have HE := Lib.hid (F3.out AL2.out)
          go_enter Try.func23, Try.ntmps23
          go_wp2_with (first
            | (go_at_call 80; refine HC.out.mono ?_; rintro e w1 ⟨rfl, hb1⟩; have B1 := Lib.hid (bst HB.out hb1 HB.out.size); have A1 := Lib.hid (A0.out.below hb1); have Z1 := Lib.hid (Z0.out.below hb1); have R1 := R0.out.below hb1; have d0 := R1.c0; have d1 := R1.c1; have d2 := R1.c2; clear hb1 R1)
            | (go_at_call 87; refine (K1.out _ Z1.out).mono ?_; rintro e w2 ⟨rfl, rfl⟩)
            | (go_at_call 88; refine (K2.out _ Z1.out A1.out.l).mono ?_; rintro e w2 ⟨rfl, rfl⟩))
          go_ret2
          exact endB_no B1.out (E1.out HE.out) HE.out
        · have HALL := Lib.hid AL2.out
          have HE := Lib.hid (F5.out AL2.out)
          go_enter Try.func23, Try.ntmps23
          go_wp2_with (first
            | (go_at_call 80; refine HC.out.mono ?_; rintro e w1 ⟨rfl, hb1⟩; have B1 := Lib.hid (bst HB.out hb1 HB.out.size); have A1 := Lib.hid (A0.out.below hb1); have Z1 := Lib.hid (Z0.out.below hb1); have R1 := R0.out.below hb1; have d0 := R1.c0; have d1 := R1.c1; have d2 := R1.c2; clear hb1 R1)
            | (go_at_call 87; refine (K1.out _ Z1.out).mono ?_; rintro e w2 ⟨rfl, rfl⟩)
            | (go_at_call 88; refine (K2.out _ Z1.out A1.out.l).mono ?_; rintro e w2 ⟨rfl, rfl⟩))
          refine (s_l5From _ b c _ h zs _ A1.out G.out Z1.out (by rw [HM.out]; omega) (fun z hz => .inr (live_inR G.out (List.all_eq_true.1 HALL.out z hz)))).mono ?_
          rintro e w4 ⟨v', rfl, ho4, hb4⟩
          have B4 := Lib.hid (bst B1.out hb4 B1.out.size); have O4 := Lib.hid ho4
          clear hb4 ho4
          go_wp2_with fail
          go_ret2
          exact endB_yes B4.out O4.out B1.out.size (E2.out HE.out) HE.out
end Go.Proofs.Ytkkigoamphkalaa
namespace Go.Proofs.Ytkkigoamphkalaa.Ph
/-- The same roots, the same objects reached, and the same fields of these. -/
def Same (a b : H) : Prop := a.r = b.r ∧ ∀ k, (Reach a.f a.r k ↔ Reach b.f b.r k) ∧ (Reach a.f a.r k → a.f.getD k [] = b.f.getD k [])
noncomputable def sameP (a b : H) : Bool := @decide (Same a b) (Classical.propDecidable _)
theorem sameP_iff {a b : H} : sameP a b = true ↔ Same a b := by unfold sameP; simp
theorem sameP_false {a b : H} (h : ¬ Same a b) : sameP a b = false := by
  cases hq : sameP a b with
  | false => rfl
  | true => exact absurd (sameP_iff.1 hq) h
/-- The project's test is enough. -/
theorem same_of {a b : H} (hr : a.r = b.r) (hf : ∀ k, Reach a.f a.r k → a.f.getD k [] = b.f.getD k []) : Same a b := by
  refine ⟨hr, fun k => ⟨⟨fun h => ?_, fun h => ?_⟩, hf k⟩⟩
  · induction h with
    | root hz => exact .root (by rw [← hr]; exact hz)
    | step hy hk ih => exact .step ih (by rw [← hf _ hy]; exact hk)
  · induction h with
    | root hz => exact .root (by rw [hr]; exact hz)
    | step hy hk ih => exact .step ih (by rw [hf _ ih]; exact hk)
theorem reach_live {h : H} (g : Ph.Good h) {k : Nat} (hk : Reach h.f h.r k) : h.l.getD k false = true ∧ k < h.f.length := by
  have key : ∀ z : Int, (z = -1 ∨ (0 ≤ z ∧ z < h.f.length ∧ h.l.getD z.toNat false = true)) → z = (k : Int) → h.l.getD k false = true ∧ k < h.f.length := fun z hz e => by
    subst e
    rcases hz with h1 | ⟨_, h2, h3⟩
    · omega
    · exact ⟨by simpa using h3, by omega⟩
  cases hk with
  | root hz => exact key _ (refs_bound g g.rr _ hz) rfl
  | step _ hz => exact key _ (g.field hz) rfl
end Go.Proofs.Ytkkigoamphkalaa.Ph
namespace Go.Proofs.Ytkkigoamphkalaa
open Go.RowKit Ph

set_option maxHeartbeats 400000 in
theorem c_slEqual (va vb : Value) (za zb : List Int) (w : World) (hA : IntsAt w va za) (hB : IntsAt w vb zb) (hm : za.length ≤ 9223372036854775806) :
    Calls Try.prog 97 #[va, vb] w fun e w' => e = .returned (.bool (decide (za = zb))) ∧ ∃ n, w' = w.drewN n := by
  obtain ⟨a, ca, rfl, hA⟩ := hA
  obtain ⟨b, cb, rfl, hB⟩ := hB
  by_cases hl : za.length = zb.length
  · rw [← hl] at hB ⊢
    generalize hn : za.length = n at *
    have HN := Lib.hid hn; have HL := Lib.hid hl; clear hn hl
    have hbq : ((n : Int) != (n : Int)) = false := by simp
    by_cases h0 : n = 0
    · subst h0
      obtain rfl : za = [] := List.eq_nil_of_length_eq_zero HN.out
      obtain rfl : zb = [] := List.eq_nil_of_length_eq_zero HL.out.symm
      clear hA hB
      go_enter Try.func97, Try.ntmps97
      go_wp2
      refine wp_loop_rounds 1 ?_
      rw [rounds_succ]
      go_wp2
      go_ret
      exact ⟨rfl, drewN_refl _⟩
    · obtain ⟨ba, oa, rfl, hca⟩ := hA (by omega)
      obtain ⟨bb, ob, rfl, hcb⟩ := hB (by omega)
      clear hA hB
      have HCA := Lib.hid hca; have HCB := Lib.hid hcb; clear hca hcb
      go_enter Try.func97, Try.ntmps97
      go_wp2
      go_loopw [13] (fun i wr => ∃ k : Nat, k ≤ n ∧ i = .int .i64 k ∧ Hid (za.take k = zb.take k) ∧ ∃ n, wr = w.drewN n) (fun i _ => n - (intOf i).toNat)
      case atStart => exact ⟨0, Nat.zero_le _, rfl, by simp [Hid], drewN_refl _⟩
      case round =>
        obtain ⟨k, hk, rfl, ht, nd, rfl⟩ := hrel
        by_cases hlt : k < n
        · have q1 := HCA.out k hlt
          have q2 := HCB.out k hlt
          have i1 : (k : Int) < (n : Int) := by omega
          generalize hx : za.getD k 0 = x at q1
          generalize hy : zb.getD k 0 = y at q2
          have HX := Lib.hid hx; have HY := Lib.hid hy; clear hx hy
          by_cases exy : x = y
          · subst exy
            go_wp2
            go_quiet (fail)
            go_wp2
            go_roundw
            case rel => exact ⟨k + 1, by omega, by go_num, take_eq_succ ht.out (by rw [HN.out]; exact hlt) (by rw [← HL.out]; exact hlt) (HX.out.trans HY.out.symm), nd + nq, by simp⟩
            case measure => simp [intOf]; omega
          · have hne : (x != y) = true := by rw [bne_iff_ne]; exact exy
            have HNE : Hid (decide (za = zb) = false) := decide_eq_false (ne_of_getD (k := k) (by rw [HX.out, HY.out]; exact exy))
            clear exy
            go_wp2
            go_quiet (fail)
            go_wp2
            go_ret
            exact ⟨r_b HNE.out.symm, nd + nq, by simp⟩
        · have HE : Hid (decide (za = zb) = true) := decide_eq_true (take_all_eq (n := k) (by rw [HN.out]; omega) (by rw [← HL.out]; omega) ht.out)
          go_wp2
          go_ret
          exact ⟨r_b HE.out.symm, _, rfl⟩
  · generalize hna : za.length = na at *
    generalize hnb : zb.length = nb at *
    have hbq : ((na : Int) != (nb : Int)) = true := by rw [bne_iff_ne]; omega
    have HN : Hid (decide (za = zb) = false) := decide_eq_false (fun h => hl (by rw [← hna, ← hnb, h]))
    clear hl hA hB hna hnb
    go_enter Try.func97, Try.ntmps97
    go_wp2
    go_ret
    exact ⟨r_b HN.out.symm, drewN_refl _⟩
set_option maxHeartbeats 400000 in
theorem s_l1Same (va vb : Value) (za zb : List Int) (w : World) (hA : IntsAt w va za) (hB : IntsAt w vb zb) (hm : za.length ≤ 9223372036854775806) :
    Calls Try.prog 143 #[va, vb] w fun e w' => e = .returned (.bool (decide (za = zb))) ∧ ∃ n, w' = w.drewN n := by
  obtain ⟨a, ca, rfl, hA⟩ := hA
  obtain ⟨b, cb, rfl, hB⟩ := hB
  by_cases hl : za.length = zb.length
  · rw [← hl] at hB ⊢
    generalize hn : za.length = n at *
    have HN := Lib.hid hn; have HL := Lib.hid hl; clear hn hl
    have hbq : ((n : Int) != (n : Int)) = false := by simp
    by_cases h0 : n = 0
    · subst h0
      obtain rfl : za = [] := List.eq_nil_of_length_eq_zero HN.out
      obtain rfl : zb = [] := List.eq_nil_of_length_eq_zero HL.out.symm
      clear hA hB
      go_enter Try.func143, Try.ntmps143
      go_wp2
      refine wp_loop_rounds 1 ?_
      rw [rounds_succ]
      go_wp2
      go_ret
      exact ⟨rfl, drewN_refl _⟩
    · obtain ⟨ba, oa, rfl, hca⟩ := hA (by omega)
      obtain ⟨bb, ob, rfl, hcb⟩ := hB (by omega)
      clear hA hB
      have HCA := Lib.hid hca; have HCB := Lib.hid hcb; clear hca hcb
      go_enter Try.func143, Try.ntmps143
      go_wp2
      go_loopw [13] (fun i wr => ∃ k : Nat, k ≤ n ∧ i = .int .i64 k ∧ Hid (za.take k = zb.take k) ∧ ∃ n, wr = w.drewN n) (fun i _ => n - (intOf i).toNat)
      case atStart => exact ⟨0, Nat.zero_le _, rfl, by simp [Hid], drewN_refl _⟩
      case round =>
        obtain ⟨k, hk, rfl, ht, nd, rfl⟩ := hrel
        by_cases hlt : k < n
        · have q1 := HCA.out k hlt
          have q2 := HCB.out k hlt
          have i1 : (k : Int) < (n : Int) := by omega
          generalize hx : za.getD k 0 = x at q1
          generalize hy : zb.getD k 0 = y at q2
          have HX := Lib.hid hx; have HY := Lib.hid hy; clear hx hy
          by_cases exy : x = y
          · subst exy
            go_wp2
            go_quiet (fail)
            go_wp2
            go_roundw
            case rel => exact ⟨k + 1, by omega, by go_num, take_eq_succ ht.out (by rw [HN.out]; exact hlt) (by rw [← HL.out]; exact hlt) (HX.out.trans HY.out.symm), nd + nq, by simp⟩
            case measure => simp [intOf]; omega
          · have hne : (x != y) = true := by rw [bne_iff_ne]; exact exy
            have HNE : Hid (decide (za = zb) = false) := decide_eq_false (ne_of_getD (k := k) (by rw [HX.out, HY.out]; exact exy))
            clear exy
            go_wp2
            go_quiet (fail)
            go_wp2
            go_ret
            exact ⟨r_b HNE.out.symm, nd + nq, by simp⟩
        · have HE : Hid (decide (za = zb) = true) := decide_eq_true (take_all_eq (n := k) (by rw [HN.out]; omega) (by rw [← HL.out]; omega) ht.out)
          go_wp2
          go_ret
          exact ⟨r_b HE.out.symm, _, rfl⟩
  · generalize hna : za.length = na at *
    generalize hnb : zb.length = nb at *
    have hbq : ((na : Int) != (nb : Int)) = true := by rw [bne_iff_ne]; omega
    have HN : Hid (decide (za = zb) = false) := decide_eq_false (fun h => hl (by rw [← hna, ← hnb, h]))
    clear hl hA hB hna hnb
    go_enter Try.func143, Try.ntmps143
    go_wp2
    go_ret
    exact ⟨r_b HN.out.symm, drewN_refl _⟩
end Go.Proofs.Ytkkigoamphkalaa
namespace Go.Proofs.Ytkkigoamphkalaa.Ph
/-- The first index, from k on, that is not live (so far all below k are). -/
def placeOf (l : List Bool) : Nat := l.findIdx (fun b => !b)
theorem place_le (l : List Bool) : placeOf l ≤ l.length := List.findIdx_le_length
theorem place_of {l : List Bool} {k : Nat} (hk : k < l.length) (h1 : ∀ i, i < k → l.getD i false = true) (h2 : l.getD k false = false) : placeOf l = k := by
  unfold placeOf
  have e : l[k] = false := by simpa [List.getD, List.getElem?_eq_getElem hk] using h2
  refine (List.findIdx_eq hk).2 ⟨by rw [e]; rfl, fun j hj => ?_⟩
  have := h1 j hj
  have hj' : j < l.length := by omega
  have e2 : l[j] = true := by simpa [List.getD, List.getElem?_eq_getElem hj'] using this
  rw [e2]; rfl
theorem place_none {l : List Bool} (h1 : ∀ i, i < l.length → l.getD i false = true) : placeOf l = l.length := by
  unfold placeOf
  rw [List.findIdx_eq_length]
  intro x hx
  obtain ⟨i, hi, rfl⟩ := List.getElem_of_mem hx
  have := h1 i hi
  have e : l[i] = true := by simpa [List.getD, List.getElem?_eq_getElem hi] using this
  rw [e]; rfl
end Go.Proofs.Ytkkigoamphkalaa.Ph
namespace Go.Proofs.Ytkkigoamphkalaa
open Go.RowKit Ph

theorem op_app {P : Program} {o : Oper} {q : Act} {w w' : World} {K : Act → World → Prop} {Q : Exit → Act → World → Prop} {vs vx v' : Value} (s x : Operand) (t : TypeId) (hop : o.op = Op.call { callee := Callee.builtin Builtin.append, args := #[s, x], argTypes := #[t, t] }) (hs : q.eval s = vs) (hx : q.eval x = vx)
    (hrun : (Builtin.append_ #[t, t] o.type #[vs, vx]).run P w = .ok v' w') (h : K (q.put o.dst v') w') : Oper.wp P o q w K Q := by
  unfold Oper.wp
  simp [execOp, hop, resolve, invoke, builtin, hs, hx, hrun, Result.andThen]
  exact h
/-- A copy under way: what is live, and the roots. -/
structure OwnSt (w W : World) (fa la ra vA vB : Value) (lA : List Bool) (rB : List Int) : Prop where
  ow : OwnH W w.heap.size W.heap.size (.slice none 0 0) vA vB ⟨[], lA, rB⟩
  rp : RowH W w.heap.size fa la ra
  r2 : RowH W (w.heap.size + 1) (.slice none 0 0) (.slice none 0 0) (.slice none 0 0)
  l : Below w.heap.size w W
  sz : w.heap.size + 2 ≤ W.heap.size
section
variable {w W : World} {fa la ra vA vB : Value} {lA : List Bool} {rB : List Int}
theorem own_empty (W : World) (T : TypeId) : (W.alloc (.cells #[] T)).ownsRow W.heap.size T 1 (.slice (some ⟨W.heap.size, 0, none⟩) 0 0) 0 [] := ⟨rfl, .inr ⟨W.heap.size, 0, #[], rfl, Nat.le_refl _, heap_alloc_new _ _, Nat.le_refl _, by unfold maxLen; omega, rfl, rfl⟩⟩
theorem OwnSt.allocB (k : OwnSt w W fa la ra (.slice none 0 0) vB [] rB) : OwnSt w (W.alloc (.cells #[] 4)) fa la ra (.slice (some ⟨W.heap.size, 0, none⟩) 0 0) vB [] rB :=
  ⟨(k.ow.below (below1 W _)).addLive (own_empty W 4) (by have := k.sz; omega) (by simp), Row.alloc k.rp _, Row.alloc k.r2 _, k.l.alloc k.l.size _, by have := k.sz; simp; omega⟩
theorem OwnSt.allocI (k : OwnSt w W fa la ra vA (.slice none 0 0) lA []) : OwnSt w (W.alloc (.cells #[] 3)) fa la ra vA (.slice (some ⟨W.heap.size, 0, none⟩) 0 0) lA [] :=
  ⟨(k.ow.below (below1 W _)).addRoots (own_empty W 3) (by have := k.sz; omega) (by simp), Row.alloc k.rp _, Row.alloc k.r2 _, k.l.alloc k.l.size _, by have := k.sz; simp; omega⟩
theorem OwnSt.allocC (k : OwnSt w W fa la ra vA vB lA rB) : OwnSt w (W.alloc (.cells (c3 (.slice none 0 0) (.slice none 0 0) (.slice none 0 0)) 30)) fa la ra vA vB lA rB :=
  ⟨(k.ow.below (below1 W _)).wide (Nat.le_refl _) (by simp), Row.alloc k.rp _, Row.alloc k.r2 _, k.l.alloc k.l.size _, by have := k.sz; simp; omega⟩
theorem own_store {g : Nat} {a0 b0 c0 : Value} (k : OwnSt w W fa la ra vA vB lA rB) (hr : RowH W g a0 b0 c0) (hg : w.heap.size + 2 ≤ g) (x y z : Value) : OwnSt w (((W.setCell ⟨g, 0, none⟩ x).setCell ⟨g, 1, none⟩ y).setCell ⟨g, 2, none⟩ z) fa la ra vA vB lA rB :=
  ⟨by simp only [World.size_setCell]; exact k.ow.set3 hr x y z, Row.other (Row.other (Row.other k.rp ⟨g, 0, none⟩ (by simp; omega) x) ⟨g, 1, none⟩ (by simp; omega) y) ⟨g, 2, none⟩ (by simp; omega) z, Row.other (Row.other (Row.other k.r2 ⟨g, 0, none⟩ (by simp; omega) x) ⟨g, 1, none⟩ (by simp; omega) y) ⟨g, 2, none⟩ (by simp; omega) z, below_set3 k.l (by omega) x y z, by simp only [World.size_setCell]; exact k.sz⟩
theorem row_grown {W' : World} {B g : Nat} {T : TypeId} {v : Value} {n : Nat} {xs : List Value} {cs : Array Value} (ho : W.ownsRow B T 1 v n xs) (hT : T ≠ 30) (hg : W.grownBy W' v.ownBlock) (hr : Row W g 30 cs) : Row W' g 30 cs :=
  (hg.block g hr.lt (fun e => owns_ne_row ho hr hT e.symm rfl)).trans hr
theorem grown_below {W' : World} {B : Nat} {T : TypeId} {v : Value} {n : Nat} {xs : List Value} (hb : Below B w W) (hB : B ≤ W.heap.size) (ho : W.ownsRow B T 1 v n xs) (hg : W.grownBy W' v.ownBlock) : Below B w W' := hb.grown hg hB (fun _ hk => (owns_lt ho hk).1)
theorem OwnSt.appB {bs : List Bool} (k : OwnSt w W fa la ra vA vB [] rB) (hs : BoolsAt w la bs) (hm : bs.length ≤ 1048576) (ty : TypeId) : ∃ v' W', (Builtin.append_ #[23, 23] ty #[vA, la]).run Try.prog W = .ok v' W' ∧ OwnSt w W' fa la ra v' vB bs rB ∧ ∀ g a b c, RowH W g a b c → RowH W' g a b c := by
  obtain ⟨i0, hi, hz0, hz1, hz2⟩ := info_parts info_boolz
  obtain ⟨us, hf⟩ := k.ow
  have ho : W.ownsRow w.heap.size 4 1 vA 0 [] := hf.live
  obtain ⟨v', W', hr, h1, h2, h3⟩ := run_appOwn (P := Try.prog) W w.heap.size 23 ty 4 i0 (.bool false) 1 Try.underlying23 hi hz0 hz1 hz2 rfl vA 0 [] ho la _ (hs.below k.l).src (by rw [List.length_map]; unfold maxLen; omega) (by rw [List.length_map]; omega) (by have := k.sz; omega)
  rw [List.nil_append, Nat.zero_add, List.length_map] at h1
  refine ⟨v', W', hr, ⟨⟨us, hf.turnLive h2 h1 h2.size (fun g hg => ?_)⟩, row_grown ho (by decide) h2 k.rp, row_grown ho (by decide) h2 k.r2, grown_below k.l (by have := k.sz; omega) ho h2, Nat.le_trans k.sz h2.size⟩, fun g a b c hr => row_grown ho (by decide) h2 hr⟩
  rcases h3 with h3 | h3
  · exact .inr (by rw [← h3]; exact hg)
  · rw [hg] at h3; cases h3; exact .inl ⟨Nat.le_refl _, (owns_lt h1 hg).2⟩
theorem OwnSt.appI {zs : List Int} (k : OwnSt w W fa la ra vA vB lA []) (hs : IntsAt w ra zs) (hm : zs.length ≤ 1048576) (ty : TypeId) : ∃ v' W', (Builtin.append_ #[24, 24] ty #[vB, ra]).run Try.prog W = .ok v' W' ∧ OwnSt w W' fa la ra vA v' lA zs ∧ ∀ g a b c, RowH W g a b c → RowH W' g a b c := by
  obtain ⟨i0, hi, hz0, hz1, hz2⟩ := info_parts info_int
  obtain ⟨us, hf⟩ := k.ow
  have ho : W.ownsRow w.heap.size 3 1 vB 0 [] := hf.roots
  obtain ⟨v', W', hr, h1, h2, h3⟩ := run_appOwn (P := Try.prog) W w.heap.size 24 ty 3 i0 (.int .i64 0) 8 Try.underlying24 hi hz0 hz1 hz2 rfl vB 0 [] ho ra _ (hs.below k.l).src (by rw [List.length_map]; unfold maxLen; omega) (by rw [List.length_map]; omega) (by have := k.sz; omega)
  rw [List.nil_append, Nat.zero_add, List.length_map] at h1
  refine ⟨v', W', hr, ⟨⟨us, hf.turnRoots h2 h1 h2.size (fun g hg => ?_)⟩, row_grown ho (by decide) h2 k.rp, row_grown ho (by decide) h2 k.r2, grown_below k.l (by have := k.sz; omega) ho h2, Nat.le_trans k.sz h2.size⟩, fun g a b c hr => row_grown ho (by decide) h2 hr⟩
  rcases h3 with h3 | h3
  · exact .inr (by rw [← h3]; exact hg)
  · rw [hg] at h3; cases h3; exact .inl ⟨Nat.le_refl _, (owns_lt h1 hg).2⟩
end
end Go.Proofs.Ytkkigoamphkalaa
namespace Go.Proofs.Ytkkigoamphkalaa
open Go.RowKit Ph

theorem src_one (W : World) (y : Value) (hy : y.oneCell' = true) : SrcAt (W.alloc (.cells #[y] 24)) (.slice (some ⟨W.heap.size, 0, none⟩) 1 1) [y] :=
  ⟨_, 1, rfl, fun u hu => by simp at hu; rw [hu]; exact hy, fun _ => ⟨W.heap.size, 0, rfl, fun j hj => by simp at hj; subst hj; exact Row.cell (Row.new W 24 #[y]) 0⟩⟩
structure Lp (w W : World) (gC hi0 : Nat) (A B C : Value) (h : H) : Prop where
  rw' : RowH W gC A B C
  ow : OwnH W w.heap.size hi0 A B C h
  r2 : RowH W (w.heap.size + 1) (.slice none 0 0) (.slice none 0 0) (.slice none 0 0)
  l : Below w.heap.size w W
  hi : hi0 ≤ W.heap.size
  lo : w.heap.size + 2 ≤ hi0
section
variable {w W : World} {gC hi0 : Nat} {A B C : Value} {h : H}
theorem Lp.alloc (k : Lp w W gC hi0 A B C h) (o : Obj) : Lp w (W.alloc o) gC hi0 A B C h :=
  ⟨Row.alloc k.rw' o, k.ow.below (below1 W o), Row.alloc k.r2 o, k.l.alloc (by have := k.hi; have := k.lo; omega) o, by have := k.hi; simp; omega, k.lo⟩
theorem Lp.app {x y : Value} {zs : List Int} (k : Lp w W gC hi0 A B C h) (e : W.ownsRow hi0 3 1 y 0 []) (hs : IntsAt w x zs) (hm : zs.length ≤ 1048576) (ty : TypeId) :
    ∃ v' W', (Builtin.append_ #[24, 24] ty #[y, x]).run Try.prog W = .ok v' W' ∧ Lp w W' gC hi0 A B C h ∧ Own W' hi0 v' zs := by
  obtain ⟨i0, hi, hz0, hz1, hz2⟩ := info_parts info_int
  obtain ⟨v', W', hr, h1, h2, _⟩ := run_appOwn (P := Try.prog) W hi0 24 ty 3 i0 (.int .i64 0) 8 Try.underlying24 hi hz0 hz1 hz2 rfl y 0 [] e x _ (hs.below k.l).src (by rw [List.length_map]; unfold maxLen; omega) (by rw [List.length_map]; omega) k.hi
  rw [List.nil_append, Nat.zero_add, List.length_map] at h1
  have hlo := k.lo
  have hch : Chg hi0 W.heap.size W W' := Chg.of_grown h2 fun g hg => owns_lt e hg
  refine ⟨v', W', hr, ⟨row_grown e (by decide) h2 k.rw', k.ow.chg hch (.inl (Nat.le_refl _)), row_grown e (by decide) h2 k.r2, below_chg k.l hch (by omega) (by have := k.hi; omega), Nat.le_trans k.hi h2.size, k.lo⟩, h1⟩
theorem Lp.grow {y z : Value} {zs : List Int} (k : Lp w W gC hi0 A B C h) (e : Own W hi0 y zs) (hz : SrcAt W z [y]) (hn : h.f.length ≤ 1000) (ty : TypeId) :
    ∃ v' W', (Builtin.append_ #[22, 22] ty #[A, z]).run Try.prog W = .ok v' W' ∧ RowH W' gC A B C ∧ OwnH W' w.heap.size W'.heap.size v' B C ⟨h.f ++ [zs], h.l, h.r⟩ ∧ RowH W' (w.heap.size + 1) (.slice none 0 0) (.slice none 0 0) (.slice none 0 0) ∧ Below w.heap.size w W' ∧ w.heap.size + 2 ≤ W'.heap.size ∧ ∃ pa qa, v' = .slice pa (h.f.length + 1) qa := by
  obtain ⟨i0, hi, hz0, hz1, hz2⟩ := info_parts info_ints
  obtain ⟨us, hf⟩ := k.ow
  have ho := hf.outer
  obtain ⟨v', W', hr, h1, h2, h3⟩ := run_appOwn (P := Try.prog) W w.heap.size 22 ty 24 i0 (.slice none 0 0) 24 Try.underlying22 hi hz0 hz1 hz2 rfl A h.f.length _ ho z [y] hz (by simp; unfold maxLen; omega) (by simp; omega) (by have := k.hi; have := k.lo; omega)
  have hlo := k.lo
  have hhi := k.hi
  have h1' : W'.ownsRow w.heap.size 24 1 v' (h.f.length + 1) ((List.range h.f.length).map us ++ [y]) := h1
  refine ⟨v', W', hr, row_grown ho (by decide) h2 k.rw', ⟨_, hf.growRow (hi1 := W.heap.size) (e.mono (by omega)) (fun g hg => owns_lt e hg) hhi h2 h1' h2.size (fun g hg => ?_)⟩, row_grown ho (by decide) h2 k.r2, grown_below k.l (by omega) ho h2, by have := h2.size; omega, ?_⟩
  · rcases h3 with h3 | h3
    · exact .inr (by rw [← h3]; exact hg)
    · rw [hg] at h3; cases h3; exact .inl ⟨Nat.le_refl _, (owns_lt h1' hg).2⟩
  · rcases h1'.2 with ⟨_, h0⟩ | ⟨g, cap, cur, hv, _⟩
    · omega
    · exact ⟨_, _, hv⟩
end
end Go.Proofs.Ytkkigoamphkalaa
namespace Go.Proofs.Ytkkigoamphkalaa.Ph
def put1 (h : H) (p : Nat) (m : Nat) : H := ⟨h.f.set p (List.replicate m (-1)), h.l.set p true, h.r⟩
end Go.Proofs.Ytkkigoamphkalaa.Ph
namespace Go.Proofs.Ytkkigoamphkalaa
open Go.RowKit Ph

theorem src_bool (W : World) (b : Bool) : SrcAt (W.alloc (.cells #[.bool b] 4)) (.slice (some ⟨W.heap.size, 0, none⟩) 1 1) ([b].map Value.bool) :=
  ⟨_, 1, rfl, fun u hu => by simp at hu; rw [hu]; rfl, fun _ => ⟨W.heap.size, 0, rfl, fun j hj => by simp at hj; subst hj; exact Row.cell (Row.new W 4 #[.bool b]) 0⟩⟩
theorem wl_appRun {P : Program} {w w' : World} {ops : Array Oper} {rest : List Oper} {o : Oper} {q : Act} {Q : Exit → Act → World → Prop} {vs vx v' : Value} (hgd : o.guard = none) (s x : Operand) (t : TypeId) (hop : o.op = Op.call { callee := Callee.builtin Builtin.append, args := #[s, x], argTypes := #[t, t] }) (hs : q.eval s = vs) (hx : q.eval x = vx)
    (hrun : (Builtin.append_ #[t, t] o.type #[vs, vx]).run P w = .ok v' w') (h : wpList P ops Q rest (q.put o.dst v') w') : wpList P ops Q (o :: rest) q w := wpList_plain hgd fun _ hK => op_app s x t hop hs hx hrun (hK _ _ h)
/-- A new row stored in a heap that is the call's own. -/
theorem putRow1 {w : World} {lo hi : Nat} {a b c : Value} {h : H} (k : OwnH w lo hi a b c h) {j : Nat} (hj : j < h.f.length) {u : Value} {zs : List Int} (ho : Own w hi u zs) (hl : lo ≤ hi) (hs : hi ≤ w.heap.size) : ∃ ga ca x, a = .slice (some ⟨ga, 0, none⟩) h.f.length ca ∧ w.cell? ⟨ga, j, none⟩ = some x ∧ w.frozen? ⟨ga, j, none⟩ = false ∧ lo ≤ ga ∧ (∀ g cs, Row w g 30 cs → ga ≠ g) ∧ OwnH (w.setCell ⟨ga, j, none⟩ u) lo w.heap.size a b c ⟨h.f.set j zs, h.l, h.r⟩ := by
  obtain ⟨us, hf⟩ := k
  rcases hf.shape with ⟨_, h0⟩ | ⟨ga, ca, ha⟩
  · rw [h0] at hj; simp at hj
  obtain ⟨c1, f1⟩ := hf.cell ha hj
  obtain ⟨s1, _⟩ := hf.putRow hj (ho.mono hl) hs (fun g hg => .inl (owns_lt ho hg)) ha
  have := Fam.blk hf (k := 0) (g := ga) (by omega) (by show a.ownBlock = _; rw [ha]; rfl)
  exact ⟨ga, ca, _, ha, c1, f1, this.1, fun g cs hr => owns_ne_row hf.outer hr (by decide) (by rw [ha]; rfl), ⟨_, s1⟩⟩
end Go.Proofs.Ytkkigoamphkalaa
namespace Go.Proofs.Ytkkigoamphkalaa
open Go.RowKit Ph

theorem OwnH.liveNe {w : World} {lo hi gb n cb g : Nat} {a c : Value} {h : H} {cs : Array Value} (k : OwnH w lo hi a (.slice (some ⟨gb, 0, none⟩) n cb) c h) (hr : Row w g 30 cs) : gb ≠ g := by
  obtain ⟨us, hf⟩ := k
  exact owns_ne_row hf.live hr (by decide) rfl
end Go.Proofs.Ytkkigoamphkalaa
namespace Go.Proofs.Ytkkigoamphkalaa
open Go.RowKit Ph

theorem fam_keepRow {w w' : World} {lo hi n g : Nat} {v : Nat → Value} {cs : Nat → List Value} {ds : Array Value} (k : Fam w lo hi n tyH v cs) (hr : Row w g 30 ds) (hb : ∀ i, i ≠ g → i < w.heap.size → w'.heap[i]? = w.heap[i]?) : Fam w' lo hi n tyH v cs :=
  ⟨fun j hj => owns_block (k.own j hj) fun g' hg' => hb g' (owns_ne_row (k.own j hj) hr (tyH_ne j) hg') (owns_lt (k.own j hj) hg').2, k.lt, k.ap⟩
def OwnX (w : World) (lo hi : Nat) (a b c u : Value) (h : H) (zs : List Int) : Prop := ∃ us, Fam w lo hi (h.f.length + 3 + 1) tyH (upd (vH a b c us) (h.f.length + 3) u) (upd (cH us h) (h.f.length + 3) (zs.map (Value.int .i64)))
section
variable {w : World} {lo hi hi' : Nat} {a b c u : Value} {h : H} {zs : List Int}
theorem OwnX.of (k : OwnH w lo hi a b c h) (ho : Own w lo u zs) (hu : ∀ g, u.ownBlock = some g → hi ≤ g ∧ g < hi') (hh : hi ≤ hi') : OwnX w lo hi' a b c u h zs := by
  obtain ⟨us, k⟩ := k
  exact ⟨us, Fam.grow k (u := u) (ds := zs.map (Value.int .i64)) (by simp only [tyH, List.length_map]; exact ho) hh hu⟩
theorem OwnX.cellRow {g : Nat} {cs : Array Value} (k : OwnX w lo hi a b c u h zs) (hr : Row w g 30 cs) (j : Nat) (x : Value) : OwnX (w.setCell ⟨g, j, none⟩ x) lo hi a b c u h zs := by
  obtain ⟨us, k⟩ := k
  exact ⟨us, fam_keepRow k hr fun i hi _ => heap_setCell_other w ⟨g, j, none⟩ i _ hi⟩
theorem OwnX.live (k : OwnX w lo hi a b c u h zs) (hl : lo ≤ hi) (hs : hi ≤ w.heap.size) (hn : h.l.length ≤ 1000) (x : Bool) (ty : TypeId) :
    ∃ v1 w1, (Builtin.append_ #[23, 23] ty #[b, .slice (some ⟨w.heap.size, 0, none⟩) 1 1]).run Try.prog (w.alloc (.cells #[.bool x] 4)) = .ok v1 w1 ∧ OwnX w1 lo w1.heap.size a v1 c u ⟨h.f, h.l ++ [x], h.r⟩ zs ∧ (∀ g cs, Row w g 30 cs → Row w1 g 30 cs) ∧ (∀ B w0, B ≤ lo → Below B w0 w → Below B w0 w1) ∧ w.heap.size ≤ w1.heap.size ∧ ∃ p q, v1 = .slice p (h.l.length + 1) q := by
  obtain ⟨i0, hi0, hz0, hz1, hz2⟩ := info_parts info_boolz
  obtain ⟨us, hf0⟩ := k
  have hf := Fam.below hf0 (below1 w (.cells #[.bool x] 4))
  have ho : OwnBs (w.alloc (.cells #[.bool x] 4)) lo b h.l := by
    have := hf.own 1 (by omega)
    rw [upd_other _ _ (by omega), upd_other _ _ (by omega)] at this
    simp only [tyH, vH, cH, List.length_map] at this
    exact this
  obtain ⟨v', W', hr, h1, h2, h3⟩ := run_appOwn (P := Try.prog) (w.alloc (.cells #[.bool x] 4)) lo 23 ty 4 i0 (.bool false) 1 Try.underlying23 hi0 hz0 hz1 hz2 rfl b h.l.length _ ho _ _ (src_bool w x) (by simp; unfold maxLen; omega) (by simp; omega) (by simp; omega)
  have h1' : OwnBs W' lo v' (h.l ++ [x]) := by unfold OwnBs; rw [List.map_append, List.length_append]; exact h1
  have hsz : (w.alloc (.cells #[.bool x] 4)).heap.size = w.heap.size + 1 := World.size_alloc _ _
  have h2s := h2.size
  have k2 := Fam.turn hf (k := 1) (by omega) (u := v') (ds := (h.l ++ [x]).map Value.bool) (hi' := W'.heap.size) (by rw [upd_other _ _ (by omega)]; exact h2) (by simp only [tyH, List.length_map]; exact h1') (by omega) (fun g hg => by
    rw [upd_other _ _ (by omega)]
    rcases h3 with h3 | h3
    · exact .inr (show b.ownBlock = some g from h3.symm.trans hg)
    · rw [hg] at h3; cases h3; exact .inl ⟨by omega, (owns_lt h1' hg).2⟩)
  refine ⟨v', W', hr, ⟨us, k2.congr (fun j hj => ?_) fun j hj => ?_⟩, fun g cs hr => row_grown ho (by decide) h2 (Row.alloc hr _), fun B w0 hB hb => (hb.alloc (by omega) _).grown h2 (by omega) (fun g hg => by have := (owns_lt ho hg).1; omega), by omega, ?_⟩
  · by_cases e1 : j = 1
    · subst e1; rw [upd_same, upd_other _ _ (by omega)]; rfl
    · rw [upd_other _ _ e1]
      by_cases e2 : j = h.f.length + 3
      · subst e2; rw [upd_same, upd_same]
      · rw [upd_other _ _ e2, upd_other _ _ e2]
        match j with
        | 0 => rfl
        | 1 => exact absurd rfl e1
        | 2 => rfl
        | j + 3 => rfl
  · by_cases e1 : j = 1
    · subst e1; rw [upd_same, upd_other _ _ (by omega)]; rfl
    · rw [upd_other _ _ e1]
      by_cases e2 : j = h.f.length + 3
      · subst e2; rw [upd_same, upd_same]
      · rw [upd_other _ _ e2, upd_other _ _ e2]
        match j with
        | 0 => rfl
        | 1 => exact absurd rfl e1
        | 2 => rfl
        | j + 3 => rfl
  · rcases h1.2 with ⟨_, h0⟩ | ⟨g, cap, cur, hv, _⟩
    · simp at h0
    · exact ⟨_, _, hv⟩
theorem OwnX.rows (k : OwnX w lo hi a b c u h zs) (hl : lo ≤ hi) (hs : hi ≤ w.heap.size) (hn : h.f.length ≤ 1000) (hu1 : u.oneCell' = true) (ty : TypeId) :
    ∃ v1 w1, (Builtin.append_ #[22, 22] ty #[a, .slice (some ⟨w.heap.size, 0, none⟩) 1 1]).run Try.prog (w.alloc (.cells #[u] 24)) = .ok v1 w1 ∧ OwnH w1 lo w1.heap.size v1 b c ⟨h.f ++ [zs], h.l, h.r⟩ ∧ (∀ g cs, Row w g 30 cs → Row w1 g 30 cs) ∧ (∀ B w0, B ≤ lo → Below B w0 w → Below B w0 w1) ∧ w.heap.size ≤ w1.heap.size := by
  obtain ⟨i0, hi0, hz0, hz1, hz2⟩ := info_parts info_ints
  obtain ⟨us, hf0⟩ := k
  have hf := Fam.below hf0 (below1 w (.cells #[u] 24))
  have ho : (w.alloc (.cells #[u] 24)).ownsRow lo 24 1 a h.f.length ((List.range h.f.length).map us) := by
    have := hf.own 0 (by omega)
    rw [upd_other _ _ (by omega), upd_other _ _ (by omega)] at this
    simp only [tyH, vH, cH, List.length_map, List.length_range] at this
    exact this
  obtain ⟨v', W', hr, h1, h2, h3⟩ := run_appOwn (P := Try.prog) (w.alloc (.cells #[u] 24)) lo 22 ty 24 i0 (.slice none 0 0) 24 Try.underlying22 hi0 hz0 hz1 hz2 rfl a h.f.length _ ho _ [u] (src_one w _ hu1) (by simp; unfold maxLen; omega) (by simp; omega) (by simp; omega)
  have h1' : W'.ownsRow lo 24 1 v' (h.f.length + 1) ((List.range h.f.length).map us ++ [u]) := h1
  have hsz : (w.alloc (.cells #[u] 24)).heap.size = w.heap.size + 1 := World.size_alloc _ _
  have h2s := h2.size
  have k2 := Fam.turn hf (k := 0) (by omega) (u := v') (ds := (List.range h.f.length).map us ++ [u]) (hi' := W'.heap.size) (by rw [upd_other _ _ (by omega)]; exact h2) (by simp only [tyH, List.length_append, List.length_map, List.length_range, List.length_singleton]; exact h1') (by omega) (fun g hg => by
    rw [upd_other _ _ (by omega)]
    rcases h3 with h3 | h3
    · exact .inr (show a.ownBlock = some g from h3.symm.trans hg)
    · rw [hg] at h3; cases h3; exact .inl ⟨by omega, (owns_lt h1' hg).2⟩)
  refine ⟨v', W', hr, ⟨upd us h.f.length u, ?_⟩, fun g cs hr => row_grown ho (by decide) h2 (Row.alloc hr _), fun B w0 hB hb => (hb.alloc (by omega) _).grown h2 (by omega) (fun g hg => by have := (owns_lt ho hg).1; omega), by omega⟩
  unfold FamH
  have e : (h.f ++ [zs]).length + 3 = h.f.length + 3 + 1 := by simp
  rw [e]
  refine k2.congr (fun j hj => ?_) fun j hj => ?_
  · match j with
    | 0 => rw [upd_same]; rfl
    | 1 => rw [upd_other _ _ (by omega), upd_other _ _ (by omega)]; rfl
    | 2 => rw [upd_other _ _ (by omega), upd_other _ _ (by omega)]; rfl
    | j + 3 =>
      rw [upd_other _ _ (by omega)]
      by_cases e : j = h.f.length
      · subst e; rw [upd_same]; simp only [vH]; rw [upd_same]
      · rw [upd_other _ _ (by omega)]; simp only [vH]; rw [upd_other _ _ e]
  · match j with
    | 0 =>
      rw [upd_same]; simp only [cH, List.length_append, List.length_singleton]
      rw [List.range_succ, List.map_append]
      have e1 : (List.range h.f.length).map (upd us h.f.length u) = (List.range h.f.length).map us := List.map_congr_left fun x hx => by
        have : x < h.f.length := by simpa using hx
        rw [upd_other _ _ (by omega)]
      rw [e1, List.map_singleton, upd_same]
    | 1 => rw [upd_other _ _ (by omega), upd_other _ _ (by omega)]; rfl
    | 2 => rw [upd_other _ _ (by omega), upd_other _ _ (by omega)]; rfl
    | j + 3 =>
      rw [upd_other _ _ (by omega)]
      by_cases e : j = h.f.length
      · subst e; rw [upd_same]; simp [cH]
      · rw [upd_other _ _ (by omega)]; simp only [cH]
        have : j < h.f.length := by omega
        simp [List.getD, List.getElem?_append_left this]
end
end Go.Proofs.Ytkkigoamphkalaa
namespace Go.Proofs.Ytkkigoamphkalaa.Ph

theorem getD_memI {zs : List Int} {i : Nat} (h : i < zs.length) : zs.getD i 0 ∈ zs := by
  have e : zs.getD i 0 = zs[i] := by simp [List.getD, List.getElem?_eq_getElem h]
  rw [e]; exact List.getElem_mem h
end Go.Proofs.Ytkkigoamphkalaa.Ph
namespace Go.Proofs.Ytkkigoamphkalaa
open Go.RowKit Ph

theorem src_int (W : World) (x : Int) : SrcAt (W.alloc (.cells #[.int .i64 x] 3)) (.slice (some ⟨W.heap.size, 0, none⟩) 1 1) ([x].map (Value.int .i64)) :=
  ⟨_, 1, rfl, fun u hu => by simp at hu; rw [hu]; rfl, fun _ => ⟨W.heap.size, 0, rfl, fun j hj => by simp at hj; subst hj; exact Row.cell (Row.new W 3 #[.int .i64 x]) 0⟩⟩
end Go.Proofs.Ytkkigoamphkalaa
namespace Go.Proofs.Ytkkigoamphkalaa
open Go.RowKit Ph

theorem Own.store1 {w : World} {B g n cap : Nat} {S : List Int} (h : Own w B (.slice (some ⟨g, 0, none⟩) n cap) S) (hn : S.length = n) {z : Nat} (hz : z < n) (x : Int) : Own (w.setCell ⟨g, z, none⟩ (.int .i64 x)) B (.slice (some ⟨g, 0, none⟩) n cap) (S.set z x) ∧ w.grownBy (w.setCell ⟨g, z, none⟩ (.int .i64 x)) (some g) ∧ w.cell? ⟨g, z, none⟩ = some (.int .i64 (S.getD z 0)) ∧ w.frozen? ⟨g, z, none⟩ = false := by
  unfold Own at h
  rw [hn] at h
  obtain ⟨s1, s2⟩ := h.stored z (.int .i64 x)
  refine ⟨?_, s2, ?_, h.frozenAt z⟩
  · unfold Own
    rw [List.length_set, hn, List.map_set]
    exact s1
  · rw [h.cellAt z (by omega), List.getElem?_map, List.getElem?_eq_getElem (by omega)]
    simp [List.getD, List.getElem?_eq_getElem (show z < S.length by omega)]
end Go.Proofs.Ytkkigoamphkalaa
namespace Go.Proofs.Ytkkigoamphkalaa
open Go.RowKit Ph

theorem rep_ints (n : Nat) : (madeCells (Value.int .i64 0).cells (n * 1)).toList = (List.replicate n (0 : Int)).map (Value.int .i64) := by
  rw [Nat.mul_one, show (Value.int .i64 0).cells = #[.int .i64 0] from rfl, toList_madeCells_one, List.map_replicate]
end Go.Proofs.Ytkkigoamphkalaa
namespace Go.Proofs.Ytkkigoamphkalaa
open Go.RowKit Ph

theorem chgRow (w : World) (g : Nat) (cs : Array Value) : Chg g (g + 1) w (w.setRow g cs) :=
  have bb := below_setRow (Below.refl g w) (Nat.le_refl _) cs
  ⟨bb.os, bb.tape, bb.output, bb.size, fun i _ hx => setRow_other w g i cs (by omega)⟩
theorem Own.chg {w w' : World} {B lo hi : Nat} {v : Value} {zs : List Int} (h : Own w B v zs) (hc : Chg lo hi w w') (hn : ∀ g, v.ownBlock = some g → g < lo ∨ hi ≤ g) : Own w' B v zs := owns_block h fun g hg => hc.block g (owns_lt h hg).2 (hn g hg)
end Go.Proofs.Ytkkigoamphkalaa
namespace Go.Proofs.Ytkkigoamphkalaa.Ph
def newS (h : H) (m : Nat) : H × Int := if placeOf h.l < h.l.length then (put1 h (placeOf h.l) m, (placeOf h.l : Int)) else if h.f.length = 12 then (h, -1) else (⟨h.f ++ [List.replicate m (-1)], h.l ++ [true], h.r⟩, (h.f.length : Int))
/-- The first j of m numbers are -1, the others 0. -/
def fillN (m j : Nat) : List Int := List.replicate j (-1) ++ List.replicate (m - j) 0
theorem fillN_zero (m : Nat) : fillN m 0 = List.replicate m 0 := by simp [fillN]
theorem fillN_all (m : Nat) : fillN m m = List.replicate m (-1) := by simp [fillN]
theorem fillN_len {m j : Nat} (h : j ≤ m) : (fillN m j).length = m := by simp [fillN]; omega
theorem fillN_set {m j : Nat} (h : j < m) : (fillN m j).set j (-1) = fillN m (j + 1) := by
  unfold fillN
  have e : List.replicate (m - j) (0 : Int) = 0 :: List.replicate (m - (j + 1)) 0 := by
    rw [show m - j = (m - (j + 1)) + 1 by omega, List.replicate_succ]
  rw [List.set_append_right j _ (by simp), List.length_replicate, Nat.sub_self, e, List.set_cons_zero]
  rw [List.replicate_succ' (n := j), List.append_assoc]; rfl
end Go.Proofs.Ytkkigoamphkalaa.Ph
namespace Go.Proofs.Ytkkigoamphkalaa
open Go.RowKit Ph

theorem rfl' {v : Value} {h h' : H} {m : Nat} {z : Int} (k : newS h m = (h', z)) : Ending.returned (.tuple #[v, .int .i64 z]) = .returned (.tuple #[v, .int .i64 (newS h m).2]) := by rw [k]
set_option maxRecDepth 100000 in
set_option maxHeartbeats 6400000 in
theorem s_l5New (a b c : Value) (h : H) (m lo hi : Nat) (w : World) (hO : OwnH w lo hi a b c h) (hl : lo ≤ hi) (hs : hi ≤ w.heap.size) (hn : h.f.length ≤ 12) (hll : h.l.length = h.f.length) (hm : m ≤ 3) :
    Calls Try.prog 129 #[hv a b c, .int .i64 (m : Int)] w fun e w' => ∃ a' b' c', e = .returned (.tuple #[hv a' b' c', .int .i64 (newS h m).2]) ∧ OwnH w' lo w'.heap.size a' b' c' (newS h m).1 ∧ Below lo w w' ∧ ∀ g cs, Row w g 30 cs → Row w' g 30 cs := by
  obtain ⟨i0, hi0, hz0, hz1, hz2⟩ := info_parts info_int
  obtain ⟨⟨pa, qa, rfl⟩, ⟨pb, qb, rfl⟩, ⟨pc, qc, rfl⟩⟩ := hO.shapes
  have HP := Lib.hid (fun k => place_of (l := h.l) (k := k)); have HQ := Lib.hid (place_none (l := h.l))
  have HNS : Hid (newS h m = if placeOf h.l < h.l.length then (put1 h (placeOf h.l) m, (placeOf h.l : Int)) else if h.f.length = 12 then (h, -1) else (⟨h.f ++ [List.replicate m (-1)], h.l ++ [true], h.r⟩, (h.f.length : Int))) := rfl
  have HNL := Lib.hid hll
  rw [hll] at HNS hO ⊢
  clear hll
  generalize hnn : h.f.length = n at *
  have HNF := Lib.hid hnn
  clear hnn
  generalize h.r.length = nr at *
  have hb0 : Below w.heap.size w ((w.alloc (.cells (c3 (.slice pa n qa) (.slice pb n qb) (.slice pc nr qc)) 30)).alloc (.cells (c3 (.slice none 0 0) (.slice none 0 0) (.slice none 0 0)) 30)) := (below1 w (.cells (c3 (.slice pa n qa) (.slice pb n qb) (.slice pc nr qc)) 30)).alloc (by simp) (.cells (c3 (.slice none 0 0) (.slice none 0 0) (.slice none 0 0)) 30)
  have O0 := Lib.hid (hO.below hb0)
  have B0 := Lib.hid hb0
  have P0 := Lib.hid (show RowH _ _ (.slice pa n qa) (.slice pb n qb) (.slice pc nr qc) from (Row.new w 30 (c3 (.slice pa n qa) (.slice pb n qb) (.slice pc nr qc))).alloc (.cells (c3 (.slice none 0 0) (.slice none 0 0) (.slice none 0 0)) 30))
  have R0 := Lib.hid (show RowH _ (w.heap.size + 1) (.slice none 0 0) (.slice none 0 0) (.slice none 0 0) from Row.new1 w (.cells (c3 (.slice pa n qa) (.slice pb n qb) (.slice pc nr qc)) 30) 30 (c3 (.slice none 0 0) (.slice none 0 0) (.slice none 0 0)))
  have HL := Lib.hid hl; have HS := Lib.hid hs
  have hw0 : ((w.alloc (.cells (c3 (.slice pa n qa) (.slice pb n qb) (.slice pc nr qc)) 30)).alloc (.cells (c3 (.slice none 0 0) (.slice none 0 0) (.slice none 0 0)) 30)).heap.size = w.heap.size + 1 + 1 := by simp
  have HW0 := Lib.hid hw0
  clear hO hb0 hl hs hw0
  go_enter Try.func129, Try.ntmps129
  go_wp2_with (at_make; refine wpList_make_full _ rfl _ _ 24 rfl w.heap.size 3 i0 (.int .i64 0) 1 Try.underlying24 hi0 hz0 hz1 .i64 .i64 _ _ m rfl rfl rfl rfl (by rw [hz2]; omega) (by unfold maxLen; omega) (by rw [HW0.out]; omega) ?_; intro w1 hown hgr
               rw [rep_ints, HW0.out] at hown
               have U1 : Hid (Own w1 w.heap.size (.slice (some ⟨w.heap.size + 1 + 1, 0, none⟩) m m) (List.replicate m 0)) := (by { unfold Hid Own; rw [List.length_replicate]; exact hown })
               have bb1 := (Below.refl ((w.alloc (.cells (c3 (.slice pa n qa) (.slice pb n qb) (.slice pc nr qc)) 30)).alloc (.cells (c3 (.slice none 0 0) (.slice none 0 0) (.slice none 0 0)) 30)).heap.size ((w.alloc (.cells (c3 (.slice pa n qa) (.slice pb n qb) (.slice pc nr qc)) 30)).alloc (.cells (c3 (.slice none 0 0) (.slice none 0 0) (.slice none 0 0)) 30))).grown hgr (Nat.le_refl _) (fun k hk => by cases hk)
               have B1 := Lib.hid (bst B0.out bb1 B0.out.size)
               have O1 := Lib.hid (O0.out.below bb1)
               have P1 := Lib.hid (P0.out.below bb1)
               have R1 := Lib.hid (R0.out.below bb1)
               clear hown hgr bb1)
  clear B0 O0 P0 R0
  go_loopw [14] (fun i wr => ∃ j : Nat, j ≤ m ∧ i = .int .i64 j ∧ Hid (Own wr w.heap.size (.slice (some ⟨w.heap.size + 1 + 1, 0, none⟩) m m) (fillN m j)) ∧ Hid (Below w.heap.size w wr) ∧ Hid (OwnH wr lo hi (.slice pa n qa) (.slice pb n qb) (.slice pc nr qc) h) ∧ Hid (RowH wr w.heap.size (.slice pa n qa) (.slice pb n qb) (.slice pc nr qc)) ∧ Hid (RowH wr (w.heap.size + 1) (.slice none 0 0) (.slice none 0 0) (.slice none 0 0))) (fun i _ => m - (intOf i).toNat)
  case atStart => exact ⟨0, Nat.zero_le _, rfl, by rw [fillN_zero]; exact U1, B1, O1, P1, R1⟩
  case round =>
    obtain ⟨j, hj, rfl, hU, hB, hO, hP, hR⟩ := hrel
    by_cases hlt : j < m
    · obtain ⟨s1, s2, s3, s4⟩ := hU.out.store1 (fillN_len hj) hlt (-1)
      rw [fillN_set hlt] at s1
      have B2 := Lib.hid (hB.out.grown s2 hB.out.size (fun k hk => by cases hk; omega))
      have cc := Chg.of_grown (lo := w.heap.size + 1 + 1) (hi := w.heap.size + 1 + 1 + 1) s2 (fun k hk => by cases hk; omega)
      have O2 := Lib.hid (hO.out.chg cc (.inl (by have := HS.out; omega)))
      have P2 := Lib.hid (show RowH _ _ _ _ _ from Row.chg hP.out cc (.inl (by omega)))
      have R2 := Lib.hid (show RowH _ _ _ _ _ from Row.chg hR.out cc (.inl (by omega)))
      have S1 := Lib.hid s1
      have i1 : (j : Int) < (m : Int) := by omega
      clear s1 s2 cc
      generalize (fillN m j).getD j 0 = x at *
      go_wp2_with fail
      go_roundw
      case rel => exact ⟨j + 1, by omega, by go_num, S1, B2, O2, P2, R2⟩
      case measure => simp [intOf]; omega
    obtain rfl : j = m := by omega
    rw [fillN_all] at hU
    generalize hrow : List.replicate j (-1 : Int) = row at *
    have HROW := Lib.hid hrow; clear hrow
    have d0 := hP.out.c0
    have d1 := hP.out.c1
    have hUl : Hid (w.heap.size + 1 + 1 < wr.heap.size) := (owns_lt hU.out rfl).2
    clear hlt
    go_wp2_with fail
    generalize hws : w.heap.size = W at *
    go_loop [24] (fun i => ∃ k : Nat, k ≤ n ∧ i = .int .i64 k ∧ Hid (∀ i, i < k → h.l.getD i false = true)) (fun i => n - (intOf i).toNat)
    case atStart => exact ⟨0, Nat.zero_le _, rfl, fun i hi => by omega⟩
    case round =>
      obtain ⟨k, hk, rfl, hall⟩ := hrel
      by_cases hkn : k < n
      · obtain ⟨gb, cb, hbv, qb1, fb1, oL, cL⟩ := putLiveB hO.out (j := k) (by rw [HNL.out]; exact hkn) true
        rw [HNL.out] at hbv
        cases hbv
        have hgP : gb ≠ W := OwnH.liveNe hO.out hP.out
        have hgR : gb ≠ W + 1 := OwnH.liveNe hO.out hR.out
        have i1 : (k : Int) < (n : Int) := by omega
        have i00 : (0 : Int) ≤ (k : Int) := by omega
        generalize hx : h.l.getD k false = x at *
        have HX := Lib.hid hx; clear hx
        cases x
        · have hp := HP.out k (by rw [HNL.out]; exact hkn) hall.out HX.out
          have HE : Hid (newS h j = (put1 h k j, (k : Int))) := by unfold Hid; rw [HNS.out, hp, if_pos hkn]
          clear hp
          have P2 : RowH _ _ _ _ _ := Row.other hP.out ⟨gb, k, none⟩ (Ne.symm hgP) (.bool true)
          have R2 : RowH _ _ _ _ _ := Row.other hR.out ⟨gb, k, none⟩ (Ne.symm hgR) (.bool true)
          have U2 : Own _ W (.slice (some ⟨W + 1 + 1, 0, none⟩) j j) row := Own.chg hU.out cL (fun g' e => .inr (by have e' : some (W + 1 + 1) = some g' := e; cases e'; have := HS.out; omega))
          have B2 := below_chg (hB.out.mono (show lo ≤ W by have := HL.out; have := HS.out; omega)) cL (Nat.le_refl _) (by have := HL.out; have := HS.out; have := hUl.out; omega)
          have sz2 := World.size_setCell wr ⟨gb, k, none⟩ (.bool true)
          obtain ⟨ga, ca, xx, hax, qf1, ff1, hlo, hap, oN⟩ := putRow1 oL (j := k) (by simp only; rw [HNF.out]; exact hkn) (U2.mono HS.out) HL.out (by rw [sz2]; have := HS.out; have := hUl.out; omega)
          simp only [HNF.out] at hax
          cases hax
          have hga1 : ga ≠ W := hap _ _ P2
          have hga2 : ga ≠ W + 1 := hap _ _ R2
          have P3 := Lib.hid (show RowH _ _ _ _ _ from Row.other P2 ⟨ga, k, none⟩ (Ne.symm hga1) (.slice (some ⟨W + 1 + 1, 0, none⟩) j j))
          have R3 := Lib.hid (show RowH _ _ _ _ _ from Row.other R2 ⟨ga, k, none⟩ (Ne.symm hga2) (.slice (some ⟨W + 1 + 1, 0, none⟩) j j))
          have B3 := Lib.hid (B2.setCell (p := ⟨ga, k, none⟩) hlo (.slice (some ⟨W + 1 + 1, 0, none⟩) j j))
          have O3 := Lib.hid oN
          have sz3 := Lib.hid (World.size_setCell (wr.setCell ⟨gb, k, none⟩ (.bool true)) ⟨ga, k, none⟩ (.slice (some ⟨W + 1 + 1, 0, none⟩) j j))
          have HRW : Hid (∀ g cs, Row w g 30 cs → Row (((wr.setCell ⟨gb, k, none⟩ (.bool true)).setCell ⟨ga, k, none⟩ (.slice (some ⟨W + 1 + 1, 0, none⟩) j j)).setRow (W + 1) (c3 (.slice (some ⟨ga, 0, none⟩) n qa) (.slice (some ⟨gb, 0, none⟩) n qb) (.slice pc nr qc))) g 30 cs) := fun g cs hr => by
            have hgl : g < W := by have := hr.lt; omega
            have r1 := Row.below' hr hB.out hgl
            have r2 := Row.other r1 ⟨gb, k, none⟩ (Ne.symm (OwnH.liveNe hO.out r1)) (.bool true)
            exact Row.putOther (Row.other r2 ⟨ga, k, none⟩ (Ne.symm (hap _ _ r2)) _) _ (by omega)
          have HO3 : Hid (put1 h k j = ⟨h.f.set k row, h.l.set k true, h.r⟩) := by unfold Hid put1; rw [HROW.out]
          have e0 := P2.c0
          clear oL cL P2 R2 U2 B2 oN hap sz2
          go_wp2_with (first
            | (refine wl_loadH rfl _ rfl W _ _ _ P3.out rfl ?_)
            | (refine wl_storeH rfl _ _ rfl (W + 1) (.slice (some ⟨ga, 0, none⟩) n qa) (.slice (some ⟨gb, 0, none⟩) n qb) (.slice pc nr qc) _ _ _ R3.out rfl rfl rfl rfl rfl ?_))
          refine bodyPost_ret (res_row_slot Try.results129 (Row.put R3.out (c3 (.slice (some ⟨ga, 0, none⟩) n qa) (.slice (some ⟨gb, 0, none⟩) n qb) (.slice pc nr qc))) rfl rfl Try.underlying30 rfl info_heap) rfl ⟨_, _, _, rfl' HE.out, ?_, below_setRow B3.out (by have := HL.out; have := HS.out; omega) _, HRW.out⟩
          rw [HE.out, HO3.out]
          exact (O3.out.wholeRow R3.out _).wide (Nat.le_refl _) (by rw [size_setRow, sz3.out]; exact Nat.le_refl _)
        · have HA : Hid (∀ i, i < k + 1 → h.l.getD i false = true) := fun i hi => by
            by_cases e : i = k
            · subst e; exact HX.out
            · exact hall.out i (by omega)
          clear oL cL
          go_wp2_with fail
          go_round
          case rel => exact ⟨k + 1, by omega, by go_num, HA⟩
          case measure => simp [intOf]; omega
      · have hpn := HQ.out (fun i hi => hall.out i (by rw [HNL.out] at hi; omega))
        have HE0 : Hid (newS h j = if n = 12 then (h, -1) else (⟨h.f ++ [row], h.l ++ [true], h.r⟩, (n : Int))) := by unfold Hid; rw [HNS.out, hpn, HNL.out, if_neg (Nat.lt_irrefl _)]
        clear hpn
        by_cases h12 : n = 12
        · have HE : Hid (newS h j = (h, -1)) := by unfold Hid; rw [HE0.out, if_pos h12]
          have hq : ((n : Int) == 12) = true := by simp; omega
          have HRW : Hid (∀ g cs, Row w g 30 cs → Row (wr.setRow (W + 1) (c3 (.slice pa n qa) (.slice pb n qb) (.slice pc nr qc))) g 30 cs) := fun g cs hr => by
            have hgl : g < W := by have := hr.lt; omega
            exact Row.putOther (Row.below' hr hB.out hgl) _ (by omega)
          clear h12
          go_wp2_with (first
            | (refine wl_loadH rfl _ rfl W _ _ _ hP.out rfl ?_)
            | (refine wl_storeH rfl _ _ rfl (W + 1) (.slice pa n qa) (.slice pb n qb) (.slice pc nr qc) _ _ _ hR.out rfl rfl rfl rfl rfl ?_))
          refine bodyPost_ret (res_row_slot Try.results129 (Row.put hR.out (c3 (.slice pa n qa) (.slice pb n qb) (.slice pc nr qc))) rfl rfl Try.underlying30 rfl info_heap) rfl ⟨_, _, _, rfl' HE.out, ?_, below_setRow (hB.out.mono (show lo ≤ W by have := HL.out; have := HS.out; omega)) (by have := HL.out; have := HS.out; omega) _, HRW.out⟩
          rw [HE.out]
          exact (hO.out.wholeRow hR.out _).wide (Nat.le_refl _) (by rw [size_setRow]; have := HS.out; have := hUl.out; omega)
        · have HE : Hid (newS h j = (⟨h.f ++ [row], h.l ++ [true], h.r⟩, (n : Int))) := by unfold Hid; rw [HE0.out, if_neg h12]
          have hq : ((n : Int) == 12) = false := by simp; omega
          have hloW : lo ≤ W := by have := HL.out; have := HS.out; omega
          have hWr := hUl.out
          have X0 : OwnX wr lo wr.heap.size (.slice pa n qa) (.slice pb n qb) (.slice pc nr qc) (.slice (some ⟨W + 1 + 1, 0, none⟩) j j) h row := OwnX.of hO.out (hU.out.mono hloW) (fun g e => by have e' : some (W + 1 + 1) = some g := e; cases e'; have := HS.out; omega) (by have := HS.out; omega)
          have BL := hB.out.mono hloW
          obtain ⟨v1, w1e, hr1, x1, rows1, bel1, sz1, _⟩ := X0.live (by omega) (Nat.le_refl _) (by rw [HNL.out]; omega) true 23
          have V1 : RowH _ _ _ _ _ := rows1 _ _ hP.out
          have R1 : RowH _ _ _ _ _ := rows1 _ _ hR.out
          have B1 := bel1 _ _ (Nat.le_refl _) BL
          have s1c := V1.c1
          have s1f := Row.frozen V1 1
          have x2 := x1.cellRow V1 1 v1
          have V2 := RowH.set1 V1 v1
          have R2 : RowH (w1e.setCell ⟨W, 1, none⟩ v1) (W + 1) (.slice none 0 0) (.slice none 0 0) (.slice none 0 0) := Row.other R1 ⟨W, 1, none⟩ (by simp) v1
          have B2 := B1.setCell (p := ⟨W, 1, none⟩) hloW v1
          have hsz2 := World.size_setCell w1e ⟨W, 1, none⟩ v1
          obtain ⟨v2, w2e, hr2, o3, rows3, bel3, sz3⟩ := x2.rows (by omega) (by rw [hsz2]; exact Nat.le_refl _) (by simp only; rw [HNF.out]; omega) rfl 22
          rw [hsz2] at hr2 sz3
          have V3 : RowH _ _ _ _ _ := rows3 _ _ V2
          have R3 : RowH _ _ _ _ _ := rows3 _ _ R2
          have B3 := bel3 _ _ (Nat.le_refl _) B2
          have s2a := V2.c0
          have s3c := V3.c0
          have s3f := Row.frozen V3 0
          have O4 := o3.cellRow V3 0 v2
          have V4 := RowH.set0 V3 v2
          have R4 : RowH (w2e.setCell ⟨W, 0, none⟩ v2) (W + 1) (.slice none 0 0) (.slice none 0 0) (.slice none 0 0) := Row.other R3 ⟨W, 0, none⟩ (by simp) v2
          have B4 := B3.setCell (p := ⟨W, 0, none⟩) hloW v2
          have hfl2 : (h.f ++ [row]).length = n + 1 := by simp [HNF.out]
          obtain ⟨⟨pa2, qa2, hv2⟩, ⟨pb2, qb2, hv1⟩, _⟩ := O4.shapes
          simp only [hfl2] at hv2
          subst hv2
          generalize hnb : (⟨h.f ++ [row], h.l ++ [true], h.r⟩ : H).l.length = nb2 at *
          subst hv1
          have HRW : Hid (∀ g cs, Row w g 30 cs → g ≠ W → Row (w2e.setCell ⟨W, 0, none⟩ (.slice pa2 (n + 1) qa2)) g 30 cs) := fun g cs hr hgw => by
            have hgl : g < W := by have := hr.lt; omega
            have r1 := rows1 _ _ (Row.below' hr hB.out hgl)
            have r2 := Row.other r1 ⟨W, 1, none⟩ (by simpa using hgw) (.slice pb2 nb2 qb2)
            exact Row.other (rows3 _ _ r2) ⟨W, 0, none⟩ (by simpa using hgw) _
          have HRL : Hid (∀ g cs, Row w g 30 cs → g < W) := fun g cs hr => by have := hr.lt; omega
          have OY := Lib.hid O4; have VY := Lib.hid V4; have RY := Lib.hid R4; have BY := Lib.hid B4; have HR1 := Lib.hid hr1; have HR2 := Lib.hid hr2
          have HSY : Hid (w2e.heap.size ≤ (w2e.setCell ⟨W, 0, none⟩ (.slice pa2 (n + 1) qa2)).heap.size) := by unfold Hid; rw [World.size_setCell]; exact Nat.le_refl _
          have hwr2 : IntKind.i64.wrap (n : Int) = (n : Int) := IntWalk.i64_in _ (by omega)
          have hwr1 : IntKind.i64.wrap (((n + 1 : Nat) : Int) - 1) = (n : Int) := by rw [IntWalk.i64_in _ (by omega)]; omega
          clear O4 V4 R4 B4 V1 R1 B1 V2 R2 B2 V3 R3 B3 rows1 rows3 bel1 bel3 hr1 hr2 hsz2 sz1 sz3 x1 x2 X0 BL o3 hfl2 hnb h12
          go_wp2_with (first
            | (at_builtin; refine wl_appRun rfl _ _ 23 rfl rfl rfl HR1.out ?_)
            | (at_builtin; refine wl_appRun rfl _ _ 22 rfl rfl rfl HR2.out ?_))
          generalize (w2e.setCell ⟨W, 0, none⟩ (.slice pa2 (n + 1) qa2)) = wY at *
          have VD : Hid (RowH wY.drew W (.slice pa2 (n + 1) qa2) (.slice pb2 nb2 qb2) (.slice pc nr qc)) := VY.out
          have RD : Hid (RowH wY.drew (W + 1) (.slice none 0 0) (.slice none 0 0) (.slice none 0 0)) := RY.out
          have BD := Lib.hid (below_drew BY.out)
          have OD := Lib.hid (OY.out.below (below_drew (Below.refl wY.heap.size wY)))
          have HRD : Hid (∀ g cs, Row w g 30 cs → g ≠ W → Row wY.drew g 30 cs) := HRW.out
          have HSZ : Hid (w2e.heap.size ≤ wY.drew.heap.size) := HSY
          have y0 := VD.out.c0
          have y1 := VD.out.c1
          have y2 := VD.out.c2
          refine wp_region_held_drew (S := (fun w' => w'.cell? ⟨W, 0, none⟩ = some (.slice pa2 (n + 1) qa2) ∧ w'.cell? ⟨W, 1, none⟩ = some (.slice pb2 nb2 qb2) ∧ w'.cell? ⟨W, 2, none⟩ = some (.slice pc nr qc))) (by kernel_rfl) (⟨y0, y1, y2⟩) (fun hHeld => ?_)
          refine wpAnyH_take (i := 0) (v := ?va0x1) rfl (by kernel_rfl) (by kernel_rfl) (by kernel_rfl) (fun _ _ _ h => h) (Or.inl ⟨by rfl, ?hy0x1⟩) (by assumption) ?rest0x1
          case hy0x1 => (intro w hSw; (try dsimp only at hSw); go_simp; try with_reducible rfl)
          (try simp only [Act.put, List.getElem_toArray, List.getElem_cons_zero, List.setIfInBounds_toArray, List.set_cons_zero, List.set_cons_succ])
          refine wpAnyH_take (i := 1) (v := ?va1x2) rfl (by kernel_rfl) (by kernel_rfl) (by kernel_rfl) (fun _ _ _ h => h) (Or.inl ⟨by rfl, ?hy1x2⟩) (by assumption) ?rest1x2
          case hy1x2 => (intro w hSw; (try dsimp only at hSw); go_simp; try with_reducible rfl)
          (try simp only [Act.put, List.getElem_toArray, List.getElem_cons_zero, List.getElem_cons_succ, List.setIfInBounds_toArray, List.set_cons_zero, List.set_cons_succ])
          refine wpAnyH_take (i := 2) (v := ?va2x3) rfl (by kernel_rfl) (by kernel_rfl) (by kernel_rfl) (fun _ _ _ h => h) (Or.inl ⟨by rfl, ?hy2x3⟩) (by assumption) ?rest2x3
          case hy2x3 => (intro w hSw; (try dsimp only at hSw); go_simp; try with_reducible rfl)
          (try simp only [Act.put, List.getElem_toArray, List.getElem_cons_zero, List.getElem_cons_succ, List.setIfInBounds_toArray, List.set_cons_zero, List.set_cons_succ])
          refine wpAnyH_take (i := 3) (v := ?va3x4) rfl (by kernel_rfl) (by kernel_rfl) (by kernel_rfl) (fun _ _ _ h => h) (Or.inl ⟨by rfl, ?hy3x4⟩) (by assumption) ?rest3x4
          case hy3x4 => (intro w hSw; (try dsimp only at hSw); go_simp; try with_reducible rfl)
          (try simp only [Act.put, List.getElem_toArray, List.getElem_cons_zero, List.getElem_cons_succ, List.setIfInBounds_toArray, List.set_cons_zero, List.set_cons_succ])
          refine wpAnyH_take (i := 4) (v := ?va4x5) rfl (by kernel_rfl) (by kernel_rfl) (by kernel_rfl) (fun _ _ _ h => h) (Or.inl ⟨by rfl, ?hy4x5⟩) (by assumption) ?rest4x5
          case hy4x5 => (intro w hSw; (try dsimp only at hSw); go_simp; try with_reducible rfl)
          (try simp only [Act.put, List.getElem_toArray, List.getElem_cons_zero, List.getElem_cons_succ, List.setIfInBounds_toArray, List.set_cons_zero, List.set_cons_succ])
          have hch := chgRow wY.drew (W + 1) (c3 (.slice pa2 (n + 1) qa2) (.slice pb2 nb2 qb2) (.slice pc nr qc))
          have VN := Lib.hid (show RowH _ _ _ _ _ from Row.chg VD.out hch (.inl (by omega)))
          clear hch
          refine wpAnyH_ready (rs := [5]) (by kernel_rfl) (by simp) ?_
          refine AllReadyH.cons rfl (fun K hK => ?_) AllReadyH.nil
          refine wp_store_row 30 _ _ rfl (W + 1) (c3 (.slice pa2 (n + 1) qa2) (.slice pb2 nb2 qb2) (.slice pc nr qc)) rfl rfl 30 _ RD.out info_heap rfl (by simp [Value.oneCell']) ?_
          refine hK.out _ _ ⟨VN.out.c0, VN.out.c1, VN.out.c2⟩ (fun hHeld => ?_)
          clear hK K
          (try simp only [Act.put, List.getElem_toArray, List.getElem_cons_zero, List.getElem_cons_succ])
          refine wpAnyH_take (i := 6) (v := ?va6x6) rfl (by kernel_rfl) (by kernel_rfl) (by kernel_rfl) (fun _ _ _ h => h) (Or.inl ⟨by rfl, ?hy6x6⟩) (by assumption) ?rest6x6
          case hy6x6 => (intro w hSw; (try dsimp only at hSw); go_simp; try with_reducible rfl)
          (try simp only [Act.put, List.getElem_toArray, List.getElem_cons_zero, List.getElem_cons_succ, List.setIfInBounds_toArray, List.set_cons_zero, List.set_cons_succ])
          refine wpAnyH_done (by kernel_rfl) ?_ _
          clear hHeld y0 y1 y2
          generalize wY.drew = wZ at *
          go_wp2_with fail
          refine bodyPost_ret (res_row_slot Try.results129 (Row.put RD.out (c3 (.slice pa2 (n + 1) qa2) (.slice pb2 nb2 qb2) (.slice pc nr qc))) rfl rfl Try.underlying30 rfl info_heap) rfl ⟨_, _, _, rfl' HE.out, ?_, below_setRow BD.out (by omega) _, fun g cs hr => ?_⟩
          · rw [HE.out]
            exact (OD.out.wholeRow RD.out _).wide (Nat.le_refl _) (by rw [size_setRow]; exact HSZ.out)
          · have := HRL.out g cs hr
            exact Row.putOther (HRD.out g cs hr (by omega)) _ (by omega)
end Go.Proofs.Ytkkigoamphkalaa
