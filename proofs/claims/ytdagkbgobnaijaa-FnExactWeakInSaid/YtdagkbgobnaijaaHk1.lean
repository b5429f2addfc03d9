/- What is kept of a heap that is the caller's own: the project's and the reference's loop. -/
import Derived.Test.YtdagkbgobnaijaaHw8
import Derived.Test.YtdagkbgobnaijaaHr3
namespace Go.Proofs.Ytdagkbgobnaijaa.Ph
def keepStep (ks : List Bool) (p : H × Nat) (j : Nat) : H × Nat := if (p.1.l.getD j false && !ks.getD j false) = true then (⟨p.1.f.set j [], p.1.l.set j false, p.1.r⟩, p.2 + 1) else p
def keepTo (h : H) (ks : List Bool) : Nat → H × Nat
  | 0 => (h, 0)
  | j + 1 => keepStep ks (keepTo h ks j) j
theorem keepTo_len (h : H) (ks : List Bool) (j : Nat) : (keepTo h ks j).1.f.length = h.f.length ∧ (keepTo h ks j).1.l.length = h.l.length ∧ (keepTo h ks j).1.r = h.r ∧ (keepTo h ks j).2 ≤ j := by
  induction j with
  | zero => exact ⟨rfl, rfl, rfl, Nat.le_refl _⟩
  | succ j ih =>
    simp only [keepTo, keepStep]
    split
    · simp only [List.length_set]; exact ⟨ih.1, ih.2.1, ih.2.2.1, by omega⟩
    · exact ⟨ih.1, ih.2.1, ih.2.2.1, by omega⟩
theorem keepTo_yes {h : H} {ks : List Bool} {j : Nat} (h1 : (keepTo h ks j).1.l.getD j false = true) (h2 : ks.getD j false = false) : keepTo h ks (j + 1) = (⟨(keepTo h ks j).1.f.set j [], (keepTo h ks j).1.l.set j false, (keepTo h ks j).1.r⟩, (keepTo h ks j).2 + 1) := by
  simp only [keepTo, keepStep]; rw [h1, h2]; rfl
theorem keepTo_no {h : H} {ks : List Bool} {j : Nat} (h1 : (keepTo h ks j).1.l.getD j false = false ∨ ks.getD j false = true) : keepTo h ks (j + 1) = keepTo h ks j := by
  simp only [keepTo, keepStep]
  rcases h1 with h1 | h1
  · rw [h1]; rfl
  · rw [h1]; simp
end Go.Proofs.Ytdagkbgobnaijaa.Ph
namespace Go.Proofs.Ytdagkbgobnaijaa
open Go.RowKit Ph

theorem putNil {w : World} {lo hi : Nat} {a b c : Value} {h : H} (k : OwnH w lo hi a b c h) {j : Nat} (hj : j < h.f.length) : ∃ ga ca x, a = .slice (some ⟨ga, 0, none⟩) h.f.length ca ∧ w.cell? ⟨ga, j, none⟩ = some x ∧ w.frozen? ⟨ga, j, none⟩ = false ∧ OwnH (w.setCell ⟨ga, j, none⟩ (.slice none 0 0)) lo hi a b c ⟨h.f.set j [], h.l, h.r⟩ ∧ Chg lo hi w (w.setCell ⟨ga, j, none⟩ (.slice none 0 0)) := by
  obtain ⟨us, hf⟩ := k
  rcases hf.shape with ⟨_, h0⟩ | ⟨ga, ca, ha⟩
  · rw [h0] at hj; simp at hj
  obtain ⟨c1, f1⟩ := hf.cell ha hj
  obtain ⟨s1, s2⟩ := hf.putRow hj (Own.nil w lo) (Nat.le_refl _) (fun g hg => by cases hg) ha
  exact ⟨ga, ca, _, ha, c1, f1, ⟨_, s1⟩, Chg.of_grown s2 fun g hg => by
    cases hg
    have := Fam.blk hf (k := 0) (g := ga) (by omega) (by show a.ownBlock = _; rw [ha]; rfl)
    exact ⟨this.1, this.2.1⟩⟩
theorem putLiveB {w : World} {lo hi : Nat} {a b c : Value} {h : H} (k : OwnH w lo hi a b c h) {j : Nat} (hj : j < h.l.length) (x : Bool) : ∃ gb cb, b = .slice (some ⟨gb, 0, none⟩) h.l.length cb ∧ w.cell? ⟨gb, j, none⟩ = some (.bool (h.l.getD j false)) ∧ w.frozen? ⟨gb, j, none⟩ = false ∧ OwnH (w.setCell ⟨gb, j, none⟩ (.bool x)) lo hi a b c ⟨h.f, h.l.set j x, h.r⟩ ∧ Chg lo hi w (w.setCell ⟨gb, j, none⟩ (.bool x)) := by
  obtain ⟨us, hf⟩ := k
  have hl := hf.live
  rcases hl.shape with ⟨_, h0⟩ | ⟨gb, cb, hb⟩
  · rw [h0] at hj; simp at hj
  have hl2 := hl
  rw [hb] at hl2
  obtain ⟨s1, s2, s3, s4⟩ := hl2.stored rfl hj x
  exact ⟨gb, cb, hb, s3, s4, ⟨us, hf.setLive (by rw [hb]; exact s2) (by rw [hb]; exact s1)⟩, Chg.of_grown s2 fun g hg => by
    cases hg
    have := Fam.blk hf (k := 1) (g := gb) (by omega) (by show b.ownBlock = _; rw [hb]; rfl)
    exact ⟨this.1, this.2.1⟩⟩
theorem OwnBs.chg {w w' : World} {B lo hi : Nat} {v : Value} {bs : List Bool} (h : OwnBs w B v bs) (hc : Chg lo hi w w') (hd : hi ≤ B) : OwnBs w' B v bs := owns_block h fun g hg => by have := owns_lt h hg; exact hc.block g this.2 (.inr (by omega))
set_option maxRecDepth 100000 in
set_option maxHeartbeats 3200000 in
theorem c_keepThings (a b c kv : Value) (h : H) (ks : List Bool) (lo hi : Nat) (w : World) (hO : OwnH w lo hi a b c h) (hK : OwnBs w hi kv ks) (hs : hi ≤ w.heap.size) (hlf : h.l.length = h.f.length) (hkl : ks.length = h.f.length) (hn : h.f.length ≤ 12) :
    Calls Try.prog 87 #[hv a b c, kv] w fun e w' => e = .returned (.int .i64 ((keepTo h ks h.f.length).2 : Int)) ∧ OwnH w' lo hi a b c (keepTo h ks h.f.length).1 ∧ Chg lo hi w w' := by
  have hb0 := below1 w (.cells (c3 a b c) 32)
  have O0 := Lib.hid (hO.below hb0); have K0 := Lib.hid (OwnBs.below hK hb0)
  have C0 := Lib.hid (Chg.of_below (lo := lo) (hi := hi) hb0)
  have R0 := Lib.hid (show RowH _ _ a b c from Row.new w 32 (c3 a b c))
  have HKT := Lib.hid (keepTo_len h ks)
  obtain ⟨⟨pa, qa, rfl⟩, ⟨pb, qb, rfl⟩, _⟩ := hO.shapes
  obtain ⟨pk, qk, rfl⟩ := (owns_bools hK).shape
  rw [hlf] at O0 C0 R0 K0 ⊢
  rw [hkl] at K0 ⊢
  have HLF := Lib.hid hlf; have HS := Lib.hid hs; have HKL := Lib.hid hkl
  clear hO hK hb0 hlf hs hkl
  generalize hnn : h.f.length = n at *
  have HN := Lib.hid hnn
  clear hnn
  have hc1 := R0.out.c1
  go_enter Try.func87, Try.ntmps87
  go_wp2_with fail
  clear hc1
  generalize (w.alloc (.cells (c3 (.slice pa n qa) (.slice pb n qb) c) 32)) = w0 at *
  go_loopw [5, 11] (fun cnt i wr => ∃ j : Nat, j ≤ n ∧ i = .int .i64 j ∧ ∃ m : Nat, Hid ((keepTo h ks j).2 = m) ∧ m ≤ j ∧ cnt = .int .i64 m ∧ Hid (OwnH wr lo hi (.slice pa n qa) (.slice pb n qb) c (keepTo h ks j).1) ∧ Hid (OwnBs wr hi (.slice pk n qk) ks) ∧ Hid (RowH wr w.heap.size (.slice pa n qa) (.slice pb n qb) c) ∧ Hid (Chg lo hi w wr)) (fun _ i _ => n - (intOf i).toNat)
  case atStart => exact ⟨0, Nat.zero_le _, rfl, 0, rfl, Nat.le_refl _, rfl, O0, K0, R0, C0⟩
  case round =>
    obtain ⟨j, hj, rfl, m, hm, hmj, rfl, hO, hK, hR, hC⟩ := hrel
    by_cases hlt : j < n
    · obtain ⟨e1, e2, _, _⟩ := HKT.out j
      rw [HLF.out] at e2
      obtain ⟨gb, cb, hb, qb1, fb1, oL, cL⟩ := putLiveB hO.out (j := j) (by rw [e2]; exact hlt) false
      rw [e2] at hb
      cases hb
      obtain ⟨gk, ok, hk, hkc⟩ := (owns_bools hK.out).at' (by omega)
      subst hk
      have qk1 := hkc j hlt
      have i1 : (j : Int) < (n : Int) := by omega
      have d0 := hR.out.c0
      have d1 := hR.out.c1
      have hyes := keepTo_yes (h := h) (ks := ks) (j := j)
      have hno := keepTo_no (h := h) (ks := ks) (j := j)
      have HYES := Lib.hid hyes; have HNO := Lib.hid hno
      clear hkc hyes hno
      generalize (keepTo h ks j).1.l.getD j false = on at *
      generalize ks.getD j false = kk at *
      cases on
      · have HE := Lib.hid (HNO.out (.inl rfl))
        clear oL cL
        go_wp2_with fail
        go_roundw
        case rel => exact ⟨j + 1, by omega, by go_num, m, by rw [HE.out]; exact hm, by omega, rfl, by rw [HE.out]; exact hO, hK, hR, hC⟩
        case measure => simp [intOf]; omega
      · cases kk
        · have HE := Lib.hid (HYES.out rfl rfl)
          have K1 := OwnBs.chg hK.out cL (Nat.le_refl _)
          have R1 : RowH _ _ _ _ _ := Row.chg hR.out cL (.inr HS.out)
          obtain ⟨ga, ca, x, ha, qa1, fa1, oF, cF⟩ := putNil oL (j := j) (by simp only; rw [e1]; exact hlt)
          simp only at ha
          rw [e1] at ha
          cases ha
          have d2 := R1.c0
          have K2 := Lib.hid (OwnBs.chg K1 cF (Nat.le_refl _))
          have R2 : Hid (RowH _ _ _ _ _) := Row.chg R1 cF (.inr HS.out)
          have C2 := Lib.hid ((hC.out.trans cL).trans cF)
          have O2 := Lib.hid oF
          clear oL cL oF cF K1 R1
          go_wp2_with fail
          go_roundw
          case rel => exact ⟨j + 1, by omega, by go_num, m + 1, by rw [HE.out]; exact congrArg (· + 1) hm.out, by omega, by go_num, by rw [HE.out]; exact O2, K2, R2, C2⟩
          case measure => simp [intOf]; omega
        · have HE := Lib.hid (HNO.out (.inr rfl))
          clear oL cL
          go_wp2_with fail
          go_roundw
          case rel => exact ⟨j + 1, by omega, by go_num, m, by rw [HE.out]; exact hm, by omega, rfl, by rw [HE.out]; exact hO, hK, hR, hC⟩
          case measure => simp [intOf]; omega
    · obtain rfl : j = n := by omega
      go_wp2_with fail
      go_ret
      exact ⟨r_i (by rw [hm.out]), hO.out, hC.out⟩
end Go.Proofs.Ytdagkbgobnaijaa
