/- What the reference keeps of a heap. -/
import Derived.Test.YtcjkkbbinieblaaHk1
namespace Go.Proofs.Ytcjkkbbinieblaa
open Go.RowKit Ph

set_option maxRecDepth 100000 in
set_option maxHeartbeats 3200000 in
theorem s_l5Keep (a b c kv : Value) (h : H) (ks : List Bool) (lo hi : Nat) (w : World) (hO : OwnH w lo hi a b c h) (hK : OwnBs w hi kv ks) (hs : hi ≤ w.heap.size) (hlf : h.l.length = h.f.length) (hkl : ks.length = h.f.length) (hn : h.f.length ≤ 12) :
    Calls Try.prog 52 #[hv a b c, kv] w fun e w' => e = .returned (.tuple #[hv a b c, .int .i64 ((keepTo h ks h.f.length).2 : Int)]) ∧ OwnH w' lo hi a b c (keepTo h ks h.f.length).1 ∧ Chg lo hi w w' := by
  have hb0 := (below1 w (.cells (c3 a b c) 27)).alloc (by simp) (.cells (c3 (.slice none 0 0) (.slice none 0 0) (.slice none 0 0)) 27)
  have O0 := Lib.hid (hO.below hb0); have K0 := Lib.hid (OwnBs.below hK hb0)
  have C0 := Lib.hid (Chg.of_below (lo := lo) (hi := hi) hb0)
  have R0 := Lib.hid (show RowH _ _ a b c from (Row.new w 27 (c3 a b c)).alloc (.cells (c3 (.slice none 0 0) (.slice none 0 0) (.slice none 0 0)) 27))
  have Q0 := Lib.hid (show RowH _ (w.heap.size + 1) (.slice none 0 0) (.slice none 0 0) (.slice none 0 0) from Row.new1 w (.cells (c3 a b c) 27) 27 (c3 (.slice none 0 0) (.slice none 0 0) (.slice none 0 0)))
  have HKT := Lib.hid (keepTo_len h ks)
  obtain ⟨⟨pa, qa, rfl⟩, ⟨pb, qb, rfl⟩, ⟨pc, qc, rfl⟩⟩ := hO.shapes
  obtain ⟨pk, qk, rfl⟩ := (owns_bools hK).shape
  rw [hlf] at O0 C0 R0 K0 Q0 ⊢
  rw [hkl] at K0 ⊢
  have HLF := Lib.hid hlf; have HS := Lib.hid hs; have HKL := Lib.hid hkl
  clear hO hK hb0 hlf hs hkl
  generalize hnn : h.f.length = n at *
  have HN := Lib.hid hnn
  clear hnn
  generalize h.r.length = nr at *
  have hc1 := R0.out.c1
  go_enter Try.func52, Try.ntmps52
  go_wp2_with fail
  clear hc1
  generalize ((w.alloc (.cells (c3 (.slice pa n qa) (.slice pb n qb) (.slice pc nr qc)) 27)).alloc (.cells (c3 (.slice none 0 0) (.slice none 0 0) (.slice none 0 0)) 27)) = w0 at *
  go_loopw [6, 11] (fun cnt i wr => ∃ j : Nat, j ≤ n ∧ i = .int .i64 j ∧ ∃ m : Nat, Hid ((keepTo h ks j).2 = m) ∧ m ≤ j ∧ cnt = .int .i64 m ∧ Hid (OwnH wr lo hi (.slice pa n qa) (.slice pb n qb) (.slice pc nr qc) (keepTo h ks j).1) ∧ Hid (OwnBs wr hi (.slice pk n qk) ks) ∧ Hid (RowH wr w.heap.size (.slice pa n qa) (.slice pb n qb) (.slice pc nr qc)) ∧ Hid (RowH wr (w.heap.size + 1) (.slice none 0 0) (.slice none 0 0) (.slice none 0 0)) ∧ Hid (Chg lo hi w wr)) (fun _ i _ => n - (intOf i).toNat)
  case atStart => exact ⟨0, Nat.zero_le _, rfl, 0, rfl, Nat.le_refl _, rfl, O0, K0, R0, Q0, C0⟩
  case round =>
    obtain ⟨j, hj, rfl, m, hm, hmj, rfl, hO, hK, hR, hQ, hC⟩ := hrel
    by_cases hlt : j < n
    · obtain ⟨e1, e2, _, _⟩ := HKT.out j
      rw [HLF.out] at e2
      obtain ⟨gb, cb, hb, qb1, fb1, oL, cL⟩ := putLiveB hO.out (j := j) (by rw [e2]; exact hlt) false
      rw [e2] at hb
      cases hb
      obtain ⟨gk, ok, hk, hkc⟩ := (owns_bools hK.out).at' (by omega)
      subst hk
      have qk1 := hkc j hlt
      have i1 : (j : Int) < (n : Int) := by omega
      have d0 := hR.out.c0
      have d1 := hR.out.c1
      have hyes := keepTo_yes (h := h) (ks := ks) (j := j)
      have hno := keepTo_no (h := h) (ks := ks) (j := j)
      have HYES := Lib.hid hyes; have HNO := Lib.hid hno
      clear hkc hyes hno
      generalize (keepTo h ks j).1.l.getD j false = on at *
      generalize ks.getD j false = kk at *
      cases on
      · have HE := Lib.hid (HNO.out (.inl rfl))
        clear oL cL
        go_wp2_with fail
        go_roundw
        case rel => exact ⟨j + 1, by omega, by go_num, m, by rw [HE.out]; exact hm, by omega, rfl, by rw [HE.out]; exact hO, hK, hR, hQ, hC⟩
        case measure => simp [intOf]; omega
      · cases kk
        · have HE := Lib.hid (HYES.out rfl rfl)
          have K1 := OwnBs.chg hK.out cL (Nat.le_refl _)
          have R1 : RowH _ _ _ _ _ := Row.chg hR.out cL (.inr HS.out)
          obtain ⟨ga, ca, x, ha, qa1, fa1, oF, cF⟩ := putNil oL (j := j) (by simp only; rw [e1]; exact hlt)
          simp only at ha
          rw [e1] at ha
          cases ha
          have d2 := R1.c0
          have K2 := Lib.hid (OwnBs.chg K1 cF (Nat.le_refl _))
          have R2 : Hid (RowH _ _ _ _ _) := Row.chg R1 cF (.inr HS.out)
          have Q2 : Hid (RowH _ _ _ _ _) := Row.chg (Row.chg hQ.out cL (.inr (by have := HS.out; omega))) cF (.inr (by have := HS.out; omega))
          have C2 := Lib.hid ((hC.out.trans cL).trans cF)
          have O2 := Lib.hid oF
          clear oL cL oF cF K1 R1
          go_wp2_with fail
          go_roundw
          case rel => exact ⟨j + 1, by omega, by go_num, m + 1, by rw [HE.out]; exact congrArg (· + 1) hm.out, by omega, by go_num, by rw [HE.out]; exact O2, K2, R2, Q2, C2⟩
          case measure => simp [intOf]; omega
        · have HE := Lib.hid (HNO.out (.inr rfl))
          clear oL cL
          go_wp2_with fail
          go_roundw
          case rel => exact ⟨j + 1, by omega, by go_num, m, by rw [HE.out]; exact hm, by omega, rfl, by rw [HE.out]; exact hO, hK, hR, hQ, hC⟩
          case measure => simp [intOf]; omega
    · obtain rfl : j = n := by omega
      have HO := Lib.hid hO.out; have HMM := Lib.hid hm.out
      go_wp2_with (first
        | (refine wl_loadH rfl _ rfl w.heap.size _ _ _ hR.out rfl ?_)
        | (refine wl_storeH rfl _ _ rfl (w.heap.size + 1) (.slice pa j qa) (.slice pb j qb) (.slice pc nr qc) _ _ _ hQ.out rfl rfl rfl rfl rfl ?_))
      refine bodyPost_ret (res_row_slot Try.results52 (Row.put hQ.out (c3 (.slice pa j qa) (.slice pb j qb) (.slice pc nr qc))) rfl rfl Try.underlying27 rfl info_heap) rfl ⟨?_, HO.out.wholeRow hQ.out _, ⟨hC.out.os, hC.out.tape, hC.out.output, by rw [size_setRow]; exact hC.out.size, fun i hi hx => (setRow_other _ _ i _ (by omega)).trans (hC.out.block i hi hx)⟩⟩
      rw [HMM.out]; rfl
end Go.Proofs.Ytcjkkbbinieblaa
