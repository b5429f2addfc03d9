/- The reference's NewThing. -/
import Derived.Test.YthanckifinfpiaaHn6
import Derived.Test.YthanckifinfpiaaHs6
import Derived.Test.YthanckifinfpiaaHp1
namespace Go.Proofs.Ythanckifinfpiaa.Ph
theorem set_last {α : Type} (l : List α) (x y : α) : (l ++ [x]).set l.length y = l ++ [y] := by
  rw [List.set_append_right _ _ (Nat.le_refl _), Nat.sub_self, List.set_cons_zero]
theorem newS_yes {h : H} {m : Nat} (g : Good h) (hok : newOk h (m : Int) = true) : newS h m = ((newP h (m : Int)).1, (((newP h (m : Int)).2 : Nat) : Int)) := by
  rw [newP_yes hok, Int.toNat_natCast]
  have hle := place_le h.l
  have hll := g.ll
  unfold newOk at hok
  simp only [Bool.and_eq_true, decide_eq_true_eq] at hok
  have h12 := hok.2
  unfold newS grown1
  by_cases hp : placeOf h.l < h.l.length
  · rw [if_pos hp, if_pos hp]
  · have hpe : placeOf h.l = h.l.length := by omega
    rw [if_neg hp, if_neg hp, if_neg (by omega)]
    unfold put1
    simp only
    have e1 : (h.f ++ [[]]).set (placeOf h.l) (List.replicate m (-1)) = h.f ++ [List.replicate m (-1)] := by rw [hpe, hll]; exact set_last _ _ _
    have e2 : (h.l ++ [false]).set (placeOf h.l) true = h.l ++ [true] := by rw [hpe]; exact set_last _ _ _
    rw [e1, e2, hpe, hll]
theorem newS_no {h : H} {m : Nat} (g : Good h) (hm : m ≤ 3) (hok : newOk h (m : Int) = false) : (newS h m).2 = -1 := by
  have hle := place_le h.l
  have hll := g.ll
  have hn := g.n
  have h12 : ¬ placeOf h.l < 12 := fun q => by
    have : newOk h (m : Int) = true := by
      unfold newOk
      rw [good_iff.2 g, decide_eq_true (show (0 : Int) ≤ (m : Int) by omega), decide_eq_true (show (m : Int) ≤ 3 by omega), decide_eq_true q]; rfl
    rw [hok] at this; cases this
  unfold newS
  rw [if_neg (by omega), if_pos (by omega)]
theorem newP_wt (h : H) (m : Int) : wtH (newP h m).1 ≤ 1000 := by
  cases hok : newOk h m with
  | false => rw [newP_no hok]; exact nil_wt
  | true =>
    have hok' := hok
    unfold newOk at hok'
    simp only [Bool.and_eq_true, decide_eq_true_eq] at hok'
    have g := good_iff.1 hok'.1.1.1
    have h12 := hok'.2
    have hm := hok'.1.2
    have hm0 := hok'.1.1.2
    rw [newP_yes hok]
    have hll := g.ll
    have hn := g.n
    have hgl : (grown1 h).f.length ≤ 12 ∧ (grown1 h).l.length ≤ 12 ∧ (grown1 h).r.length ≤ 4 ∧ ∀ i, ((grown1 h).f.getD i []).length ≤ 3 := by
      have hrow : ∀ i, (h.f.getD i []).length ≤ 3 := fun i => by
        by_cases hi : i < h.f.length
        · exact (g.row i hi).1
        · simp [List.getD, List.getElem?_eq_none (Nat.le_of_not_lt hi)]
      unfold grown1
      split
      · exact ⟨hn, by omega, g.rn, hrow⟩
      · next q =>
        have := place_le h.l
        refine ⟨by simp; omega, by simp; omega, g.rn, fun i => ?_⟩
        by_cases hi : i < h.f.length
        · have := hrow i
          simpa [List.getD, List.getElem?_append_left hi] using this
        · by_cases hi2 : i = h.f.length
          · subst hi2; simp [List.getD]
          · have : (h.f ++ [([] : List Int)])[i]? = none := List.getElem?_eq_none (by simp; omega)
            simp [List.getD, this]
    refine small_wt (h := put1 (grown1 h) (placeOf h.l) m.toNat) (by unfold put1; simp only [List.length_set]; exact hgl.1) (fun i hi => ?_) (by unfold put1; simp only [List.length_set]; exact hgl.2.1) hgl.2.2.1
    unfold put1
    simp only
    by_cases hi : placeOf h.l < (grown1 h).f.length
    · rw [getD_setL hi]
      split
      · simp; omega
      · exact hgl.2.2.2 i
    · rw [List.set_eq_of_length_le (by omega)]; exact hgl.2.2.2 i
end Go.Proofs.Ythanckifinfpiaa.Ph
namespace Go.Proofs.Ythanckifinfpiaa
open Go.RowKit Ph

set_option maxRecDepth 100000 in
set_option maxHeartbeats 6400000 in
theorem s_NewThing (a b c : Value) (h : H) (m : Int) (w : World) (hA : HeapAt w a b c h) : Calls Try.prog 32 #[hv a b c, .int .i64 m] w (EndHI (newP h m).1 ((newP h m).2 : Int) (newOk h m) w) := by
  have hb0 := (below1 w (.cells (c3 a b c) 27)).alloc (by simp) (.cells (c3 (.slice none 0 0) (.slice none 0 0) (.slice none 0 0)) 27)
  have A0 := Lib.hid (hA.below hb0)
  have HB := Lib.hid hb0
  have P0 := Lib.hid (show RowH _ _ a b c from (Row.new w 27 (c3 a b c)).alloc (.cells (c3 (.slice none 0 0) (.slice none 0 0) (.slice none 0 0)) 27))
  have R0 := Lib.hid (show RowH _ (w.heap.size + 1) (.slice none 0 0) (.slice none 0 0) (.slice none 0 0) from Row.new1 w (.cells (c3 a b c) 27) 27 (c3 (.slice none 0 0) (.slice none 0 0) (.slice none 0 0)))
  clear hA hb0
  have HC := Lib.hid (s_GoodHeap a b c h _ A0.out)
  have G1 := Lib.hid (good_iff (h := h)).1
  have E1 := Lib.hid (newP_no (h := h) (m := m))
  have HIN : Hid (∀ w', Calls Try.prog 94 #[.int .i64 m, .int .i64 0, .int .i64 3] w' fun e w'' => e = .returned (.bool (inB 0 3 m)) ∧ w' = w'') := fun w' => s_l1In m 0 3 w'
  have hok : newOk h m = (good h && decide (0 ≤ m) && decide (m ≤ 3) && decide (placeOf h.l < 12)) := rfl
  have HI3 := Lib.hid (inB_iff (lo := 0) (hi := 3) (z := m)).1
  have hi3 : inB 0 3 m = (decide (0 ≤ m) && decide (m ≤ 3)) := rfl
  have HOK := Lib.hid hok
  generalize hg : good h = x at *
  have p0 := P0.out.c0
  have p1 := P0.out.c1
  have p2 := P0.out.c2
  cases x
  · have HE : Hid (newOk h m = false) := by unfold Hid; rw [hok]; rfl
    clear hok hi3 HOK HI3 G1 hg
    go_enter Try.func32, Try.ntmps32
    go_wp2_with (first
      | (go_at_call 75; refine HC.out.mono ?_; rintro e w1 ⟨rfl, hb1⟩; have B1 := Lib.hid (bst HB.out hb1 HB.out.size); have A1 := Lib.hid (A0.out.below hb1); have P1 := Lib.hid (P0.out.below hb1); have R1 := Lib.hid (R0.out.below hb1); have d10 := P1.out.c0; have d11 := P1.out.c1; have d12 := P1.out.c2; clear hb1)
      | (refine wl_storeH rfl _ _ rfl (w.heap.size + 1) (.slice none 0 0) (.slice none 0 0) (.slice none 0 0) _ _ _ R1.out rfl rfl rfl rfl rfl ?_))
    refine bodyPost_ret (res_row_slot2 Try.results32 (Row.put R1.out (c3 (.slice none 0 0) (.slice none 0 0) (.slice none 0 0))) rfl rfl rfl Try.underlying27 rfl info_heap) rfl (endHI_no (below_setRow B1.out (by omega) _) (by rw [E1.out HE.out]) (by rw [E1.out HE.out]; rfl) HE.out)
  have G := Lib.hid (G1.out rfl)
  clear G1 hg
  generalize hy : inB 0 3 m = y at *
  cases y
  · have HE : Hid (newOk h m = false) := by unfold Hid; rw [hok, Bool.true_and, ← hi3]; rfl
    clear hok hi3 HOK HI3 hy
    go_enter Try.func32, Try.ntmps32
    go_wp2_with (first
      | (go_at_call 75; refine HC.out.mono ?_; rintro e w1 ⟨rfl, hb1⟩; have B1 := Lib.hid (bst HB.out hb1 HB.out.size); have A1 := Lib.hid (A0.out.below hb1); have P1 := Lib.hid (P0.out.below hb1); have R1 := Lib.hid (R0.out.below hb1); have d10 := P1.out.c0; have d11 := P1.out.c1; have d12 := P1.out.c2; clear hb1)
      | (go_at_call 94; refine (HIN.out _).mono ?_; rintro e w2 ⟨rfl, rfl⟩)
      | (refine wl_storeH rfl _ _ rfl (w.heap.size + 1) (.slice none 0 0) (.slice none 0 0) (.slice none 0 0) _ _ _ R1.out rfl rfl rfl rfl rfl ?_))
    refine bodyPost_ret (res_row_slot2 Try.results32 (Row.put R1.out (c3 (.slice none 0 0) (.slice none 0 0) (.slice none 0 0))) rfl rfl rfl Try.underlying27 rfl info_heap) rfl (endHI_no (below_setRow B1.out (by omega) _) (by rw [E1.out HE.out]) (by rw [E1.out HE.out]; rfl) HE.out)
  obtain ⟨m0, m3⟩ := HI3.out rfl
  obtain ⟨mm, rfl⟩ : ∃ k : Nat, m = k := ⟨m.toNat, by omega⟩
  have hmm : mm ≤ 3 := by omega
  have HMM := Lib.hid hmm
  have HYES := Lib.hid (newS_yes (m := mm) G.out)
  have HNO := Lib.hid (newS_no (m := mm) G.out hmm)
  clear hok hi3 HOK HI3 hy m0 m3 hmm
  generalize hz : newOk h (mm : Int) = z at *
  have HZ := Lib.hid hz; clear hz
  go_enter Try.func32, Try.ntmps32
  go_wp2_with (first
    | (go_at_call 75; refine HC.out.mono ?_; rintro e w1 ⟨rfl, hb1⟩; have B1 := Lib.hid (bst HB.out hb1 HB.out.size); have A1 := Lib.hid (A0.out.below hb1); have P1 := Lib.hid (P0.out.below hb1); have R1 := Lib.hid (R0.out.below hb1); have d10 := P1.out.c0; have d11 := P1.out.c1; have d12 := P1.out.c2; clear hb1)
    | (go_at_call 94; refine (HIN.out _).mono ?_; rintro e w2 ⟨rfl, rfl⟩))
  refine (s_l5Own a b c h _ A1.out G.out).mono ?_
  rintro e w3 ⟨a3, b3, c3', rfl, ho3, hb3⟩
  have B3 := Lib.hid (bst B1.out hb3 B1.out.size)
  have O3 := Lib.hid ho3
  have R3 := Lib.hid (R1.out.below hb3)
  have S3 : Hid (w1.heap.size ≤ w3.heap.size) := hb3.size
  clear ho3 hb3 d10 d11 d12 p0 p1 p2
  go_wp2_with fail
  refine (s_l5New a3 b3 c3' h mm w1.heap.size w3.heap.size w3 O3.out S3.out (Nat.le_refl _) G.out.n G.out.ll HMM.out).mono ?_
  rintro e w4 ⟨a4, b4, c4', rfl, ho4, hb4, hrw4⟩
  obtain ⟨⟨pa, qa, rfl⟩, ⟨pb, qb, rfl⟩, ⟨pc, qc, rfl⟩⟩ := ho4.shapes
  have B4 := Lib.hid (B3.out.trans (hb4.mono B1.out.size))
  have R4 := Lib.hid (show RowH _ _ _ _ _ from hrw4 _ _ R3.out)
  have O4 := Lib.hid ho4
  clear ho4 hb4 hrw4
  cases z
  · have HNP := Lib.hid (E1.out rfl)
    rw [HNO.out rfl]
    clear HYES HNO E1
    generalize (newS h mm).1 = hN at *
    generalize hN.f.length = na at *
    generalize hN.l.length = nb at *
    generalize hN.r.length = nc at *
    have R5 := Lib.hid (show RowH _ _ _ _ _ from Row.alloc R4.out (.cells (c3 (.slice pa na qa) (.slice pb nb qb) (.slice pc nc qc)) 27))
    have B5 := Lib.hid (B4.out.alloc B4.out.size (.cells (c3 (.slice pa na qa) (.slice pb nb qb) (.slice pc nc qc)) 27))
    go_wp2_with (refine wl_storeH rfl _ _ rfl (w.heap.size + 1) (.slice none 0 0) (.slice none 0 0) (.slice none 0 0) _ _ _ R5.out rfl rfl rfl rfl rfl ?_)
    refine bodyPost_ret (res_row_slot2 Try.results32 (Row.put R5.out (c3 (.slice none 0 0) (.slice none 0 0) (.slice none 0 0))) rfl rfl rfl Try.underlying27 rfl info_heap) rfl (endHI_no (below_setRow B5.out (by omega) _) (by rw [HNP.out]) (by rw [HNP.out]; rfl) rfl)
  · have hns := HYES.out rfl
    have hn2 : (newS h mm).2 = (((newP h (mm : Int)).2 : Nat) : Int) := by rw [hns]
    rw [hn2]
    clear hn2
    have HN1 : Hid ((newS h mm).1 = (newP h (mm : Int)).1) := by unfold Hid; rw [hns]
    clear HYES HNO hns
    generalize (newS h mm).1 = hN at *
    generalize (newP h (mm : Int)).2 = kk at *
    generalize hN.f.length = na at *
    generalize hN.l.length = nb at *
    generalize hN.r.length = nc at *
    have hk0 : ¬ (kk : Int) < 0 := by omega
    have R5 := Lib.hid (show RowH _ _ _ _ _ from Row.alloc R4.out (.cells (c3 (.slice pa na qa) (.slice pb nb qb) (.slice pc nc qc)) 27))
    have V5 := Lib.hid (show RowH _ _ _ _ _ from Row.new w4 27 (c3 (.slice pa na qa) (.slice pb nb qb) (.slice pc nc qc)))
    have B5 := Lib.hid (B4.out.alloc B4.out.size (.cells (c3 (.slice pa na qa) (.slice pb nb qb) (.slice pc nc qc)) 27))
    have O5 := Lib.hid (O4.out.below (below1 w4 (.cells (c3 (.slice pa na qa) (.slice pb nb qb) (.slice pc nc qc)) 27)))
    have S5 : Hid (w4.heap.size ≤ (w4.alloc (.cells (c3 (.slice pa na qa) (.slice pb nb qb) (.slice pc nc qc)) 27)).heap.size) := by unfold Hid; simp
    go_wp2_with (first
      | (refine wl_loadH rfl _ rfl w4.heap.size _ _ _ V5.out rfl ?_)
      | (refine wl_storeH rfl _ _ rfl (w.heap.size + 1) (.slice pa na qa) (.slice pb nb qb) (.slice pc nc qc) _ _ _ R5.out rfl rfl rfl rfl rfl ?_))
    refine bodyPost_ret (res_row_slot2 Try.results32 (Row.put R5.out (c3 (.slice pa na qa) (.slice pb nb qb) (.slice pc nc qc))) rfl rfl rfl Try.underlying27 rfl info_heap) rfl (endHI_yes (below_setRow B5.out (by omega) _) (O5.out.wholeRow R5.out (c3 (.slice pa na qa) (.slice pb nb qb) (.slice pc nc qc))) B1.out.size (by rw [size_setRow]; exact S5.out) HN1.out.symm (show (kk : Int) = (kk : Int) from rfl) rfl)
end Go.Proofs.Ythanckifinfpiaa
