/- PlayRuns, the reference's. -/
import Derived.Test.YtdiejmebodpjeaaMw8
import Derived.Test.YtdiejmebodpjeaaSp2
import Derived.Test.YtdiejmebodpjeaaSp5
namespace Go.Proofs.Ytdiejmebodpjeaa
open Go.RowKit Go.Maps Go.Sort Pr

/-- append of one int, and where the new row lies. -/
theorem wl_appIat {ops : Array Oper} {rest : List Oper} {o : Oper} {a : Act} {w : World} {Q : Exit → Act → World → Prop} (hgd : o.guard = none) (s x : Operand) (ho : o.op = .call { callee := .builtin .append, args := #[s, x], argTypes := #[40, 40] })
    (B : Nat) (v : Value) (zs : List Int) (z : Int) (hs : a.eval s = v) (hown : Own w B v zs) (hx : a.eval x = .slice (some ⟨w.heap.size, 0, none⟩) 1 1) (hlen : zs.length ≤ 1000) (hb : B ≤ w.heap.size)
    (h : ∀ v' w', Own w' B v' (zs ++ [z]) → (w.alloc (.cells #[.int .i64 z] 3)).grownBy w' v.ownBlock → (v'.ownBlock = v.ownBlock ∨ v'.ownBlock = some (w.heap.size + 1)) → wpList Try.prog ops Q rest (a.put o.dst v') w') : wpList Try.prog ops Q (o :: rest) a (w.alloc (.cells #[.int .i64 z] 3)) := by
  obtain ⟨i0, hi, hz0, hz1, hz2⟩ := info_parts info_int
  refine wpList_append_own_at (w := w.alloc (.cells #[.int .i64 z] 3)) hgd s x 40 ho B 3 i0 (.int .i64 0) 1 8 Try.underlying40 hi hz0 hz1 hz2 rfl (by decide) v zs.length (zs.map (Value.int .i64)) hs (World.ownsRow.alloc hown _) ⟨w.heap.size, 0, none⟩ 1 1 [.int .i64 z] hx rfl ?_ ?_ ?_ ?_ ?_ ?_
  · intro j u hj
    match j, hj with
    | 0, hj => simp at hj; subst hj; simp [Addr.add]
  · intro u hu; simp at hu; subst hu; rfl
  · unfold maxLen; omega
  · omega
  · simp; omega
  · intro v' w' ho' hg _ hl
    refine h v' w' ?_ hg (by simpa using hl)
    unfold Own
    simpa using ho'
/-- A row's cells, as append reads them. -/
theorem runs_cells {w : World} {b off n c : Nat} {rs : List R} (h : RunsAt w (.slice (some ⟨b, off, none⟩) n c) rs) (j : Nat) (u : Value) (hj : (flat rs)[j]? = some u) : w.cell? ((⟨b, off, none⟩ : Addr).add j) = some u := by
  obtain ⟨a, cap, hv, hc⟩ := h
  simp only [Value.slice.injEq] at hv
  obtain ⟨rfl, rfl, rfl⟩ := hv
  have hlt : j < rs.length * 2 := by
    have := (List.getElem?_eq_some_iff.1 hj).1
    rwa [flat_length] at this
  obtain ⟨b', off', e, hc⟩ := hc (by omega)
  simp only [Option.some.injEq, Addr.mk.injEq, and_true] at e
  obtain ⟨rfl, rfl⟩ := e
  obtain ⟨q0, q1⟩ := hc (j / 2) (by omega)
  have hm : j = (j / 2) * 2 ∨ j = (j / 2) * 2 + 1 := by omega
  rw [Go.WideShapes.add_plain]
  rcases hm with hm | hm
  · rw [hm, flat_get0 rs (j / 2) (by omega)] at hj
    rw [hm]
    simp only [Option.some.injEq] at hj
    rw [← hj]
    have e : j / 2 * 2 / 2 = j / 2 := by omega
    exact q0
  · rw [hm, flat_get1 rs (j / 2) (by omega)] at hj
    rw [hm, ← Nat.add_assoc]
    simp only [Option.some.injEq] at hj
    rw [← hj]
    exact q1
/-- append of a list of runs to an empty row. -/
theorem wl_copyR {ops : Array Oper} {rest : List Oper} {o : Oper} {a : Act} {w : World} {Q : Exit → Act → World → Prop} (hgd : o.guard = none) (s x : Operand) (ho : o.op = .call { callee := .builtin .append, args := #[s, x], argTypes := #[23, 23] })
    (b off n c : Nat) (rs : List R) (hs : a.eval s = .slice (some ⟨w.heap.size, 0, none⟩) 0 0) (hr : RunsAt w (.slice (some ⟨b, off, none⟩) n c) rs) (hn : rs.length = n) (hx : a.eval x = .slice (some ⟨b, off, none⟩) n c) (hlen : n ≤ 1000)
    (h : ∀ v' w', OwnR w' w.heap.size v' rs → Below w.heap.size w w' → wpList Try.prog ops Q rest (a.put o.dst v') w') : wpList Try.prog ops Q (o :: rest) a (w.alloc (.cells #[] 33)) := by
  obtain ⟨i0, hi, hz0, hz1, hz2⟩ := info_parts info_runs
  have h0 : (w.alloc (.cells #[] 33)).ownsRow w.heap.size 33 2 (.slice (some ⟨w.heap.size, 0, none⟩) 0 0) 0 [] := ⟨rfl, .inr ⟨w.heap.size, 0, #[], rfl, Nat.le_refl _, Row.new w _ _, Nat.le_refl _, by unfold maxLen; omega, rfl, rfl⟩⟩
  refine wpList_append_own (w := w.alloc (.cells #[] 33)) hgd s x 23 ho w.heap.size 33 i0 (.agg #[.int .i64 0, .int .i64 0]) 2 16 Try.underlying23 hi hz0 hz1 hz2 rfl (by decide) _ 0 [] hs h0 ⟨b, off, none⟩ n c (flat rs) hx (by rw [flat_length, hn]) ?_ ?_ ?_ ?_ ?_ ?_
  · exact runs_cells (hr.below (below1 w _))
  · intro u hu
    simp only [flat, List.mem_flatMap] at hu
    obtain ⟨r, _, hr⟩ := hu
    simp at hr
    rcases hr with rfl | rfl <;> rfl
  · unfold maxLen; omega
  · omega
  · simp
  · intro v' w' ho' hg _
    refine h v' w' ?_ ((below1 w _).grown hg (by simp) (fun k hk => by simp [Value.ownBlock] at hk; omega))
    unfold OwnR
    rw [hn]
    simpa using ho'
theorem below_up {w w1 w2 : World} (h : Below w.heap.size w w1) (k : Below w1.heap.size w1 w2) : Below w.heap.size w w2 := bst h k h.size

set_option maxRecDepth 100000 in
set_option maxHeartbeats 6400000 in
theorem s_PlayRuns_yes (v : Value) (ss : List R) (w : World) (hA : RunsAt w v ss) (hI : Bnd ss) (hn40 : ss.length ≤ 40) : Calls Try.prog 25 #[v] w (EndP (playTo ss).1 (playTo ss).2 true w) := by
  obtain ⟨a, ca, rfl, hA⟩ := hA
  have HP : Hid (∀ k, k ≤ ss.length → good 0 (playTo (ss.take k)).1 = true ∧ (playTo (ss.take k)).2.length = k) := fun k hk => playTo_good ss k hk
  generalize hn : ss.length = n at *
  have HN := Lib.hid hn; clear hn
  have HA := Lib.hid hA; clear hA
  have HI := Lib.hid hI; clear hI
  have h40 : ¬ (n : Int) > 40 := by omega
  go_enter Try.func25, Try.ntmps25
  go_wp2_with (first
    | (go_at_call 32; refine (s_AllFree w).mono ?_; rintro e w1 ⟨v1, rfl, ho1, hb1⟩; have HO1 := Lib.hid ho1; have HB1 := Lib.hid hb1; clear ho1 hb1)
    | go_in)
  go_loopw [5, 6, 21] (fun vl vr i wr => ∃ k : Nat, k ≤ n ∧ i = .int .i64 k ∧ OwnR wr w.heap.size vl (playTo (ss.take k)).1 ∧ Own wr w.heap.size vr (playTo (ss.take k)).2 ∧ (vl.ownBlock = none ∨ vl.ownBlock ≠ vr.ownBlock) ∧ Below w.heap.size w wr) (fun _ _ i _ => n - (intOf i).toNat)
  case atStart => exact ⟨0, Nat.zero_le _, rfl, HO1.out, Own.nil _ _, (by cases hq : v1.ownBlock with | none => exact .inl rfl | some k => exact .inr (by simp [Value.ownBlock])), HB1.out⟩
  case round =>
    obtain ⟨k, hk, rfl, hol, hor, hap, hbr⟩ := hrel
    obtain ⟨hpg, hpl⟩ := HP.out k hk
    by_cases hlt : k < n
    · obtain ⟨b, off, rfl, hcc⟩ := HA.out (by omega)
      obtain ⟨p0, p1⟩ := hcc k hlt
      have q0 := cellBelow' hbr p0
      have q1 := cellBelow' hbr p1
      clear p0 p1 hcc
      have hsu := playTo_take_succ (ss := ss) (k := k) (by rw [HN.out]; exact hlt)
      have hzI := HI.out.at k
      generalize ss.getD k (0, 0) = z at q0 q1 hsu hzI
      obtain ⟨z1, z2⟩ := z
      simp only [] at q0 q1
      generalize playTo (ss.take k) = a at *
      obtain ⟨l, told⟩ := a
      simp only [] at hpg hpl hsu hol hor
      have i1 : (k : Int) < (n : Int) := by omega
      have hl16 := good_len16 hpg
      have HB2 := Lib.hid (bst hbr (below1 wr (.cells (cr (z1, z2)) 33)) hbr.size)
      have UL := Lib.hid (World.ownsRow.lt hol)
      have UR := Lib.hid (World.ownsRow.lt hor)
      have HOL := Lib.hid (hol.below (below1 wr (.cells (cr (z1, z2)) 33)))
      have HOR := Lib.hid (hor.below (below1 wr (.cells (cr (z1, z2)) 33)))
      have HRW := Lib.hid (Row.new wr 33 (cr (z1, z2)))
      have HPL := Lib.hid hpl
      have HL1000 : Hid (told.length ≤ 1000) := by unfold Hid; omega
      have hsz : (wr.alloc (.cells (cr (z1, z2)) 33)).heap.size = wr.heap.size + 1 := by simp
      have HSZ := Lib.hid hsz
      have HAP := Lib.hid hap
      clear hol hor hbr hpl hsz hap
      by_cases c : z1 < 0
      · cases ht : takeR l z2 with
        | none =>
          have HSU : Hid (playTo (ss.take (k + 1)) = (l, told ++ [-1])) := by unfold Hid; rw [hsu]; simp [stepL, stepO, c, ht]
          have HC : Hid (∀ w v, RunsAt w v l → Calls Try.prog 14 #[v, .int .i64 z2] w fun e w' => e = .returned (.tuple #[.slice none 0 0, .int .i64 0, .bool false]) ∧ Below w.heap.size w w') := fun w v h => s_TakeRun_no v l z2 w h (Bnd.good hpg) (by omega) ht
          clear ht
          clear hsu hpg hzI
          go_wp2_with (first
            | (go_at_call 14; refine (HC.out _ _ HOL.out.runs).mono ?_; rintro e w3 ⟨rfl, hb3⟩; have HOL3 := Lib.hid (HOL.out.below hb3); have HOR3 := Lib.hid (HOR.out.below hb3); have HB3 := Lib.hid (below_up HB2.out hb3); have hw3 : wr.heap.size < w3.heap.size := by { have := hb3.size; rw [HSZ.out] at this; omega }; clear hb3)
            | (at_builtin; refine wl_appIat (w := w3) rfl _ _ rfl w.heap.size u6 told (-1) rfl HOR3.out rfl HL1000.out HB3.out.size ?_; intro v4 w4 hown4 hgr4 hloc4; go_frame)
            | go_in)
          have hb4 := (HB3.out.alloc HB3.out.size (.cells #[.int .i64 ((-1))] 3)).grown hgr4 (by have := HB3.out.size; simp; omega) (fun j hj => (UR.out j hj).1)
          have hl4 := (HOL3.out.below (below1 w3 (.cells #[.int .i64 ((-1))] 3))).kept hgr4 HAP.out
          have hap4 : u5.ownBlock = none ∨ u5.ownBlock ≠ v4.ownBlock := by
            rcases hloc4 with h | h
            · rw [h]; exact HAP.out
            · rw [h]
              exact Or.inr (fun e => by have := (UL.out _ e).2; omega)
          go_roundw
          case rel => exact ⟨k + 1, by omega, by go_num, by rw [HSU.out]; exact hl4, by rw [HSU.out]; exact hown4, hap4, hb4⟩
          case measure => simp [intOf]; omega
        | some x =>
          obtain ⟨ts, p⟩ := x
          have HSU : Hid (playTo (ss.take (k + 1)) = (ts, told ++ [p])) := by unfold Hid; rw [hsu]; simp [stepL, stepO, c, ht]
          have HC : Hid (∀ w v, RunsAt w v l → Calls Try.prog 14 #[v, .int .i64 z2] w (End3 ts p true w)) := fun w v h => s_TakeRun_yes v l z2 ts p w h ht
          clear ht
          clear hsu hpg hzI
          go_wp2_with (first
            | (go_at_call 14; refine (HC.out _ _ HOL.out.runs).mono ?_; rintro e w3 ⟨v3, rfl, ho3, hb3⟩; have U3 := Lib.hid (World.ownsRow.lt ho3); have HOL3 := Lib.hid (ho3.mono HB2.out.size); have HOR3 := Lib.hid (HOR.out.below hb3); have HB3 := Lib.hid (below_up HB2.out hb3); have hw3 : wr.heap.size < w3.heap.size := by { have := hb3.size; rw [HSZ.out] at this; omega }; clear hb3 ho3)
            | (at_builtin; refine wl_appIat (w := w3) rfl _ _ rfl w.heap.size u6 told p rfl HOR3.out rfl HL1000.out HB3.out.size ?_; intro v4 w4 hown4 hgr4 hloc4; go_frame)
            | go_in)
          have hap3 : v3.ownBlock = none ∨ v3.ownBlock ≠ u6.ownBlock := ownApart (b := w3.heap.size) (d := wr.heap.size) U3.out UR.out (.inr (by rw [HSZ.out]; omega))
          have hb4 := (HB3.out.alloc HB3.out.size (.cells #[.int .i64 (p)] 3)).grown hgr4 (by have := HB3.out.size; simp; omega) (fun j hj => (UR.out j hj).1)
          have hl4 := (HOL3.out.below (below1 w3 (.cells #[.int .i64 (p)] 3))).kept hgr4 hap3
          have hap4 : v3.ownBlock = none ∨ v3.ownBlock ≠ v4.ownBlock := by
            rcases hloc4 with h | h
            · rw [h]; exact hap3
            · rw [h]
              exact Or.inr (fun e => by have := (U3.out _ e).2; omega)
          go_roundw
          case rel => exact ⟨k + 1, by omega, by go_num, by rw [HSU.out]; exact hl4, by rw [HSU.out]; exact hown4, hap4, hb4⟩
          case measure => simp [intOf]; omega
      · cases ht : giveR l (z1, z2) with
        | none =>
          have HSU : Hid (playTo (ss.take (k + 1)) = (l, told ++ [-1])) := by unfold Hid; rw [hsu]; simp [stepL, stepO, c, ht]
          have HC : Hid (∀ w v, RunsAt w v l → Calls Try.prog 22 #[v, rn (z1, z2)] w fun e w' => e = .returned (.tuple #[.slice none 0 0, .bool false]) ∧ Below w.heap.size w w') := fun w v h => s_GiveRun_no v l (z1, z2) w h (Bnd.good hpg) hzI (by omega) ht
          clear ht
          clear hsu hpg hzI
          go_wp2_with (first
            | (go_at_call 22; refine (HC.out _ _ HOL.out.runs).mono ?_; rintro e w3 ⟨rfl, hb3⟩; have HOL3 := Lib.hid (HOL.out.below hb3); have HOR3 := Lib.hid (HOR.out.below hb3); have HB3 := Lib.hid (below_up HB2.out hb3); have hw3 : wr.heap.size < w3.heap.size := by { have := hb3.size; rw [HSZ.out] at this; omega }; clear hb3)
            | (at_builtin; refine wl_appIat (w := w3) rfl _ _ rfl w.heap.size u6 told (-1) rfl HOR3.out rfl HL1000.out HB3.out.size ?_; intro v4 w4 hown4 hgr4 hloc4; go_frame)
            | go_in)
          have hb4 := (HB3.out.alloc HB3.out.size (.cells #[.int .i64 ((-1))] 3)).grown hgr4 (by have := HB3.out.size; simp; omega) (fun j hj => (UR.out j hj).1)
          have hl4 := (HOL3.out.below (below1 w3 (.cells #[.int .i64 ((-1))] 3))).kept hgr4 HAP.out
          have hap4 : u5.ownBlock = none ∨ u5.ownBlock ≠ v4.ownBlock := by
            rcases hloc4 with h | h
            · rw [h]; exact HAP.out
            · rw [h]
              exact Or.inr (fun e => by have := (UL.out _ e).2; omega)
          go_roundw
          case rel => exact ⟨k + 1, by omega, by go_num, by rw [HSU.out]; exact hl4, by rw [HSU.out]; exact hown4, hap4, hb4⟩
          case measure => simp [intOf]; omega
        | some ts =>
          have HSU : Hid (playTo (ss.take (k + 1)) = (ts, told ++ [0])) := by unfold Hid; rw [hsu]; simp [stepL, stepO, c, ht]
          have HC : Hid (∀ w v, RunsAt w v l → Calls Try.prog 22 #[v, rn (z1, z2)] w (End2 ts true w)) := fun w v h => s_GiveRun_yes v l (z1, z2) ts w h ht
          clear ht
          clear hsu hpg hzI
          go_wp2_with (first
            | (go_at_call 22; refine (HC.out _ _ HOL.out.runs).mono ?_; rintro e w3 ⟨v3, rfl, ho3, hb3⟩; have U3 := Lib.hid (World.ownsRow.lt ho3); have HOL3 := Lib.hid (ho3.mono HB2.out.size); have HOR3 := Lib.hid (HOR.out.below hb3); have HB3 := Lib.hid (below_up HB2.out hb3); have hw3 : wr.heap.size < w3.heap.size := by { have := hb3.size; rw [HSZ.out] at this; omega }; clear hb3 ho3)
            | (at_builtin; refine wl_appIat (w := w3) rfl _ _ rfl w.heap.size u6 told 0 rfl HOR3.out rfl HL1000.out HB3.out.size ?_; intro v4 w4 hown4 hgr4 hloc4; go_frame)
            | go_in)
          have hap3 : v3.ownBlock = none ∨ v3.ownBlock ≠ u6.ownBlock := ownApart (b := w3.heap.size) (d := wr.heap.size) U3.out UR.out (.inr (by rw [HSZ.out]; omega))
          have hb4 := (HB3.out.alloc HB3.out.size (.cells #[.int .i64 (0)] 3)).grown hgr4 (by have := HB3.out.size; simp; omega) (fun j hj => (UR.out j hj).1)
          have hl4 := (HOL3.out.below (below1 w3 (.cells #[.int .i64 (0)] 3))).kept hgr4 hap3
          have hap4 : v3.ownBlock = none ∨ v3.ownBlock ≠ v4.ownBlock := by
            rcases hloc4 with h | h
            · rw [h]; exact hap3
            · rw [h]
              exact Or.inr (fun e => by have := (U3.out _ e).2; omega)
          go_roundw
          case rel => exact ⟨k + 1, by omega, by go_num, by rw [HSU.out]; exact hl4, by rw [HSU.out]; exact hown4, hap4, hb4⟩
          case measure => simp [intOf]; omega
    · have HE : Hid (ss.take k = ss) := by unfold Hid; exact List.take_of_length_le (by rw [HN.out]; omega)
      rw [HE.out] at hol hor hpg
      have hl16 := good_len16 hpg
      have UR := World.ownsRow.lt hor
      generalize (playTo ss).1 = l at *
      generalize (playTo ss).2 = told at *
      have HOL := Lib.hid hol; have HOR := Lib.hid hor; have HBR := Lib.hid hbr
      by_cases h0 : l.length = 0
      · obtain rfl : l = [] := List.eq_nil_of_length_eq_zero h0
        obtain ⟨al, cl, rfl, _⟩ := hol.shape
        have HE5 : Hid (OwnR (wr.alloc (.cells #[] 33)) w.heap.size (.slice (some ⟨wr.heap.size, 0, none⟩) 0 0) []) := ⟨rfl, .inr ⟨wr.heap.size, 0, #[], rfl, hbr.size, Row.new wr _ _, Nat.le_refl _, by unfold maxLen; omega, rfl, rfl⟩⟩
        have HB5 := Lib.hid (below_up hbr (below1 wr (.cells #[] 33)))
        have HO5 := Lib.hid (hor.below (below1 wr (.cells #[] 33)))
        have hapE : some wr.heap.size ≠ u6.ownBlock := fun e => by have := (UR _ e.symm).2; omega
        clear hol hor hbr hpg hpl UR hap h0
        simp only [List.length_nil] at HOL ⊢
        cases al with
        | none =>
          go_wp2
          go_ret3
          exact ⟨_, _, rfl, HE5.out, HO5.out, .inr hapE, HB5.out⟩
        | some ad =>
          go_wp2
          go_ret3
          exact ⟨_, _, rfl, HE5.out, HO5.out, .inr hapE, HB5.out⟩
      · obtain ⟨g3, c3, rfl⟩ := hol.some (by omega)
        have HRN := Lib.hid hol.runs
        have HUR := Lib.hid UR
        obtain ⟨nl, hnl⟩ : ∃ n, n = l.length := ⟨_, rfl⟩
        have HNL : Hid (l.length = nl) := hnl.symm
        rw [← hnl] at HRN hl16 ⊢
        clear hol hor hbr hpg hpl UR hap h0 hnl
        go_wp2_with (first
          | (at_builtin; refine wl_copyR (w := wr) rfl _ _ rfl g3 0 nl c3 l rfl HRN.out HNL.out rfl (by omega) ?_; intro v5 w5 ho5 hb5; have HV := Lib.hid (ownApart (World.ownsRow.lt ho5) HUR.out (.inr (Nat.le_refl _))); have HO5 := Lib.hid (ho5.mono HBR.out.size); have HR5 := Lib.hid (HOR.out.below hb5); have HB5 := Lib.hid (below_up HBR.out hb5); clear ho5 hb5)
          | go_in)
        go_ret3
        exact ⟨_, _, rfl, HO5.out, HR5.out, HV.out, HB5.out⟩
theorem s_PlayRuns_no (v : Value) (ss : List R) (w : World) (hA : RunsAt w v ss) (hn40 : ¬ ss.length ≤ 40) : Calls Try.prog 25 #[v] w (EndP [] [] false w) := by
  obtain ⟨a, ca, rfl, hA⟩ := hA
  generalize ss.length = n at *
  have h40 : (n : Int) > 40 := by omega
  clear hA
  go_enter Try.func25, Try.ntmps25
  go_wp2
  go_ret3
  exact ⟨_, _, rfl, OwnR.nil _ _, Own.nil _ _, .inl rfl, Below.refl _ _⟩
end Go.Proofs.Ytdiejmebodpjeaa
