/- What the laws rest on, part 2. -/
import Derived.Test.YtkbphmnacdpdgaaRD1
import Derived.Lib.AppendZerosOnto
import Derived.Shelf.Slices.In.SortNone
import Derived.Sort.OwnSortedInts
import Derived.Deep.Cut
namespace Go.Proofs.Ytkbphmnacdpdgaa
open Go.RowKit Ph Kw Go.Sort

set_option maxHeartbeats 1600000 in
theorem c_itemsTo (n : Nat) (w : World) (hn : n ≤ 100) : Calls Try.prog 71 #[.int .i64 n] w fun e w' => ∃ v, e = .returned v ∧ Own w' w.heap.size v (upTo n) ∧ Below w.heap.size w w' := by
  obtain ⟨i0, hi, hz0, hz1, hz2⟩ := info_parts info_int
  have HN : Hid ((upTo n).length = n) := upTo_length n
  have HG : Hid (∀ j, j < n → (upTo n).getD j 0 = (j : Int) + 1) := fun j hj => upTo_getD hj
  have HLE := Lib.hid hn
  go_enter Try.func71, Try.ntmps71
  generalize upTo n = zs at *
  go_wp2_with (refine wpList_make_full _ rfl _ _ 26 rfl w.heap.size 3 i0 (.int .i64 0) 1 Try.underlying26 hi hz0 hz1 .i64 .i64 _ _ n rfl rfl rfl rfl (by rw [hz2]; omega) (by unfold maxLen; omega) (Nat.le_refl _) ?_; intro w1 hown hgr; rw [Nat.mul_one, show (Value.int .i64 0).cells = #[.int .i64 0] from rfl, toList_madeCells_one] at hown; have hb := (Below.refl w.heap.size w).grown hgr (Nat.le_refl _) (fun k hk => by cases hk); have HO := Lib.hid hown; clear hown hgr)
  go_loopw [9] (fun i wr => ∃ j : Nat, j ≤ n ∧ i = .int .i64 j ∧ Own wr w.heap.size (.slice (some ⟨w.heap.size, 0, none⟩) n n) (fillTo zs j) ∧ Below w.heap.size w wr) (fun i _ => n - (intOf i).toNat)
  case atStart =>
    refine ⟨0, Nat.zero_le _, rfl, ?_, hb⟩
    unfold Own
    rw [fillTo_length zs (Nat.zero_le _), HN.out, fillTo_zero, HN.out, List.map_replicate]
    exact HO.out
  case round =>
    obtain ⟨j, hj, rfl, hown, hbr⟩ := hrel
    by_cases hlt : j < n
    · have hlen := fillTo_length zs (j := j) (by rw [HN.out]; exact hj)
      have hown' : wr.ownsRow w.heap.size 3 1 (.slice (some ⟨w.heap.size, 0, none⟩) n n) n ((fillTo zs j).map (Value.int .i64)) := by
        have := hown; unfold Own at this; rwa [hlen, HN.out] at this
      have hfr := hown'.frozenAt j
      obtain ⟨x, hx⟩ : ∃ x, wr.cell? ⟨w.heap.size, j, none⟩ = some x := by
        rw [hown'.cellAt j (by omega), List.getElem?_map, List.getElem?_eq_getElem (by rw [hlen, HN.out]; exact hlt)]
        exact ⟨_, rfl⟩
      obtain ⟨s1, s2⟩ := hown'.stored j (.int .i64 (zs.getD j 0))
      have S1 : Hid (Own (wr.setCell ⟨w.heap.size, j, none⟩ (.int .i64 (zs.getD j 0))) w.heap.size (.slice (some ⟨w.heap.size, 0, none⟩) n n) (fillTo zs (j + 1))) := by
        unfold Hid Own
        rw [fillTo_length zs (by rw [HN.out]; omega), HN.out, ← fillTo_set zs (by rw [HN.out]; exact hlt), List.map_set]
        exact s1
      have S2 := Lib.hid (hbr.setCell (p := ⟨w.heap.size, j, none⟩) (Nat.le_refl _) (.int .i64 (zs.getD j 0)))
      rw [HG.out j hlt] at S1 S2
      have i1 : IntKind.i64.wrap ((j : Int) + 1) = (j : Int) + 1 := IntWalk.i64_in _ (by omega)
      clear s1 s2 hown hown' hlen
      go_wp2
      go_roundw
      case rel => exact ⟨j + 1, by omega, by go_num, S1.out, S2.out⟩
      case measure => simp [intOf]; omega
    · obtain rfl : j = n := by omega
      go_wp2
      go_ret
      refine ⟨_, rfl, ?_, hbr⟩
      have := hown
      rw [← HN.out, fillTo_all, HN.out] at this
      exact this
/-- A list sorted where it lies. -/
theorem c_sortOwn (v : Value) (zs : List Int) (B : Nat) (w : World) (ho : Own w B v zs) (hm : zs.length ≤ 4000000) : Calls Try.prog 86 #[v] w fun e w' => e = .returned (.tuple #[]) ∧ Own w' B v (srt zs) ∧ w.grownBy w' v.ownBlock := by
  have ho' := ho
  rcases ho.2 with ⟨rfl, h0⟩ | ⟨g, cap, cur, rfl, hbase, hb, h1, h2, h3, h4⟩
  · have e0 : zs = [] := List.eq_nil_of_length_eq_zero h0
    subst e0
    refine (Any.slices_Sort_int_none Try.lays189 none 0 w).mono ?_
    rintro e w' ⟨rfl, rfl⟩
    exact ⟨rfl, by rw [show srt [] = [] from List.mergeSort_nil]; exact ho', World.grownBy.refl _ _⟩
  · have hH : Holds (Value.int .i64) w g 0 zs.toArray := holds_of_blockI hb (by simpa using h4)
    have hgl : g < w.heap.size := (Array.getElem?_eq_some_iff.1 hb).1
    refine (Try.slices_Sort_int g 0 cap zs w hH hgl (by omega)).mono ?_
    rintro e w' ⟨rfl, nn, os, rfl⟩
    refine ⟨rfl, ?_, grownBy_sortedI _⟩
    have := ownsRow_sortedI (n := nn) (os := os) (ss := zs) (ts := srt zs) (srt_length zs) hbase hb h1 h2 h3
    unfold Own
    rw [srt_length]
    exact this
set_option maxRecDepth 100000 in
set_option maxHeartbeats 1600000 in
theorem c_growNil (n : Nat) (w : World) (hn : n ≤ 4000000) : Calls Try.prog 96 #[.slice none 0 0, .int .i64 n] w fun e w' => ∃ v, e = .returned v ∧ Own w' w.heap.size v [] ∧ w.grownBy w' none := by
  obtain ⟨i0, hi, hz0, hz1, hz2⟩ := info_parts info_int
  have h1 : ¬ ((n : Int) < 0) := by omega
  have h3 : IntKind.i64.wrap ((n : Int) - 0) = (n : Int) := by rw [Int.sub_zero]; exact IntWalk.i64_in _ (by omega)
  by_cases h0 : n = 0
  · subst h0
    go_enter Try.func96, Try.ntmps96
    go_wp2
    go_ret
    exact ⟨_, rfl, Own.nil _ _, World.grownBy.refl _ _⟩
  · have h4 : (n : Int) > 0 := by omega
    have hrun := fun ty => Lib.run_append_grow_zeros (P := Try.prog) w 26 3 ty 3 i0 (.int .i64 0) .i64 .i64 Try.underlying26 Try.underlying3 hi hz0 none 0 0 [] (run_firstCells_none w.drew i0.size 0 0 0) n (by omega) (by rw [hz1]; omega) (by omega) (by omega) (by rw [hz2]; omega)
      (growslice_fits (by omega) (by rw [hz2]; omega))
    simp only [Nat.zero_add] at hrun
    have hGn : n ≤ grownCap w n 0 3 := grownCap_ge w _ _ _
    have hGm : grownCap w n 0 3 ≤ maxLen := grownCap_le_maxLen w n 0 3 (by unfold maxLen; omega)
    generalize grownCap w n 0 3 = G at *
    have HGM := Lib.hid hGm; have HGN := Lib.hid hGn
    clear hGm h0
    go_enter Try.func96, Try.ntmps96
    go_wp2_with (at_builtin; refine Lib.wpList_append_run _ rfl _ _ _ _ rfl _ _ rfl rfl _ _ (hrun _) ?_)
    go_ret
    refine ⟨_, rfl, ⟨rfl, .inr ⟨w.heap.size, G, _, rfl, Nat.le_refl _, heap_alloc_new w.drew _, Nat.zero_le _, HGM.out, ?_, rfl⟩⟩, ⟨rfl, rfl, rfl, by simp, fun k hk _ => heap_alloc_old w.drew _ hk⟩⟩
    have := HGN.out
    simp [size_zeroCells]
    omega
theorem flat_succ {fs : List (List Int)} {k : Nat} (h : k < fs.length) : (fs.take (k + 1)).flatten = (fs.take k).flatten ++ fs.getD k [] := by
  rw [List.take_succ_eq_append_getElem h, List.flatten_append]
  simp [List.getD, h]
theorem flat_len : ∀ {fs : List (List Int)} {k : Nat}, k ≤ fs.length → (fs.take k).flatten.length = sumL fs k
  | _, 0, _ => by simp [sumL]
  | fs, k + 1, h => by
    rw [flat_succ (by omega), sumL_succ (by omega), List.length_append, flat_len (by omega)]
set_option maxRecDepth 100000 in
set_option maxHeartbeats 1600000 in
theorem c_concat (v : Value) (fs : List (List Int)) (w : World) (hA : RowsAt w v fs) (hl : fs.length ≤ 1000) (hm : sumL fs fs.length ≤ 1000000) : Calls Try.prog 88 #[v] w fun e w' => ∃ v', e = .returned v' ∧ Own w' w.heap.size v' fs.flatten ∧ Below w.heap.size w w' := by
  obtain ⟨i0, hi, hz0, hz1, hz2⟩ := info_parts info_int
  have HLE := Lib.hid (fun k => sumL_mono fs (j := k) (k := fs.length))
  have HSU := Lib.hid (fun k hk => sumL_succ (fs := fs) (k := k) hk)
  have HFL := Lib.hid (fun k hk => flat_succ (fs := fs) (k := k) hk)
  have HFN := Lib.hid (fun k hk => flat_len (fs := fs) (k := k) hk)
  have HTK := Lib.hid (show fs.take fs.length = fs from List.take_length)
  obtain ⟨a, c, rfl, hc⟩ := hA
  generalize hn : fs.length = n at *
  have HN := Lib.hid hn; have HC := Lib.hid hc; have HMM := Lib.hid hm
  clear hn hc hm
  go_enter Try.func88, Try.ntmps88
  go_wp2_with fail
  go_loopw [3, 11] (fun s i wr => ∃ k : Nat, k ≤ n ∧ i = .int .i64 k ∧ s = .int .i64 (sumL fs k) ∧ wr = w) (fun _ i _ => n - (intOf i).toNat)
  case atStart => exact ⟨0, Nat.zero_le _, rfl, by rw [sumL_zero]; rfl, rfl⟩
  case round =>
    obtain ⟨k, hk, rfl, rfl, hw⟩ := hrel
    replace hw := hw.symm
    subst hw
    by_cases hlt : k < n
    · obtain ⟨b, off, rfl, hcc⟩ := HC.out (by omega)
      obtain ⟨u, q, hu⟩ := hcc k hlt
      obtain ⟨p, cp, rfl⟩ := hu.shape
      have e1 := HSU.out k hlt
      have e2 := HLE.out (k + 1) (by omega)
      have e3 := HMM.out
      have i1 : IntKind.i64.wrap (((sumL fs k : Nat) : Int) + ((fs.getD k []).length : Int)) = ((sumL fs (k + 1) : Nat) : Int) := by rw [IntWalk.i64_in _ (by omega), e1]; omega
      have i2 : ¬ ((sumL fs (k + 1) : Nat) : Int) < 0 := by omega
      have i3 : (k : Int) < (n : Int) := by omega
      clear hcc hu e1 e2 e3
      generalize (fs.getD k []).length = m at *
      generalize hs1 : sumL fs (k + 1) = s1 at *
      have HS1 := Lib.hid hs1; clear hs1
      generalize sumL fs k = s0 at *
      go_wp2_with fail
      go_roundw
      case rel => exact ⟨k + 1, by omega, by go_num, by rw [HS1.out], by first | rfl | trivial⟩
      case measure => simp [intOf]; omega
    · obtain rfl : k = n := by omega
      go_wp2_with (go_at_call 96; refine (c_growNil (sumL fs k) _ (by have := HMM.out; omega)).mono ?_; rintro e w1 ⟨v1, rfl, ho1, hg1⟩; have O1 := Lib.hid ho1; have B1 := Lib.hid ((Below.refl w.heap.size w).grown hg1 (Nat.le_refl _) (fun k hk => by cases hk)); clear ho1 hg1)
      go_loopw [6, 27] (fun s i wr => ∃ j : Nat, j ≤ k ∧ i = .int .i64 j ∧ Hid (Own wr w.heap.size s (fs.take j).flatten) ∧ Hid (Below w.heap.size w wr)) (fun _ i _ => k - (intOf i).toNat)
      case atStart => exact ⟨0, Nat.zero_le _, rfl, by rw [List.take_zero]; exact O1, B1⟩
      case round =>
        obtain ⟨j, hj, rfl, how, hbw⟩ := hrel
        by_cases hlt : j < k
        · obtain ⟨b, off, rfl, hcc⟩ := HC.out (by omega)
          obtain ⟨u, q0, hu⟩ := hcc j hlt
          have q := cellBelow hbw.out (Nat.le_refl _) q0
          have hsrc := Lib.hid (hu.below hbw.out).src
          have e1 := HFL.out j hlt
          have e2 := HFN.out j (by omega)
          have e3 := HFN.out (j + 1) (by omega)
          have e4 := HLE.out (j + 1) (by omega)
          rw [e1] at e3
          have HE1 := Lib.hid e1
          have HLN : Hid ((fs.take j).flatten.length + ((fs.getD j []).map (Value.int .i64)).length ≤ 1000000) := by
            unfold Hid; rw [List.length_map, ← List.length_append, e3]; exact Nat.le_trans e4 HMM.out
          have i3 : (j : Int) < (k : Int) := by omega
          have hws := hbw.out.size
          clear hcc hu q0 e1 e2 e3 e4
          generalize (fs.take j).flatten = ys at *
          generalize fs.getD j [] = zs at *
          go_wp2_with (at_builtin; refine wl_appOwn _ rfl _ _ 26 rfl w.heap.size 3 i0 (.int .i64 0) 8 Try.underlying26 hi hz0 hz1 hz2 rfl u6 ys.length (ys.map (Value.int .i64)) rfl how.out u (zs.map (Value.int .i64)) rfl hsrc.out (by have := HLN.out; unfold maxLen; omega) (by have := HLN.out; omega) hws ?_; intro v2 w2 ho hg hbl; have O2 := Lib.hid ho; have G2 := Lib.hid hg; clear ho hg hbl)
          go_roundw
          case rel =>
            refine ⟨j + 1, by omega, by go_num, ?_, ?_⟩
            · have h := O2.out
              unfold Hid
              rw [HE1.out]
              unfold Own
              rw [List.length_append, List.map_append]
              rw [List.length_map] at h
              exact h
            · exact hbw.out.grown G2.out hws (fun g hg => (owns_lt how.out hg).1)
          case measure => simp [intOf]; omega
        · obtain rfl : j = k := by omega
          go_wp2_with fail
          go_ret
          refine ⟨_, rfl, ?_, hbw.out⟩
          have h := how.out
          rw [HTK.out] at h
          exact h
end Go.Proofs.Ytkbphmnacdpdgaa
namespace Go.Proofs.Ytkbphmnacdpdgaa
open Go.RowKit Ph

set_option maxHeartbeats 800000 in
theorem s_l1In (z lo hi : Int) (w : World) : Calls Try.prog 63 #[.int .i64 z, .int .i64 lo, .int .i64 hi] w fun e w' => e = .returned (.bool (decide (lo ≤ z) && decide (z ≤ hi))) ∧ w = w' := by
  generalize hx : (decide (lo ≤ z) && decide (z ≤ hi)) = x
  by_cases h1 : lo ≤ z
  · by_cases h2 : z ≤ hi
    · have HE : Hid (x = true) := by unfold Hid; rw [← hx]; simp [h1, h2]
      clear hx
      go_enter Try.func63, Try.ntmps63
      go_wp2
      go_ret
      exact ⟨r_b HE.out.symm, rfl⟩
    · have HE : Hid (x = false) := by unfold Hid; rw [← hx]; simp [h2]
      clear hx
      go_enter Try.func63, Try.ntmps63
      go_wp2
      go_ret
      exact ⟨r_b HE.out.symm, rfl⟩
  · have HE : Hid (x = false) := by unfold Hid; rw [← hx]; simp [h1]
    clear hx
    go_enter Try.func63, Try.ntmps63
    go_wp2
    go_ret
    exact ⟨r_b HE.out.symm, rfl⟩
theorem in_yes {z lo hi : Int} (h1 : lo ≤ z) (h2 : z ≤ hi) : (decide (lo ≤ z) && decide (z ≤ hi)) = true := by simp [h1, h2]
theorem in_lo {z lo hi : Int} (h1 : z < lo) : (decide (lo ≤ z) && decide (z ≤ hi)) = false := by simp; omega
theorem in_hi {z lo hi : Int} (h1 : hi < z) : (decide (lo ≤ z) && decide (z ≤ hi)) = false := by simp; omega
theorem s_l1In_yes (z lo hi : Int) (w : World) (h1 : lo ≤ z) (h2 : z ≤ hi) : Calls Try.prog 63 #[.int .i64 z, .int .i64 lo, .int .i64 hi] w fun e w' => e = .returned (.bool true) ∧ w = w' :=
  (s_l1In z lo hi w).mono fun _ _ ⟨he, hw⟩ => ⟨he.trans (r_b (in_yes h1 h2)), hw⟩
theorem s_l1In_no (z lo hi : Int) (w : World) (h : z < lo ∨ hi < z) : Calls Try.prog 63 #[.int .i64 z, .int .i64 lo, .int .i64 hi] w fun e w' => e = .returned (.bool false) ∧ w = w' :=
  (s_l1In z lo hi w).mono fun _ _ ⟨he, hw⟩ => ⟨he.trans (r_b (h.elim in_lo in_hi)), hw⟩
end Go.Proofs.Ytkbphmnacdpdgaa
namespace Go.Proofs.Ytkbphmnacdpdgaa
open Go.RowKit Ph

set_option maxHeartbeats 400000 in
theorem c_slEqual (va vb : Value) (za zb : List Int) (w : World) (hA : IntsAt w va za) (hB : IntsAt w vb zb) (hm : za.length ≤ 9223372036854775806) :
    Calls Try.prog 87 #[va, vb] w fun e w' => e = .returned (.bool (decide (za = zb))) ∧ ∃ n, w' = w.drewN n := by
  obtain ⟨a, ca, rfl, hA⟩ := hA
  obtain ⟨b, cb, rfl, hB⟩ := hB
  by_cases hl : za.length = zb.length
  · rw [← hl] at hB ⊢
    generalize hn : za.length = n at *
    have HN := Lib.hid hn; have HL := Lib.hid hl; clear hn hl
    have hbq : ((n : Int) != (n : Int)) = false := by simp
    by_cases h0 : n = 0
    · subst h0
      obtain rfl : za = [] := List.eq_nil_of_length_eq_zero HN.out
      obtain rfl : zb = [] := List.eq_nil_of_length_eq_zero HL.out.symm
      clear hA hB
      go_enter Try.func87, Try.ntmps87
      go_wp2
      refine wp_loop_rounds 1 ?_
      rw [rounds_succ]
      go_wp2
      go_ret
      exact ⟨rfl, drewN_refl _⟩
    · obtain ⟨ba, oa, rfl, hca⟩ := hA (by omega)
      obtain ⟨bb, ob, rfl, hcb⟩ := hB (by omega)
      clear hA hB
      have HCA := Lib.hid hca; have HCB := Lib.hid hcb; clear hca hcb
      go_enter Try.func87, Try.ntmps87
      go_wp2
      go_loopw [13] (fun i wr => ∃ k : Nat, k ≤ n ∧ i = .int .i64 k ∧ Hid (za.take k = zb.take k) ∧ ∃ n, wr = w.drewN n) (fun i _ => n - (intOf i).toNat)
      case atStart => exact ⟨0, Nat.zero_le _, rfl, by simp [Hid], drewN_refl _⟩
      case round =>
        obtain ⟨k, hk, rfl, ht, nd, rfl⟩ := hrel
        by_cases hlt : k < n
        · have q1 := HCA.out k hlt
          have q2 := HCB.out k hlt
          have i1 : (k : Int) < (n : Int) := by omega
          generalize hx : za.getD k 0 = x at q1
          generalize hy : zb.getD k 0 = y at q2
          have HX := Lib.hid hx; have HY := Lib.hid hy; clear hx hy
          by_cases exy : x = y
          · subst exy
            go_wp2
            go_quiet (fail)
            go_wp2
            go_roundw
            case rel => exact ⟨k + 1, by omega, by go_num, take_eq_succ ht.out (by rw [HN.out]; exact hlt) (by rw [← HL.out]; exact hlt) (HX.out.trans HY.out.symm), nd + nq, by simp⟩
            case measure => simp [intOf]; omega
          · have hne : (x != y) = true := by rw [bne_iff_ne]; exact exy
            have HNE : Hid (decide (za = zb) = false) := decide_eq_false (ne_of_getD (k := k) (by rw [HX.out, HY.out]; exact exy))
            clear exy
            go_wp2
            go_quiet (fail)
            go_wp2
            go_ret
            exact ⟨r_b HNE.out.symm, nd + nq, by simp⟩
        · have HE : Hid (decide (za = zb) = true) := decide_eq_true (take_all_eq (n := k) (by rw [HN.out]; omega) (by rw [← HL.out]; omega) ht.out)
          go_wp2
          go_ret
          exact ⟨r_b HE.out.symm, _, rfl⟩
  · generalize hna : za.length = na at *
    generalize hnb : zb.length = nb at *
    have hbq : ((na : Int) != (nb : Int)) = true := by rw [bne_iff_ne]; omega
    have HN : Hid (decide (za = zb) = false) := decide_eq_false (fun h => hl (by rw [← hna, ← hnb, h]))
    clear hl hA hB hna hnb
    go_enter Try.func87, Try.ntmps87
    go_wp2
    go_ret
    exact ⟨r_b HN.out.symm, drewN_refl _⟩
end Go.Proofs.Ytkbphmnacdpdgaa
namespace Go.Proofs.Ytkbphmnacdpdgaa
open Go.RowKit Ph

theorem op_app {P : Program} {o : Oper} {q : Act} {w w' : World} {K : Act → World → Prop} {Q : Exit → Act → World → Prop} {vs vx v' : Value} (s x : Operand) (t : TypeId) (hop : o.op = Op.call { callee := Callee.builtin Builtin.append, args := #[s, x], argTypes := #[t, t] }) (hs : q.eval s = vs) (hx : q.eval x = vx)
    (hrun : (Builtin.append_ #[t, t] o.type #[vs, vx]).run P w = .ok v' w') (h : K (q.put o.dst v') w') : Oper.wp P o q w K Q := by
  unfold Oper.wp
  simp [execOp, hop, resolve, invoke, builtin, hs, hx, hrun, Result.andThen]
  exact h
section
variable {w W : World} {fa la ra vA vB : Value} {lA : List Bool} {rB : List Int}
theorem own_empty (W : World) (T : TypeId) : (W.alloc (.cells #[] T)).ownsRow W.heap.size T 1 (.slice (some ⟨W.heap.size, 0, none⟩) 0 0) 0 [] := ⟨rfl, .inr ⟨W.heap.size, 0, #[], rfl, Nat.le_refl _, heap_alloc_new _ _, Nat.le_refl _, by unfold maxLen; omega, rfl, rfl⟩⟩
end
end Go.Proofs.Ytkbphmnacdpdgaa
namespace Go.Proofs.Ytkbphmnacdpdgaa
open Go.RowKit Ph Kw

/-- Work whose deques may be cut. -/
def RowsC (w : World) (v : Value) (fs : List (List Int)) : Prop :=
  ∃ a cap, v = .slice a fs.length cap ∧ (0 < fs.length → ∃ b off, a = some ⟨b, off, none⟩ ∧ ∀ i, i < fs.length → ∃ u, w.cell? ⟨b, off + i, none⟩ = some u ∧ IntsC w u (fs.getD i []))
structure WorkC (w : World) (a c : Value) (W : Wk) : Prop where
  r : RowsC w a W.r
  d : IntsC w c W.d
theorem RowsC.below {w w' : World} {v : Value} {fs : List (List Int)} (h : RowsC w v fs) (hb : Below w.heap.size w w') : RowsC w' v fs := by
  obtain ⟨a, cap, hv, hc⟩ := h
  refine ⟨a, cap, hv, fun h0 => ?_⟩
  obtain ⟨b, off, ha, hc⟩ := hc h0
  refine ⟨b, off, ha, fun i hi => ?_⟩
  obtain ⟨u, h1, h2⟩ := hc i hi
  exact ⟨u, cellBelow hb (Nat.le_refl _) h1, h2.below hb⟩
theorem WorkC.below {w w' : World} {a c : Value} {W : Wk} (h : WorkC w a c W) (hb : Below w.heap.size w w') : WorkC w' a c W := ⟨h.r.below hb, h.d.below hb⟩
theorem OwnW.readsC {w : World} {lo hi : Nat} {a c : Value} {W : Wk} (k : OwnW w lo hi a c W) : WorkC w a c W := by
  obtain ⟨us, k⟩ := k
  refine ⟨?_, k.roots.intsC⟩
  rcases k.shape with ⟨h1, h2⟩ | ⟨g, cap, h1⟩
  · have h2 : W.r = [] := h2
    exact ⟨none, 0, by rw [h1, h2]; rfl, fun h => by rw [h2] at h; simp at h⟩
  · exact ⟨_, cap, h1, fun _ => ⟨g, 0, rfl, fun i hi => ⟨us i, by rw [Nat.zero_add]; exact (k.cell h1 hi).1, (k.row hi).intsC⟩⟩⟩
theorem rows_us {w : World} {a : Option Addr} {n c : Nat} {fs : List (List Int)} (h : RowsC w (.slice a n c) fs) (hn : n = 3) : ∃ b off, ∃ us : Nat → Value, a = some ⟨b, off, none⟩ ∧ fs.length = 3 ∧ ∀ i, i < 3 → w.cell? ⟨b, off + i, none⟩ = some (us i) ∧ IntsC w (us i) (fs.getD i []) := by
  obtain ⟨a', c', e, hc⟩ := h
  cases e
  obtain ⟨b, off, ha, hcc⟩ := hc (by omega)
  rw [hn] at hcc
  refine ⟨b, off, fun i => if h : i < 3 then Classical.choose (hcc i h) else nilV, ha, hn, fun i hi => ?_⟩
  have := Classical.choose_spec (hcc i hi)
  simp only [dif_pos hi]
  exact this
theorem srt_own_len (W : Wk) (s : W.r.length = 3) (h : ∀ k, k < 3 → (row W k).length ≤ 12) : (leftL W).length ≤ 36 ∧ sumL W.r W.r.length ≤ 36 := by
  obtain ⟨x, y, z, e⟩ := three s
  have a := h 0 (by omega)
  have b := h 1 (by omega)
  have c := h 2 (by omega)
  unfold row at a b c
  unfold leftL sumL
  rw [srt_length]
  rw [e] at a b c ⊢
  simp at a b c ⊢
  omega
set_option maxRecDepth 100000 in
set_option maxHeartbeats 1600000 in
theorem c_left (f : Nat → Value) (n : Int) (d : Value) (W : Wk) (w : World) (hA : ∀ k, k < 3 → IntsC w (f k) (row W k)) (hl : W.r.length = 3) (hr : ∀ k, k < 3 → (row W k).length ≤ 12) : Calls Try.prog 58 #[crv f n d] w fun e w' => ∃ v, e = .returned v ∧ Own w' w.heap.size v (leftL W) ∧ Below w.heap.size w w' := by
  have hb0 := below1 w (.cells (cr5 f n d) 76)
  have rc0 : RowC (w.alloc (.cells (cr5 f n d) 76)) w.heap.size f n d := Row.new w _ _
  have hR : RowsAt (w.alloc (.cells (cr5 f n d) 76)) (.slice (some ⟨w.heap.size, 0, none⟩) 3 3) W.r :=
    ⟨some ⟨w.heap.size, 0, none⟩, 3, by rw [hl], fun _ => ⟨w.heap.size, 0, rfl, fun i hi => ⟨f i, by rw [Nat.zero_add]; exact rc0.row (by omega), ((hA i (by omega)).1.below hb0)⟩⟩⟩
  have HSL := Lib.hid (srt_own_len W hl hr)
  have HB := Lib.hid hb0; have HR := Lib.hid hR; have HL3 : Hid (W.r.length ≤ 1000) := by unfold Hid; omega
  have HFL : Hid (W.r.flatten.length ≤ 4000000) := by
    have := HSL.out.1; unfold leftL at this; rw [srt_length] at this; unfold Hid; omega
  clear rc0 hb0 hR hA hl hr
  go_enter Try.func58, Try.ntmps58
  go_wp2_with (first
    | (go_at_call 88; refine (c_concat _ W.r _ HR.out HL3.out (by have := HSL.out.2; omega)).mono ?_; rintro e w1 ⟨v1, rfl, ho1, hb1⟩; have O1 := Lib.hid (owns_mono ho1 (B' := w.heap.size) fun g hg => by have h := (owns_lt ho1 hg).1; have h2 := HB.out.size; first | omega | (simp at h h2; omega)); replace HB := Lib.hid (bst HB.out hb1 HB.out.size); clear hb1 ho1)
    | (go_at_call 86; refine (c_sortOwn _ W.r.flatten w.heap.size _ O1.out HFL.out).mono ?_; rintro e w2 ⟨rfl, ho2, hg2⟩; have O2 := Lib.hid ho2; replace HB := Lib.hid (HB.out.grown hg2 HB.out.size (fun g hg => (owns_lt O1.out hg).1)); clear ho2 hg2))
  go_ret
  exact ⟨_, rfl, O2.out, HB.out⟩
/-- The first k rows are in place. -/
abbrev fk (us : Nat → Value) (k : Nat) : Nat → Value := fun j => if j < k then us j else nilV
theorem fk_succ (us : Nat → Value) (k : Nat) : upd (fk us k) k (us k) = fk us (k + 1) := by
  funext j
  unfold upd fk
  by_cases e : j = k
  · subst e; simp
  · rw [if_neg e]
    by_cases h : j < k
    · rw [if_pos h, if_pos (by omega)]
    · rw [if_neg h, if_neg (by omega)]
theorem fk_zero (us : Nat → Value) : fk us 0 = nF := by funext j; simp [fk]
theorem c_itemsZ (n : Int) (w : World) (h0 : 0 ≤ n) (hn : n ≤ 100) : Calls Try.prog 71 #[.int .i64 n] w fun e w' => ∃ v, e = .returned v ∧ Own w' w.heap.size v (upTo n.toNat) ∧ Below w.heap.size w w' := by
  have := c_itemsTo n.toNat w (by omega)
  rw [show (n.toNat : Int) = n by omega] at this
  exact this
theorem not_good_row {W : Wk} {k : Nat} (hk : k < 3) (h : ¬ (row W k).length ≤ 12) : goodB W = false := goodB_false fun g => h (g.rows k hk)
theorem not_good_len {W : Wk} (h : ¬ W.r.length = 3) : goodB W = false := goodB_false fun g => h g.len
theorem not_good_n {W : Wk} (h : isCnt W.n = false) : goodB W = false := goodB_false fun g => by rw [isCnt_iff.2 ⟨g.n0, g.n1⟩] at h; cases h
set_option maxRecDepth 100000 in
set_option maxHeartbeats 6400000 in
theorem c_crewOf (a c : Value) (W : Wk) (w0 w : World) (hA0 : WorkC w0 a c W) (hb00 : Below w0.heap.size w0 w) (hd : W.d.length ≤ 1048576) (P : Nat → Prop) : Calls Try.prog 57 #[wkv a W.n c] w (EndC w0 P W (goodB W) w) := by
  obtain ⟨i0, hi, hz0, hz1, hz2⟩ := info_parts info_int
  have hA := hA0.below hb00
  have hb0 := (below1 w (.cells (w3 a W.n c) 28)).alloc (by simp) (.cells (cr5 nF 0 nilV) 76)
  have ra0 : RowW ((w.alloc (.cells (w3 a W.n c) 28)).alloc (.cells (cr5 nF 0 nilV) 76)) w.heap.size a W.n c := Row.alloc (Row.new w 28 (w3 a W.n c)) _
  have rr0 : RowC ((w.alloc (.cells (w3 a W.n c) 28)).alloc (.cells (cr5 nF 0 nilV) 76)) (w.heap.size + 1) nF 0 nilV := Row.new1 w _ 76 (cr5 nF 0 nilV)
  have hsz : ((w.alloc (.cells (w3 a W.n c) 28)).alloc (.cells (cr5 nF 0 nilV) 76)).heap.size = w.heap.size + 2 := by simp
  obtain ⟨pa, qa, nr, rfl, hnr⟩ : ∃ p q n, a = .slice p n q ∧ W.r.length = n := by obtain ⟨p, q, h, _⟩ := hA.r; exact ⟨p, q, _, h, rfl⟩
  have HNR := Lib.hid hnr; clear hnr
  obtain ⟨pc, qc, rfl, _⟩ := hA.d.shape
  have RR := Lib.hid rr0; have HB := Lib.hid hb0; have HW := Lib.hid hA; have HWZ := Lib.hid hA0; have HD := Lib.hid hA.d; have HB00 := Lib.hid hb00
  have q0 := ra0.c0
  have q1 := ra0.c1
  have q2 := ra0.c2
  have RA0 := Lib.hid ra0
  have HSZ2 := Lib.hid hsz
  have HDL := Lib.hid hd
  clear ra0 rr0 hb0 hA hA0 hb00 hsz hd
  by_cases hl : nr = 3
  · subst hl
    have e1 : (((3 : Nat) : Int) != 3) = false := rfl
    by_cases hc : isCnt W.n = true
    · have HCN := Lib.hid hc
      have HN1 := Lib.hid (isCnt_iff.1 hc)
      obtain ⟨b, off, us, rfl, hl3, hus⟩ := rows_us HWZ.out.r rfl
      have HUS0 := Lib.hid hus
      have HUS : Hid (∀ i, i < 3 → w.cell? ⟨b, off + i, none⟩ = some (us i) ∧ IntsC w (us i) (row W i)) := fun i hi => ⟨cellBelow HB00.out (Nat.le_refl _) (hus i hi).1, (hus i hi).2.below HB00.out⟩
      have HL3 := Lib.hid hl3
      have ONE : Hid ((us 0).oneCell' = true ∧ (us 1).oneCell' = true ∧ (us 2).oneCell' = true ∧ (Value.slice pc W.d.length qc).oneCell' = true) := ⟨(hus 0 (by omega)).2.one, (hus 1 (by omega)).2.one, (hus 2 (by omega)).2.one, rfl⟩
      clear hus hc hl3 HW
      go_enter Try.func57, Try.ntmps57
      go_upto_region 4 with (first
        | (go_at_call 70; refine (c_isItemCount _ _).mono ?_; rintro e w1 ⟨rfl, rfl⟩; rw [HCN.out]))
      have hw2 : ((w.alloc (.cells (w3 (.slice (some ⟨b, off, none⟩) 3 qa) W.n (.slice pc W.d.length qc)) 28)).alloc (.cells (cr5 nF 0 nilV) 76)).heap.size = w.heap.size + 2 := HSZ2.out
      have rc3 : RowC (((w.alloc (.cells (w3 (.slice (some ⟨b, off, none⟩) 3 qa) W.n (.slice pc W.d.length qc)) 28)).alloc (.cells (cr5 nF 0 nilV) 76)).alloc (.cells (cr5 nF W.n (.slice pc W.d.length qc)) 76)) (w.heap.size + 1 + 1) nF W.n (.slice pc W.d.length qc) := Row.new2 w _ _ 76 _
      have rr3 : RowC (((w.alloc (.cells (w3 (.slice (some ⟨b, off, none⟩) 3 qa) W.n (.slice pc W.d.length qc)) 28)).alloc (.cells (cr5 nF 0 nilV) 76)).alloc (.cells (cr5 nF W.n (.slice pc W.d.length qc)) 76)) (w.heap.size + 1) nF 0 nilV := Row.alloc RR.out _
      have ra3 : RowW (((w.alloc (.cells (w3 (.slice (some ⟨b, off, none⟩) 3 qa) W.n (.slice pc W.d.length qc)) 28)).alloc (.cells (cr5 nF 0 nilV) 76)).alloc (.cells (cr5 nF W.n (.slice pc W.d.length qc)) 76)) w.heap.size (.slice (some ⟨b, off, none⟩) 3 qa) W.n (.slice pc W.d.length qc) := Row.alloc RA0.out _
      have hb3 := HB.out.alloc (by rw [hw2]; omega) (.cells (cr5 nF W.n (.slice pc W.d.length qc)) 76)
      have RC3 := Lib.hid rc3; have RR3 := Lib.hid rr3; have RA3 := Lib.hid ra3; have HB3 := Lib.hid hb3
      clear rc3 rr3 hb3 hw2 RR HB RA0 q0 q1 q2 HSZ2
      have q0 := ra3.c0
      clear ra3
      go_wp2_with fail
      go_loopw [27] (fun i wr => ∃ k : Nat, k ≤ 3 ∧ i = .int .i64 k ∧ Hid (RowC wr (w.heap.size + 1 + 1) (fk us k) W.n (.slice pc W.d.length qc)) ∧ Hid (RowC wr (w.heap.size + 1) nF 0 nilV) ∧ Hid (RowW wr w.heap.size (.slice (some ⟨b, off, none⟩) 3 qa) W.n (.slice pc W.d.length qc)) ∧ Hid (Below w.heap.size w wr) ∧ Hid (∀ j, j < k → (row W j).length ≤ 12)) (fun i _ => 3 - (intOf i).toNat)
      case atStart => exact ⟨0, by omega, rfl, by rw [fk_zero]; exact RC3, RR3, RA3, HB3, fun j hj => by omega⟩
      case round =>
        obtain ⟨k, hk, rfl, hrc, hrr, hra, hbw, hr12⟩ := hrel
        by_cases hlt : k < 3
        · obtain ⟨pu, cu, hu, _⟩ := (HUS.out k hlt).2.shape
          have q := cellBelow hbw.out (Nat.le_refl _) (HUS.out k hlt).1
          rw [hu] at q
          have ck := RowC.row hrc.out hlt
          have fr := Row.frozen hrc.out k
          have i1 : (k : Int) < 3 := by omega
          have i0 : (0 : Int) ≤ (k : Int) := by omega
          by_cases hm : (row W k).length ≤ 12
          · have j1 : ¬ ((row W k).length : Int) > 12 := by omega
            have HF : Hid (upd (fk us k) k (.slice pu (row W k).length cu) = fk us (k + 1)) := by rw [← hu]; exact fk_succ us k
            have S1 := Lib.hid (RowC.setR hrc.out hlt (.slice pu (row W k).length cu))
            have S2 := Lib.hid (RowC.other hrr.out ⟨w.heap.size + 1 + 1, k, none⟩ (by simp) (.slice pu (row W k).length cu))
            have S3 : Hid (RowW _ w.heap.size (.slice (some ⟨b, off, none⟩) 3 qa) W.n (.slice pc W.d.length qc)) := Row.other hra.out ⟨w.heap.size + 1 + 1, k, none⟩ (by simp; omega) (.slice pu (row W k).length cu)
            have S4 := Lib.hid (hbw.out.setCell (p := ⟨w.heap.size + 1 + 1, k, none⟩) (by simp; omega) (.slice pu (row W k).length cu))
            have S5 : Hid (∀ j, j < k + 1 → (row W j).length ≤ 12) := fun j hj => by
              by_cases e : j = k
              · subst e; exact hm
              · exact hr12.out j (by omega)
            rw [HF.out] at S1
            clear hu hm hrc hrr hra hbw hr12 HF
            generalize (row W k).length = m at *
            go_wp2_with fail
            go_roundw
            case rel => exact ⟨k + 1, by omega, by go_num, S1, S2, S3, S4, S5⟩
            case measure => simp [intOf]; omega
          · have HE : Hid (false = goodB W) := (not_good_row hlt hm).symm
            have j1 : ((row W k).length : Int) > 12 := by omega
            clear hu hm ck fr
            generalize (row W k).length = m at *
            go_wp2_with (refine wl_storeC rfl _ _ rfl (w.heap.size + 1) nF 0 nilV _ _ _ hrr.out rfl rfl rfl rfl rfl rfl ?_)
            refine bodyPost_ret (res_row_slot Try.results57 (Row.put hrr.out (cr5 nF 0 nilV)) rfl rfl Try.underlying76 rfl info_crew) rfl ((endC_no (W := W) (below_setRow hbw.out (by omega) _)).mono HE.out (fun h => absurd h (by decide)))
        · obtain rfl : k = 3 := by omega
          have HR12 := Lib.hid hr12.out
          have HGS := Lib.hid (good_srt HL3.out HN1.out.1 HN1.out.2 HR12.out)
          have HLEN : Hid ((leftL W).length + W.d.length ≤ 1048612) := by unfold Hid; have := (srt_own_len W HL3.out HR12.out).1; have := HDL.out; omega
          have C0 : Hid (RowC wr.drew (w.heap.size + 1 + 1) us W.n (.slice pc W.d.length qc)) := hrc.out
          have R0 : Hid (RowC wr.drew (w.heap.size + 1) nF 0 nilV) := hrr.out
          have A0 : Hid (RowW wr.drew w.heap.size (.slice (some ⟨b, off, none⟩) 3 qa) W.n (.slice pc W.d.length qc)) := hra.out
          have HBD : Hid (Below w.heap.size w wr.drew) := below_drew hbw.out
          have HSZ : Hid (w.heap.size + 3 ≤ wr.drew.heap.size) := Row.lt C0.out
          clear hrc hrr hra hbw hr12
          go_upto_region 11 with fail
          have HNB := HBD
          refine wp_region_held_drew (S := (fun w' => w'.cell? ⟨w.heap.size + 1 + 1, 0, none⟩ = some (us 0) ∧ w'.cell? ⟨w.heap.size + 1 + 1, 1, none⟩ = some (us 1) ∧ w'.cell? ⟨w.heap.size + 1 + 1, 2, none⟩ = some (us 2) ∧ w'.cell? ⟨w.heap.size + 1 + 1, 3, none⟩ = some (.int .i64 W.n) ∧ w'.cell? ⟨w.heap.size + 1 + 1, 4, none⟩ = some (.slice pc W.d.length qc))) (by kernel_rfl) (⟨RowC.row C0.out (by omega : 0 < 3), RowC.row C0.out (by omega : 1 < 3), RowC.row C0.out (by omega : 2 < 3), RowC.nn C0.out, RowC.dd C0.out⟩) (fun hHeld => ?_)
          refine wpAnyH_take (i := 0) (v := ?va0x1) rfl (by kernel_rfl) (by kernel_rfl) (by kernel_rfl) (fun _ _ _ h => h) (Or.inl ⟨by rfl, ?hy0x1⟩) (by assumption) ?rest0x1
          case hy0x1 => (intro w hSw; (try dsimp only at hSw); go_simp; try with_reducible rfl)
          (try simp only [Act.put, List.getElem_toArray, List.getElem_cons_zero, List.setIfInBounds_toArray, List.set_cons_zero, List.set_cons_succ])
          refine wpAnyH_take (i := 2) (v := ?va2x2) rfl (by kernel_rfl) (by kernel_rfl) (by kernel_rfl) (fun _ _ _ h => h) (Or.inl ⟨by rfl, ?hy2x2⟩) (by assumption) ?rest2x2
          case hy2x2 => (intro w hSw; (try dsimp only at hSw); go_simp; try with_reducible rfl)
          (try simp only [Act.put, List.getElem_toArray, List.getElem_cons_zero, List.getElem_cons_succ, List.setIfInBounds_toArray, List.set_cons_zero, List.set_cons_succ])
          refine wpAnyH_take (i := 3) (v := ?va3x3) rfl (by kernel_rfl) (by kernel_rfl) (by kernel_rfl) (fun _ _ _ h => h) (Or.inl ⟨by rfl, ?hy3x3⟩) (by assumption) ?rest3x3
          case hy3x3 => (intro w hSw; (try dsimp only at hSw); go_simp; try with_reducible rfl)
          (try simp only [Act.put, List.getElem_toArray, List.getElem_cons_zero, List.getElem_cons_succ, List.setIfInBounds_toArray, List.set_cons_zero, List.set_cons_succ])
          refine wpAnyH_ready (rs := [1]) (by kernel_rfl) (by simp) ?_
          refine AllReadyH.cons rfl (fun K hK => ?_) AllReadyH.nil
          go_simp
          refine (c_left us W.n (.slice pc W.d.length qc) W _ (fun k hk => (HUS.out k hk).2.below HBD.out) HL3.out HR12.out).mono ?_
          rintro e w4 ⟨v4, rfl, ho4, hb4⟩
          have C4 := Lib.hid (RowC.below C0.out hb4); have R4 := Lib.hid (RowC.below R0.out hb4); have A4 := Lib.hid (RowW.below A0.out hb4); have B4 := Lib.hid (bst HBD.out hb4 HBD.out.size)
          obtain ⟨v5, w5, hrun, ho5, hg5, hbl5⟩ := run_appOwn (P := Try.prog) w4 _ 26 26 3 i0 (.int .i64 0) 8 Try.underlying26 hi hz0 hz1 hz2 rfl v4 _ _ ho4 (.slice pc W.d.length qc) _ ((HD.out.below B4.out).1.src) (by have := HLEN.out; rw [List.length_map]; unfold maxLen; omega) (by have := HLEN.out; rw [List.length_map]; omega) hb4.size
          have O4 := Lib.hid ho4
          have HNE : Hid (∀ g, v4.ownBlock = some g → w.heap.size + 3 ≤ g) := fun g hg => Nat.le_trans HSZ.out (owns_lt ho4 hg).1
          have HS4 : Hid (_ ≤ w4.heap.size) := hb4.size
          clear hb4 ho4
          refine hK.out _ _ (⟨RowC.row C4.out (by omega : 0 < 3), RowC.row C4.out (by omega : 1 < 3), RowC.row C4.out (by omega : 2 < 3), RowC.nn C4.out, RowC.dd C4.out⟩) (fun hHeld => ?_)
          clear hK K
          (try simp only [Act.put, List.getElem_toArray, List.getElem_cons_zero, List.getElem_cons_succ, List.setIfInBounds_toArray, List.set_cons_zero, List.set_cons_succ])
          refine wpAnyH_ready (rs := [4]) (by kernel_rfl) (by simp) ?_
          refine AllReadyH.cons rfl (fun K hK => ?_) AllReadyH.nil
          rw [if_pos (by rfl)]
          refine op_app _ _ _ rfl rfl rfl hrun ?_
          have hne1 : v4.ownBlock ≠ some (w.heap.size + 1 + 1) := fun e => by have := HNE.out _ e; omega
          have hne2 : v4.ownBlock ≠ some (w.heap.size + 1) := fun e => by have := HNE.out _ e; omega
          have hne3 : v4.ownBlock ≠ some w.heap.size := fun e => by have := HNE.out _ e; omega
          have C5 : Hid (RowC w5 (w.heap.size + 1 + 1) us W.n (.slice pc W.d.length qc)) := Row.grownBy C4.out hg5 hne1
          have R5 : Hid (RowC w5 (w.heap.size + 1) nF 0 nilV) := Row.grownBy R4.out hg5 hne2
          have A5 : Hid (RowW w5 w.heap.size (.slice (some ⟨b, off, none⟩) 3 qa) W.n (.slice pc W.d.length qc)) := Row.grownBy A4.out hg5 hne3
          have BD5 := Lib.hid (B4.out.grown hg5 B4.out.size (fun g hg => by have := HNE.out _ hg; omega))
          have O5 : Hid (Own w5 (w.heap.size + 3) v5 (leftL W ++ W.d)) := by
            have h := ho5
            rw [List.length_map, ← List.map_append, ← List.length_append] at h
            exact owns_mono h fun g hg => by
              rcases hbl5 with e | e
              · exact HNE.out g (by rw [← e]; exact hg)
              · rw [e] at hg; cases hg; exact Nat.le_trans HSZ.out HS4.out
          refine hK.out _ _ ⟨RowC.row C5.out (by omega : 0 < 3), RowC.row C5.out (by omega : 1 < 3), RowC.row C5.out (by omega : 2 < 3), RowC.nn C5.out, RowC.dd C5.out⟩ (fun hHeld => ?_)
          clear hK K hrun ho5 hg5 hbl5 hne1 hne2 hne3
          (try simp only [Act.put, List.getElem_toArray, List.getElem_cons_zero, List.getElem_cons_succ, List.setIfInBounds_toArray, List.set_cons_zero, List.set_cons_succ])
          refine wpAnyH_take (i := 5) (v := ?va5x4) rfl (by kernel_rfl) (by kernel_rfl) (by kernel_rfl) (fun _ _ _ h => h) (Or.inl ⟨by rfl, ?hy5x4⟩) (by assumption) ?rest5x4
          case hy5x4 => (intro w hSw; (try dsimp only at hSw); go_simp; try with_reducible rfl)
          (try simp only [Act.put, List.getElem_toArray, List.getElem_cons_zero, List.getElem_cons_succ, List.setIfInBounds_toArray, List.set_cons_zero, List.set_cons_succ])
          refine wpAnyH_done (by kernel_rfl) ?_ _
          have C5' := C5
          go_upto_region 13 with (go_at_call 86; refine (c_sortOwn v5 (leftL W ++ W.d) (w.heap.size + 3) _ O5.out (by have := HLEN.out; rw [List.length_append]; omega)).mono ?_; rintro e w6 ⟨rfl, ho6, hg6⟩; have O6 := Lib.hid ho6; have hv5 : ∀ g, v5.ownBlock = some g → w.heap.size + 3 ≤ g := fun g hg => (owns_lt O5.out hg).1; have C6 : Hid (RowC w6 (w.heap.size + 1 + 1) us W.n (.slice pc W.d.length qc)) := Row.grownBy C5.out hg6 (fun e => by have := hv5 _ e; omega); have R6 : Hid (RowC w6 (w.heap.size + 1) nF 0 nilV) := Row.grownBy R5.out hg6 (fun e => by have := hv5 _ e; omega); have A6 : Hid (RowW w6 w.heap.size (.slice (some ⟨b, off, none⟩) 3 qa) W.n (.slice pc W.d.length qc)) := Row.grownBy A5.out hg6 (fun e => by have := hv5 _ e; omega); have B6 := Lib.hid (BD5.out.grown hg6 BD5.out.size (fun g hg => by have := hv5 _ hg; omega)); clear ho6 hg6 hv5)
          have C7 : Hid (RowC w6.drew (w.heap.size + 1 + 1) us W.n (.slice pc W.d.length qc)) := C6.out
          have R7 : Hid (RowC w6.drew (w.heap.size + 1) nF 0 nilV) := R6.out
          have A7 : Hid (RowW w6.drew w.heap.size (.slice (some ⟨b, off, none⟩) 3 qa) W.n (.slice pc W.d.length qc)) := A6.out
          have B7 : Hid (Below w.heap.size w w6.drew) := below_drew B6.out
          have O7 : Hid (Own w6.drew (w.heap.size + 3) v5 (srt (leftL W ++ W.d))) := O6.out
          have hnn : (W.n.toNat : Int) = W.n := by have := HN1.out; omega
          have HNN := Lib.hid hnn
          clear hnn
          refine wp_region_held_drew (S := (fun w' => w'.cell? ⟨w.heap.size + 1 + 1, 0, none⟩ = some (us 0) ∧ w'.cell? ⟨w.heap.size + 1 + 1, 1, none⟩ = some (us 1) ∧ w'.cell? ⟨w.heap.size + 1 + 1, 2, none⟩ = some (us 2) ∧ w'.cell? ⟨w.heap.size + 1 + 1, 3, none⟩ = some (.int .i64 W.n) ∧ w'.cell? ⟨w.heap.size + 1 + 1, 4, none⟩ = some (.slice pc W.d.length qc) ∧ w'.cell? ⟨w.heap.size, 1, none⟩ = some (.int .i64 W.n))) (by kernel_rfl) (⟨RowC.row C7.out (by omega : 0 < 3), RowC.row C7.out (by omega : 1 < 3), RowC.row C7.out (by omega : 2 < 3), RowC.nn C7.out, RowC.dd C7.out, RowW.c1 A7.out⟩) (fun hHeld => ?_)
          refine wpAnyH_take (i := 0) (v := ?va0x5) rfl (by kernel_rfl) (by kernel_rfl) (by kernel_rfl) (fun _ _ _ h => h) (Or.inl ⟨by rfl, ?hy0x5⟩) (by assumption) ?rest0x5
          case hy0x5 => (intro w hSw; (try dsimp only at hSw); go_simp; try with_reducible rfl)
          (try simp only [Act.put, List.getElem_toArray, List.getElem_cons_zero, List.setIfInBounds_toArray, List.set_cons_zero, List.set_cons_succ])
          refine wpAnyH_take (i := 1) (v := ?va1x6) rfl (by kernel_rfl) (by kernel_rfl) (by kernel_rfl) (fun _ _ _ h => h) (Or.inl ⟨by rfl, ?hy1x6⟩) (by assumption) ?rest1x6
          case hy1x6 => (intro w hSw; (try dsimp only at hSw); go_simp; try with_reducible rfl)
          (try simp only [Act.put, List.getElem_toArray, List.getElem_cons_zero, List.getElem_cons_succ, List.setIfInBounds_toArray, List.set_cons_zero, List.set_cons_succ])
          refine wpAnyH_take (i := 2) (v := ?va2x7) rfl (by kernel_rfl) (by kernel_rfl) (by kernel_rfl) (fun _ _ _ h => h) (Or.inl ⟨by rfl, ?hy2x7⟩) (by assumption) ?rest2x7
          case hy2x7 => (intro w hSw; (try dsimp only at hSw); go_simp; try with_reducible rfl)
          (try simp only [Act.put, List.getElem_toArray, List.getElem_cons_zero, List.getElem_cons_succ, List.setIfInBounds_toArray, List.set_cons_zero, List.set_cons_succ])
          refine wpAnyH_take (i := 3) (v := ?va3x8) rfl (by kernel_rfl) (by kernel_rfl) (by kernel_rfl) (fun _ _ _ h => h) (Or.inl ⟨by rfl, ?hy3x8⟩) (by assumption) ?rest3x8
          case hy3x8 => (intro w hSw; (try dsimp only at hSw); go_simp; try with_reducible rfl)
          (try simp only [Act.put, List.getElem_toArray, List.getElem_cons_zero, List.getElem_cons_succ, List.setIfInBounds_toArray, List.set_cons_zero, List.set_cons_succ])
          refine wpAnyH_ready (rs := [4]) (by kernel_rfl) (by simp) ?_
          refine AllReadyH.cons rfl (fun K hK => ?_) AllReadyH.nil
          go_simp
          refine (c_itemsZ W.n _ HN1.out.1 HN1.out.2).mono ?_
          rintro e w8 ⟨v8, rfl, ho8, hb8⟩
          have C8 := Lib.hid (RowC.below C7.out hb8); have R8 := Lib.hid (RowC.below R7.out hb8); have A8 := Lib.hid (RowW.below A7.out hb8); have B8 := Lib.hid (bst B7.out hb8 B7.out.size)
          have O8 := Lib.hid (Own.below O7.out hb8); have Q8 := Lib.hid ho8
          clear hb8 ho8
          refine hK.out _ _ (⟨RowC.row C8.out (by omega : 0 < 3), RowC.row C8.out (by omega : 1 < 3), RowC.row C8.out (by omega : 2 < 3), RowC.nn C8.out, RowC.dd C8.out, RowW.c1 A8.out⟩) (fun hHeld => ?_)
          clear hK K
          (try simp only [Act.put, List.getElem_toArray, List.getElem_cons_zero, List.getElem_cons_succ, List.setIfInBounds_toArray, List.set_cons_zero, List.set_cons_succ])
          refine wpAnyH_ready (rs := [5]) (by kernel_rfl) (by simp) ?_
          refine AllReadyH.cons rfl (fun K hK => ?_) AllReadyH.nil
          go_simp
          refine (c_slEqual v5 v8 (srt (leftL W ++ W.d)) (upTo W.n.toNat) _ O8.out.ints Q8.out.ints (by have := HLEN.out; rw [srt_length, List.length_append]; omega)).mono ?_
          rintro e w9 ⟨rfl, n9, hw9⟩
          rw [← HGS.out]
          have C9 : Hid (RowC w9 (w.heap.size + 1 + 1) us W.n (.slice pc W.d.length qc)) := by rw [hw9]; exact C8
          have R9 : Hid (RowC w9 (w.heap.size + 1) nF 0 nilV) := by rw [hw9]; exact R8
          have A9 : Hid (RowW w9 w.heap.size (.slice (some ⟨b, off, none⟩) 3 qa) W.n (.slice pc W.d.length qc)) := by rw [hw9]; exact A8
          have B9 : Hid (Below w.heap.size w w9) := by rw [hw9]; exact below_drewN B8.out n9
          clear hw9
          refine hK.out _ _ (⟨RowC.row C9.out (by omega : 0 < 3), RowC.row C9.out (by omega : 1 < 3), RowC.row C9.out (by omega : 2 < 3), RowC.nn C9.out, RowC.dd C9.out, RowW.c1 A9.out⟩) (fun hHeld => ?_)
          clear hK K
          (try simp only [Act.put, List.getElem_toArray, List.getElem_cons_zero, List.getElem_cons_succ, List.setIfInBounds_toArray, List.set_cons_zero, List.set_cons_succ])
          have hg12 : w.heap.size + 1 + 1 ≠ w.heap.size + 1 := by omega
          have hg01 : w.heap.size ≠ w.heap.size + 1 := by omega
          have CA : Hid (RowC (w9.setRow (w.heap.size + 1) (cr5 us W.n (.slice pc W.d.length qc))) (w.heap.size + 1 + 1) us W.n (.slice pc W.d.length qc)) := Row.putOther C9.out _ hg12
          have AA : Hid (RowW (w9.setRow (w.heap.size + 1) (cr5 us W.n (.slice pc W.d.length qc))) w.heap.size (.slice (some ⟨b, off, none⟩) 3 qa) W.n (.slice pc W.d.length qc)) := Row.putOther A9.out _ hg01
          have RA : Hid (RowC (w9.setRow (w.heap.size + 1) (cr5 us W.n (.slice pc W.d.length qc))) (w.heap.size + 1) us W.n (.slice pc W.d.length qc)) := Row.put R9.out _
          have BA := Lib.hid (below_setRow B9.out (show w.heap.size ≤ w.heap.size + 1 by omega) (cr5 us W.n (.slice pc W.d.length qc)))
          refine wpAnyH_ready (rs := [6]) (by kernel_rfl) (by simp) ?_
          refine AllReadyH.cons rfl (fun K hK => ?_) AllReadyH.nil
          rw [if_pos (by rfl)]
          refine wp_store_row 76 _ _ rfl (w.heap.size + 1) (cr5 us W.n (.slice pc W.d.length qc)) rfl rfl 76 (cr5 nF 0 nilV) R9.out info_crew rfl (by obtain ⟨o1, o2, o3, o4⟩ := ONE.out; simp [o1, o2, o3]; exact ⟨rfl, o4⟩) ?_
          refine hK.out _ _ ⟨RowC.row CA.out (by omega : 0 < 3), RowC.row CA.out (by omega : 1 < 3), RowC.row CA.out (by omega : 2 < 3), RowC.nn CA.out, RowC.dd CA.out, RowW.c1 AA.out⟩ (fun hHeld => ?_)
          clear hK K
          (try simp only [Act.put, List.getElem_toArray, List.getElem_cons_zero, List.getElem_cons_succ])
          refine wpAnyH_take (i := 7) (v := ?va7x9) rfl (by kernel_rfl) (by kernel_rfl) (by kernel_rfl) (fun _ _ _ h => h) (Or.inl ⟨by rfl, ?hy7x9⟩) (by assumption) ?rest7x9
          case hy7x9 => (intro w hSw; (try dsimp only at hSw); go_simp; try with_reducible rfl)
          (try simp only [Act.put, List.getElem_toArray, List.getElem_cons_zero, List.getElem_cons_succ, List.setIfInBounds_toArray, List.set_cons_zero, List.set_cons_succ])
          refine wpAnyH_done (by kernel_rfl) ?_ _
          go_wp2_with fail
          refine bodyPost_ret (res_row_slot Try.results57 RA.out rfl rfl Try.underlying76 rfl info_crew) rfl ⟨us, W.n, (.slice pc W.d.length qc), rfl, ONE.out, fun _ => ⟨rfl, Sep.start ⟨fun k hk => (HUS0.out k hk).2, HWZ.out.d⟩ _ P⟩, BA.out⟩
    · have HCN : Hid (isCnt W.n = false) := by unfold Hid; simpa using hc
      have HE : Hid (false = goodB W) := (not_good_n HCN.out).symm
      clear hc HW HWZ HD RA0
      go_enter Try.func57, Try.ntmps57
      go_wp2_with (first
        | (go_at_call 70; refine (c_isItemCount _ _).mono ?_; rintro e w1 ⟨rfl, rfl⟩; rw [HCN.out])
        | (refine wl_storeC rfl _ _ rfl (w.heap.size + 1) nF 0 nilV _ _ _ RR.out rfl rfl rfl rfl rfl rfl ?_))
      refine bodyPost_ret (res_row_slot Try.results57 (Row.put RR.out (cr5 nF 0 nilV)) rfl rfl Try.underlying76 rfl info_crew) rfl ((endC_no (W := W) (below_setRow HB.out (by omega) _)).mono HE.out (fun h => absurd h (by decide)))
  · have e1 : ((nr : Int) != 3) = true := by rw [bne_iff_ne]; omega
    have HE : Hid (false = goodB W) := (not_good_len (by rw [HNR.out]; exact hl)).symm
    have HCN : Hid True := trivial
    clear hl HW HWZ HD RA0
    go_enter Try.func57, Try.ntmps57
    go_wp2_with (first
      | (go_at_call 70; refine (c_isItemCount _ _).mono ?_; rintro e w1 ⟨rfl, rfl⟩; rw [HCN.out])
      | (refine wl_storeC rfl _ _ rfl (w.heap.size + 1) nF 0 nilV _ _ _ RR.out rfl rfl rfl rfl rfl rfl ?_))
    refine bodyPost_ret (res_row_slot Try.results57 (Row.put RR.out (cr5 nF 0 nilV)) rfl rfl Try.underlying76 rfl info_crew) rfl ((endC_no (W := W) (below_setRow HB.out (by omega) _)).mono HE.out (fun h => absurd h (by decide)))
end Go.Proofs.Ytkbphmnacdpdgaa
namespace Go.Proofs.Ytkbphmnacdpdgaa
open Go.RowKit
theorem op_make {P : Program} {o : Oper} {q : Act} {w : World} {K : Act → World → Prop} {Q : Exit → Act → World → Prop} (l c : Operand) (t : TypeId) (hop : o.op = Op.makeSlice t l c) (base : Nat) (e : TypeId) (i : TypeInfo) (z : Value) (size : Nat) (h1 : P.underlying t = some (.slice e)) (h2 : P.info? e = some i) (h3 : i.zero = some z) (h4 : i.size = size)
    (kl kc : IntKind) (n : Nat) (hl : q.eval l = .int kl (n : Int)) (hc : q.eval c = .int kc (n : Int)) (b2 : i.bytes * n ≤ 281474976710656) (b3 : n ≤ maxLen) (b4 : base ≤ w.heap.size)
    (hK : ∀ w', w'.ownsRow base e size (.slice (some ⟨w.heap.size, 0, none⟩) n n) n (madeCells z.cells (n * size)).toList → w.grownBy w' none → K (q.put o.dst (.slice (some ⟨w.heap.size, 0, none⟩) n n)) w') : Oper.wp P o q w K Q := by
  obtain ⟨w', hrun, r1, r2⟩ := run_make_full (P := P) w base t e i z size h1 h2 h3 h4 kl kc n b2 b3 b4
  unfold Oper.wp
  simp [execOp, hop, hl, hc, hrun, Result.andThen]
  exact hK w' r1 r2
end Go.Proofs.Ytkbphmnacdpdgaa
namespace Go.Proofs.Ytkbphmnacdpdgaa
open Go.RowKit Ph Kw

theorem run_loadVar_at {P : Program} (w : World) (g off : Nat) (ty : TypeId) (vs : List Value) (d : TypeDesc) (hc : ∀ j v, vs[j]? = some v → w.cell? ⟨g, off + j, none⟩ = some v)
    (hu : P.underlying ty = some d) (hd : (match d with | .struct _ | .array _ _ => true | _ => false) = true) (hi : (P.info? ty).map (·.size) = some vs.length) :
    (loadVar ty ⟨g, off, none⟩).run P w = .ok (.agg vs.toArray) w := by
  have hl : (loadCells ⟨g, off, none⟩ vs.length).run P w = .ok vs.toArray w :=
    run_loadCells_list (P := P) w ⟨g, off, none⟩ vs (fun j v hv => by
      have hadd : (⟨g, off, none⟩ : Addr).add j = ⟨g, off + j, none⟩ := by unfold Addr.add; split <;> simp_all
      rw [hadd]
      exact hc j v hv)
  cases hq : P.info? ty with
  | none => simp [hq] at hi
  | some i =>
    have hs : i.size = vs.length := by simpa [hq] using hi
    have hagg : (isAgg ty).run P w = .ok true w := by
      unfold isAgg
      rw [Sem.run_bind, run_underlying hu w]
      cases d <;> simp_all
    simp [loadVar, Sem.run_bind, hagg, sizeOf, typeInfo, hq, hs, hl]
theorem wl_loadAt {P : Program} {ops : Array Oper} {rest : List Oper} {o : Oper} {a : Act} {w : World} {Q : Exit → Act → World → Prop} (hgd : o.guard = none) (ty : TypeId) (x : Operand) (ho : o.op = .load ty x)
    (g off : Nat) (hx : a.eval x = .pointer (some ⟨g, off, none⟩)) (T : TypeId) (cs : Array Value) (hg : Row w g T cs) (vs : List Value) (d : TypeDesc) (hp : ∀ j v, vs[j]? = some v → cs[off + j]? = some v)
    (hu : P.underlying ty = some d) (hd : (match d with | .struct _ | .array _ _ => true | _ => false) = true) (hi : (P.info? ty).map (·.size) = some vs.length)
    (h : wpList P ops Q rest (a.put o.dst (.agg vs.toArray)) w) : wpList P ops Q (o :: rest) a w :=
  wpList_plain hgd fun _ hK => by
    unfold Oper.wp execOp
    simp only [ho, hx, Instr.loadAt, Instr.sureAddr, Sem.run_bind, Sem.run_pure, Result.andThen_ok, run_loadVar_at w g off ty vs d (fun j v hv => (Row.cell hg (off + j)).trans (hp j v hv)) hu hd hi]
    exact hK _ _ h
theorem run_index3 (w : World) (f : Nat → Value) {k : Nat} (hk : k < 3) : (Instr.index 74 (.agg #[f 0, f 1, f 2]) (.int .i64 (k : Int))).run Try.prog w = .ok (f k) w := by
  have h1 : (0 : Int) ≤ (k : Int) ∧ (k : Int) < ((3 : Nat) : Int) := by omega
  have hinf : ∃ inf, Try.prog.info? 26 = some inf ∧ inf.size = 1 := by
    have h := info_ints
    cases hq : Try.prog.info? 26 with
    | none => simp [hq] at h
    | some inf => simp [hq] at h; exact ⟨inf, rfl, h.2.1⟩
  obtain ⟨inf, hq, hs⟩ := hinf
  simp [Instr.index, run_underlying Try.underlying74, asIntOf, h1, sizeOf, typeInfo, hq, hs, hk, go_sem]
  rcases lt3 hk with rfl | rfl | rfl <;> rfl
/-- Three empty deques and a list. -/
theorem famStart {w : World} {lo hi ga : Nat} {v : Value} {zs : List Int} (h1 : w.ownsRow lo 26 1 (.slice (some ⟨ga, 0, none⟩) 3 3) 3 (List.replicate 3 nilV)) (h2 : Own w lo v zs) (hne : v.ownBlock ≠ some ga) (hh : ga < hi) (hv : ∀ g, v.ownBlock = some g → g < hi) :
    FamH w lo hi (.slice (some ⟨ga, 0, none⟩) 3 3) nilV v (fun _ => nilV) ⟨[[], [], []], [], zs⟩ := by
  refine ⟨fun k hk => ?_, fun k hk g hg => ?_, fun j k hj hk hjk => ?_⟩
  · match k, hk with
    | 0, _ => exact h1
    | 1, _ => exact ⟨rfl, .inl ⟨rfl, rfl⟩⟩
    | 2, _ => simp only [tyH, vH, cH, List.length_map]; exact h2
    | 3, _ => exact ⟨rfl, .inl ⟨rfl, rfl⟩⟩
    | 4, _ => exact ⟨rfl, .inl ⟨rfl, rfl⟩⟩
    | 5, _ => exact ⟨rfl, .inl ⟨rfl, rfl⟩⟩
  · match k, hk with
    | 0, _ => cases hg; exact hh
    | 1, _ => cases hg
    | 2, _ => exact hv g hg
    | 3, _ => cases hg
    | 4, _ => cases hg
    | 5, _ => cases hg
  · match j, hj, k, hk with
    | 1, _, _, _ => exact .inl rfl
    | 3, _, _, _ => exact .inl rfl
    | 4, _, _, _ => exact .inl rfl
    | 5, _, _, _ => exact .inl rfl
    | 0, _, 2, _ => exact .inr fun e => hne e.symm
    | 0, _, 0, _ => exact absurd rfl hjk
    | 0, _, 1, _ => exact .inr (by simp [vH, Value.ownBlock])
    | 0, _, 3, _ => exact .inr (by simp [vH, Value.ownBlock])
    | 0, _, 4, _ => exact .inr (by simp [vH, Value.ownBlock])
    | 0, _, 5, _ => exact .inr (by simp [vH, Value.ownBlock])
    | 2, _, 2, _ => exact absurd rfl hjk
    | 2, _, 0, _ => exact .inr hne
    | 2, _, 1, _ =>
      cases e : v.ownBlock with
      | none => exact .inl e
      | some g => exact .inr fun h => by have h2 : v.ownBlock = none := h; rw [e] at h2; cases h2
    | 2, _, 3, _ =>
      cases e : v.ownBlock with
      | none => exact .inl e
      | some g => exact .inr fun h => by have h2 : v.ownBlock = none := h; rw [e] at h2; cases h2
    | 2, _, 4, _ =>
      cases e : v.ownBlock with
      | none => exact .inl e
      | some g => exact .inr fun h => by have h2 : v.ownBlock = none := h; rw [e] at h2; cases h2
    | 2, _, 5, _ =>
      cases e : v.ownBlock with
      | none => exact .inl e
      | some g => exact .inr fun h => by have h2 : v.ownBlock = none := h; rw [e] at h2; cases h2
/-- A block of another type is none of the lists' blocks. -/
theorem owns_ne_rowT {w : World} {B g : Nat} {T T0 : TypeId} {v : Value} {n : Nat} {xs : List Value} {cs : Array Value} (h : w.ownsRow B T 1 v n xs) (hr : Row w g T0 cs) (hT : T ≠ T0) {g' : Nat} (hg : v.ownBlock = some g') : g' ≠ g := by
  intro e
  subst e
  rcases h.2 with ⟨rfl, _⟩ | ⟨g2, cap, cur, rfl, _, h2, _⟩
  · cases hg
  · cases hg
    unfold Row at hr
    rw [h2] at hr
    simp only [Option.some.injEq, Obj.cells.injEq] at hr
    exact hT hr.2.1
theorem tyW_ne (k : Nat) : tyH k ≠ 28 := by
  match k with
  | 0 => exact (by decide)
  | 1 => exact (by decide)
  | k + 2 => show 3 ≠ 28; decide
theorem FamH.keepRowW {w w' : World} {lo hi g : Nat} {a b c : Value} {us : Nat → Value} {h : H} {cs : Array Value} (k : FamH w lo hi a b c us h) (hr : Row w g 28 cs) (hb : ∀ i, i ≠ g → i < w.heap.size → w'.heap[i]? = w.heap[i]?) : FamH w' lo hi a b c us h :=
  ⟨fun j hj => owns_block (k.own j hj) fun g' hg' => hb g' (owns_ne_rowT (k.own j hj) hr (tyW_ne j) hg') (owns_lt (k.own j hj) hg').2, k.lt, k.ap⟩
theorem OwnW.wholeRow {w : World} {lo hi g : Nat} {a c : Value} {W : Wk} {cs : Array Value} (k : OwnW w lo hi a c W) (hr : Row w g 28 cs) (ds : Array Value) : OwnW (w.setRow g ds) lo hi a c W := by
  obtain ⟨us, k⟩ := k
  exact ⟨us, k.keepRowW hr fun i hi _ => setRow_other w g i ds hi⟩
set_option maxRecDepth 100000 in
set_option maxHeartbeats 6400000 in
theorem c_work (f : Nat → Value) (d : Value) (W : Wk) (w : World) (hA : CrewAt w f d W) (hl : W.r.length = 3) (hr : ∀ k, k < 3 → (row W k).length ≤ 1048576) (hd : W.d.length ≤ 1048576) : Calls Try.prog 54 #[crv f W.n d] w fun e w' => ∃ a c, e = .returned (wkv a W.n c) ∧ OwnW w' w.heap.size w'.heap.size a c W ∧ Below w.heap.size w w' := by
  obtain ⟨i0, hi, hz0, hz1, hz2⟩ := info_parts info_ints
  obtain ⟨pd, qd, hdd, _⟩ := hA.d.shape
  generalize hmd : W.d.length = md at hdd
  subst hdd
  have hb0 := (below1 w (.cells (cr5 f W.n (.slice pd md qd)) 76)).alloc (by simp) (.cells (w3 nilV 0 nilV) 28)
  have rc0 : RowC ((w.alloc (.cells (cr5 f W.n (.slice pd md qd)) 76)).alloc (.cells (w3 nilV 0 nilV) 28)) w.heap.size f W.n (.slice pd md qd) := Row.alloc (Row.new w 76 _) _
  have rr0 : RowW ((w.alloc (.cells (cr5 f W.n (.slice pd md qd)) 76)).alloc (.cells (w3 nilV 0 nilV) 28)) (w.heap.size + 1) nilV 0 nilV := Row.new1 w _ 28 _
  have hsz : ((w.alloc (.cells (cr5 f W.n (.slice pd md qd)) 76)).alloc (.cells (w3 nilV 0 nilV) 28)).heap.size = w.heap.size + 2 := by simp
  have HA := Lib.hid hA; have HD := Lib.hid hA.d; have HR := Lib.hid hr; have HL := Lib.hid hl; have HDL := Lib.hid hd
  have RC := Lib.hid rc0; have RR := Lib.hid rr0; have HB := Lib.hid hb0
  have HZ := Lib.hid (Nat.le_of_eq hsz.symm)
  clear rc0 rr0 hb0 hsz hA hr hl hd hmd
  go_enter Try.func54, Try.ntmps54
  go_upto_region 1 with fail
  generalize ((w.alloc (.cells (cr5 f W.n (.slice pd md qd)) 76)).alloc (.cells (w3 nilV 0 nilV) 28)) = wa at *
  have C1 : Hid (RowC wa.drew w.heap.size f W.n (.slice pd md qd)) := RC
  have R1 : Hid (RowW wa.drew (w.heap.size + 1) nilV 0 nilV) := RR
  have B1 : Hid (Below w.heap.size w wa.drew) := below_drew HB.out
  have Z1 : Hid (w.heap.size + 2 ≤ wa.drew.heap.size) := HZ
  clear RC RR HB HZ
  go_cut [3] from 6 (fun s3 wz => ∃ (ga gV : Nat) (pv : Option Addr) (mm qv : Nat), s3 = .pointer (some ⟨gV, 0, none⟩) ∧ Hid (FamH wz w.heap.size wz.heap.size (.slice (some ⟨ga, 0, none⟩) 3 3) nilV (.slice pv mm qv) (fun _ => nilV) ⟨[[], [], []], [], W.d⟩) ∧ Hid (RowW wz gV (.slice (some ⟨ga, 0, none⟩) 3 3) W.n (.slice pv mm qv)) ∧ Hid (RowW wz (w.heap.size + 1) nilV 0 nilV) ∧ Hid (RowC wz w.heap.size f W.n (.slice pd md qd)) ∧ Hid (Below w.heap.size w wz) ∧ Hid (w.heap.size + 2 ≤ gV))
  case first =>
    refine wp_region_held_drew (S := (fun w' => w'.cell? ⟨w.heap.size, 3, none⟩ = some (.int .i64 W.n) ∧ w'.cell? ⟨w.heap.size, 4, none⟩ = some (.slice pd md qd))) (by kernel_rfl) (⟨C1.out.nn, C1.out.dd⟩) (fun hHeld => ?_)
    refine wpAnyH_take (i := 1) (v := ?va1x1) rfl (by kernel_rfl) (by kernel_rfl) (by kernel_rfl) (fun _ _ _ h => h) (Or.inl ⟨by rfl, ?hy1x1⟩) (by assumption) ?rest1x1
    case hy1x1 => (intro w hSw; (try dsimp only at hSw); go_simp; try with_reducible rfl)
    (try simp only [Act.put, List.getElem_toArray, List.getElem_cons_zero, List.getElem_cons_succ, List.setIfInBounds_toArray, List.set_cons_zero, List.set_cons_succ])
    refine wpAnyH_take (i := 2) (v := ?va2x2) rfl (by kernel_rfl) (by kernel_rfl) (by kernel_rfl) (fun _ _ _ h => h) (Or.inl ⟨by rfl, ?hy2x2⟩) (by assumption) ?rest2x2
    case hy2x2 => (intro w hSw; (try dsimp only at hSw); go_simp; try with_reducible rfl)
    (try simp only [Act.put, List.getElem_toArray, List.getElem_cons_zero, List.getElem_cons_succ, List.setIfInBounds_toArray, List.set_cons_zero, List.set_cons_succ])
    refine wpAnyH_take (i := 3) (v := ?va3x3) rfl (by kernel_rfl) (by kernel_rfl) (by kernel_rfl) (fun _ _ _ h => h) (Or.inl ⟨by rfl, ?hy3x3⟩) (by assumption) ?rest3x3
    case hy3x3 => (intro w hSw; (try dsimp only at hSw); go_simp; try with_reducible rfl)
    (try simp only [Act.put, List.getElem_toArray, List.getElem_cons_zero, List.getElem_cons_succ, List.setIfInBounds_toArray, List.set_cons_zero, List.set_cons_succ])
    refine wpAnyH_take (i := 4) (v := ?va4x4) rfl (by kernel_rfl) (by kernel_rfl) (by kernel_rfl) (fun _ _ _ h => h) (Or.inl ⟨by rfl, ?hy4x4⟩) (by assumption) ?rest4x4
    case hy4x4 => (intro w hSw; (try dsimp only at hSw); go_simp; try with_reducible rfl)
    (try simp only [Act.put, List.getElem_toArray, List.getElem_cons_zero, List.getElem_cons_succ, List.setIfInBounds_toArray, List.set_cons_zero, List.set_cons_succ])
    generalize wa.drew = x0 at *
    refine wpAnyH_ready (rs := [0, 5, 7]) (by kernel_rfl) (by simp) ?_
    refine AllReadyH.cons rfl (fun K hK => ?_) (AllReadyH.cons rfl (fun K hK => ?_) (AllReadyH.cons rfl (fun K hK => ?_) AllReadyH.nil))
    · skip
      clear hHeld
      rw [if_pos (by rfl)]
      refine op_make _ _ 25 rfl w.heap.size 26 i0 nilV 1 Try.underlying25 hi hz0 hz1 .i64 .i64 3 rfl rfl (by rw [hz2]; omega) (by unfold maxLen; omega) (by have := Z1.out; omega) ?_
      intro x1 hown1 hgr1
      rw [show (3 : Nat) * 1 = 3 from rfl, show nilV.cells = #[.slice none 0 0] from rfl, toList_madeCells_one] at hown1
      have hb1 := (Below.refl x0.heap.size x0).grown hgr1 (Nat.le_refl _) (fun k hk => by cases hk)
      have C1 := Lib.hid (RowC.below C1.out hb1)
      have R1 := Lib.hid (RowW.below R1.out hb1)
      have B1 := Lib.hid (bst B1.out hb1 B1.out.size)
      have Z1 : Hid (w.heap.size + 2 ≤ x1.heap.size) := Nat.le_trans Z1.out hb1.size
      have MK1 := Lib.hid hown1
      refine hK.out _ _ ⟨C1.out.nn, C1.out.dd⟩ (fun hHeld => ?_)
      clear hK K hb1 hown1 hgr1
      (try simp only [Act.put, List.getElem_toArray, List.getElem_cons_zero, List.setIfInBounds_toArray, List.set_cons_zero, List.set_cons_succ])
      refine wpAnyH_ready (rs := [5, 7]) (by kernel_rfl) (by simp) ?_
      refine AllReadyH.cons rfl (fun K hK => ?_) (AllReadyH.cons rfl (fun K hK => ?_) AllReadyH.nil)
      · skip
        clear hHeld
        go_simp
        refine (c_copyInts (.slice pd md qd) W.d _ (HD.out.below B1.out).1 HDL.out).mono ?_
        rintro e x2 ⟨vd, rfl, hod, hb2⟩
        have C2 := Lib.hid (RowC.below C1.out hb2)
        have R2 := Lib.hid (RowW.below R1.out hb2)
        have B2 := Lib.hid (bst B1.out hb2 B1.out.size)
        have M2 : Hid (World.ownsRow _ w.heap.size 26 1 _ 3 _) := owns_block MK1.out fun g hg => hb2.block g (owns_lt MK1.out hg).2
        have Z2 : Hid (w.heap.size + 2 ≤ x2.heap.size) := Nat.le_trans Z1.out hb2.size
        have O2 : Hid (Own x2 w.heap.size vd W.d) := owns_mono hod fun g hg => Nat.le_trans (by have := Z1.out; omega) (owns_lt hod hg).1
        have NE : Hid (vd.ownBlock ≠ some x0.heap.size) := fun e => by have := (owns_lt hod e).1; have := (owns_lt (g := x0.heap.size) MK1.out rfl).2; omega
        obtain ⟨pv, qv, hvd⟩ := hod.ints.shape
        generalize hmm : W.d.length = mm at hvd
        subst hvd
        clear hmm
        refine hK.out _ _ ⟨C2.out.nn, C2.out.dd⟩ (fun hHeld => ?_)
        clear hK K hb2 hod
        (try simp only [Act.put, List.getElem_toArray, List.getElem_cons_zero, List.getElem_cons_succ, List.setIfInBounds_toArray, List.set_cons_zero, List.set_cons_succ])
        refine wpAnyH_take (i := 6) (v := ?va6x5) rfl (by kernel_rfl) (by kernel_rfl) (by kernel_rfl) (fun _ _ _ h => h) (Or.inl ⟨by rfl, ?hy6x5⟩) (by assumption) ?rest6x5
        case hy6x5 => (intro w hSw; (try dsimp only at hSw); go_simp; try with_reducible rfl)
        (try simp only [Act.put, List.getElem_toArray, List.getElem_cons_zero, List.getElem_cons_succ, List.setIfInBounds_toArray, List.set_cons_zero, List.set_cons_succ])
        refine wpAnyH_ready (rs := [7]) (by kernel_rfl) (by simp) ?_
        refine AllReadyH.cons rfl (fun K hK => ?_) AllReadyH.nil
        clear hHeld
        obtain ⟨x3, hx3⟩ : ∃ x, x = x2.alloc (.cells (w3 nilV 0 nilV) 28) := ⟨_, rfl⟩
        have hb3 : Below x2.heap.size x2 x3 := by rw [hx3]; exact below1 x2 (.cells (w3 nilV 0 nilV) 28)
        have C3 := Lib.hid (RowC.below C2.out hb3)
        have R3 := Lib.hid (RowW.below R2.out hb3)
        have B3 := Lib.hid (bst B2.out hb3 B2.out.size)
        have M3 : Hid (World.ownsRow _ w.heap.size 26 1 _ 3 _) := owns_block M2.out fun g hg => hb3.block g (owns_lt M2.out hg).2
        have O3 : Hid (Own _ w.heap.size (.slice pv mm qv) W.d) := Own.below O2.out hb3
        have Z3 : Hid (w.heap.size + 2 ≤ x3.heap.size) := Nat.le_trans Z2.out hb3.size
        have V3 : Hid (RowW x3 x2.heap.size nilV 0 nilV) := by rw [hx3]; exact Row.new x2 _ _
        go_simp
        rw [← hx3]
        refine hK.out _ _ ⟨C3.out.nn, C3.out.dd⟩ (fun hHeld => ?_)
        clear hK K hb3 hx3
        (try simp only [Act.put, List.getElem_toArray, List.getElem_cons_zero, List.getElem_cons_succ, List.setIfInBounds_toArray, List.set_cons_zero, List.set_cons_succ])
        have FM := famStart (hi := x3.heap.size) M3.out O3.out NE.out (owns_lt M3.out rfl).2 (fun g hg => (owns_lt O3.out hg).2)
        have FM2 : Hid (FamH (x3.setRow (x2.heap.size) (w3 (.slice (some ⟨x0.heap.size, 0, none⟩) 3 3) W.n (.slice pv mm qv))) w.heap.size x3.heap.size (.slice (some ⟨x0.heap.size, 0, none⟩) 3 3) nilV (.slice pv mm qv) (fun _ => nilV) ⟨[[], [], []], [], W.d⟩) := FM.keepRowW V3.out fun i hi _ => setRow_other x3 (x2.heap.size) i _ hi
        clear FM
        have hg1 : w.heap.size + 1 ≠ x2.heap.size := by have := Z2.out; omega
        have hg0 : w.heap.size ≠ x2.heap.size := by have := Z2.out; omega
        have V9 : Hid (RowW (x3.setRow (x2.heap.size) (w3 (.slice (some ⟨x0.heap.size, 0, none⟩) 3 3) W.n (.slice pv mm qv))) (x2.heap.size) (.slice (some ⟨x0.heap.size, 0, none⟩) 3 3) W.n (.slice pv mm qv)) := Row.put V3.out _
        have R9 : Hid (RowW (x3.setRow (x2.heap.size) (w3 (.slice (some ⟨x0.heap.size, 0, none⟩) 3 3) W.n (.slice pv mm qv))) (w.heap.size + 1) nilV 0 nilV) := Row.putOther R3.out _ hg1
        have C9 : Hid (RowC (x3.setRow (x2.heap.size) (w3 (.slice (some ⟨x0.heap.size, 0, none⟩) 3 3) W.n (.slice pv mm qv))) w.heap.size f W.n (.slice pd md qd)) := Row.putOther C3.out _ hg0
        have B9 := Lib.hid (below_setRow B3.out (show w.heap.size ≤ x2.heap.size by have := Z2.out; omega) (w3 (.slice (some ⟨x0.heap.size, 0, none⟩) 3 3) W.n (.slice pv mm qv)))
        have S9 : Hid ((x3.setRow (x2.heap.size) (w3 (.slice (some ⟨x0.heap.size, 0, none⟩) 3 3) W.n (.slice pv mm qv))).heap.size = x3.heap.size) := size_setRow _ _ _
        clear hHeld
        refine wpAnyH_ready (rs := [8]) (by kernel_rfl) (by simp) ?_
        refine AllReadyH.cons rfl (fun K hK => ?_) AllReadyH.nil
        rw [if_pos (by rfl)]
        refine wp_store_row 28 _ _ rfl (x2.heap.size) (w3 (.slice (some ⟨x0.heap.size, 0, none⟩) 3 3) W.n (.slice pv mm qv)) rfl rfl 28 (w3 nilV 0 nilV) V3.out info_work rfl (by simp [Value.oneCell']) ?_
        refine hK.out _ _ ⟨C9.out.nn, C9.out.dd⟩ (fun hHeld => ?_)
        clear hK K
        (try simp only [Act.put, List.getElem_toArray, List.getElem_cons_zero, List.getElem_cons_succ])
        refine wpAnyH_done (by kernel_rfl) ?_ _
        clear hHeld
        go_wp2_with fail
        go_meet
        case rel => exact ⟨x0.heap.size, x2.heap.size, pv, mm, qv, rfl, (by unfold Hid; rw [S9.out]; exact FM2.out), V9, R9, C9, B9, Z2⟩
      · skip
        clear hHeld
        obtain ⟨x4, hx4⟩ : ∃ x, x = x1.alloc (.cells (w3 nilV 0 nilV) 28) := ⟨_, rfl⟩
        have hb4 : Below x1.heap.size x1 x4 := by rw [hx4]; exact below1 x1 (.cells (w3 nilV 0 nilV) 28)
        have C4 := Lib.hid (RowC.below C1.out hb4)
        have R4 := Lib.hid (RowW.below R1.out hb4)
        have B4 := Lib.hid (bst B1.out hb4 B1.out.size)
        have M4 : Hid (World.ownsRow _ w.heap.size 26 1 _ 3 _) := owns_block MK1.out fun g hg => hb4.block g (owns_lt MK1.out hg).2
        have Z4 : Hid (w.heap.size + 2 ≤ x4.heap.size) := Nat.le_trans Z1.out hb4.size
        have V4 : Hid (RowW x4 x1.heap.size nilV 0 nilV) := by rw [hx4]; exact Row.new x1 _ _
        go_simp
        rw [← hx4]
        refine hK.out _ _ ⟨C4.out.nn, C4.out.dd⟩ (fun hHeld => ?_)
        clear hK K hb4 hx4
        (try simp only [Act.put, List.getElem_toArray, List.getElem_cons_zero, List.getElem_cons_succ, List.setIfInBounds_toArray, List.set_cons_zero, List.set_cons_succ])
        refine wpAnyH_ready (rs := [5]) (by kernel_rfl) (by simp) ?_
        refine AllReadyH.cons rfl (fun K hK => ?_) AllReadyH.nil
        clear hHeld
        go_simp
        refine (c_copyInts (.slice pd md qd) W.d _ (HD.out.below B4.out).1 HDL.out).mono ?_
        rintro e x5 ⟨vd, rfl, hod, hb5⟩
        have C5 := Lib.hid (RowC.below C4.out hb5)
        have R5 := Lib.hid (RowW.below R4.out hb5)
        have B5 := Lib.hid (bst B4.out hb5 B4.out.size)
        have M5 : Hid (World.ownsRow _ w.heap.size 26 1 _ 3 _) := owns_block M4.out fun g hg => hb5.block g (owns_lt M4.out hg).2
        have V5 := Lib.hid (RowW.below V4.out hb5)
        have Z5 : Hid (w.heap.size + 2 ≤ x5.heap.size) := Nat.le_trans Z4.out hb5.size
        have O5 : Hid (Own x5 w.heap.size vd W.d) := owns_mono hod fun g hg => Nat.le_trans (by have := Z4.out; omega) (owns_lt hod hg).1
        have NE : Hid (vd.ownBlock ≠ some x0.heap.size) := fun e => by have := (owns_lt hod e).1; have := (owns_lt (g := x0.heap.size) M4.out rfl).2; omega
        obtain ⟨pv, qv, hvd⟩ := hod.ints.shape
        generalize hmm : W.d.length = mm at hvd
        subst hvd
        clear hmm
        refine hK.out _ _ ⟨C5.out.nn, C5.out.dd⟩ (fun hHeld => ?_)
        clear hK K hb5 hod
        (try simp only [Act.put, List.getElem_toArray, List.getElem_cons_zero, List.getElem_cons_succ, List.setIfInBounds_toArray, List.set_cons_zero, List.set_cons_succ])
        refine wpAnyH_take (i := 6) (v := ?va6x6) rfl (by kernel_rfl) (by kernel_rfl) (by kernel_rfl) (fun _ _ _ h => h) (Or.inl ⟨by rfl, ?hy6x6⟩) (by assumption) ?rest6x6
        case hy6x6 => (intro w hSw; (try dsimp only at hSw); go_simp; try with_reducible rfl)
        (try simp only [Act.put, List.getElem_toArray, List.getElem_cons_zero, List.getElem_cons_succ, List.setIfInBounds_toArray, List.set_cons_zero, List.set_cons_succ])
        have FM := famStart (hi := x5.heap.size) M5.out O5.out NE.out (owns_lt M5.out rfl).2 (fun g hg => (owns_lt O5.out hg).2)
        have FM2 : Hid (FamH (x5.setRow (x1.heap.size) (w3 (.slice (some ⟨x0.heap.size, 0, none⟩) 3 3) W.n (.slice pv mm qv))) w.heap.size x5.heap.size (.slice (some ⟨x0.heap.size, 0, none⟩) 3 3) nilV (.slice pv mm qv) (fun _ => nilV) ⟨[[], [], []], [], W.d⟩) := FM.keepRowW V5.out fun i hi _ => setRow_other x5 (x1.heap.size) i _ hi
        clear FM
        have hg1 : w.heap.size + 1 ≠ x1.heap.size := by have := Z1.out; omega
        have hg0 : w.heap.size ≠ x1.heap.size := by have := Z1.out; omega
        have V9 : Hid (RowW (x5.setRow (x1.heap.size) (w3 (.slice (some ⟨x0.heap.size, 0, none⟩) 3 3) W.n (.slice pv mm qv))) (x1.heap.size) (.slice (some ⟨x0.heap.size, 0, none⟩) 3 3) W.n (.slice pv mm qv)) := Row.put V5.out _
        have R9 : Hid (RowW (x5.setRow (x1.heap.size) (w3 (.slice (some ⟨x0.heap.size, 0, none⟩) 3 3) W.n (.slice pv mm qv))) (w.heap.size + 1) nilV 0 nilV) := Row.putOther R5.out _ hg1
        have C9 : Hid (RowC (x5.setRow (x1.heap.size) (w3 (.slice (some ⟨x0.heap.size, 0, none⟩) 3 3) W.n (.slice pv mm qv))) w.heap.size f W.n (.slice pd md qd)) := Row.putOther C5.out _ hg0
        have B9 := Lib.hid (below_setRow B5.out (show w.heap.size ≤ x1.heap.size by have := Z1.out; omega) (w3 (.slice (some ⟨x0.heap.size, 0, none⟩) 3 3) W.n (.slice pv mm qv)))
        have S9 : Hid ((x5.setRow (x1.heap.size) (w3 (.slice (some ⟨x0.heap.size, 0, none⟩) 3 3) W.n (.slice pv mm qv))).heap.size = x5.heap.size) := size_setRow _ _ _
        clear hHeld
        refine wpAnyH_ready (rs := [8]) (by kernel_rfl) (by simp) ?_
        refine AllReadyH.cons rfl (fun K hK => ?_) AllReadyH.nil
        rw [if_pos (by rfl)]
        refine wp_store_row 28 _ _ rfl (x1.heap.size) (w3 (.slice (some ⟨x0.heap.size, 0, none⟩) 3 3) W.n (.slice pv mm qv)) rfl rfl 28 (w3 nilV 0 nilV) V5.out info_work rfl (by simp [Value.oneCell']) ?_
        refine hK.out _ _ ⟨C9.out.nn, C9.out.dd⟩ (fun hHeld => ?_)
        clear hK K
        (try simp only [Act.put, List.getElem_toArray, List.getElem_cons_zero, List.getElem_cons_succ])
        refine wpAnyH_done (by kernel_rfl) ?_ _
        clear hHeld
        go_wp2_with fail
        go_meet
        case rel => exact ⟨x0.heap.size, x1.heap.size, pv, mm, qv, rfl, (by unfold Hid; rw [S9.out]; exact FM2.out), V9, R9, C9, B9, Z1⟩
    · skip
      clear hHeld
      go_simp
      refine (c_copyInts (.slice pd md qd) W.d _ (HD.out.below B1.out).1 HDL.out).mono ?_
      rintro e x6 ⟨vd, rfl, hod, hb6⟩
      have C6 := Lib.hid (RowC.below C1.out hb6)
      have R6 := Lib.hid (RowW.below R1.out hb6)
      have B6 := Lib.hid (bst B1.out hb6 B1.out.size)
      have Z6 : Hid (w.heap.size + 2 ≤ x6.heap.size) := Nat.le_trans Z1.out hb6.size
      have O6 : Hid (Own x6 w.heap.size vd W.d) := owns_mono hod fun g hg => Nat.le_trans (by have := Z1.out; omega) (owns_lt hod hg).1
      obtain ⟨pv, qv, hvd⟩ := hod.ints.shape
      generalize hmm : W.d.length = mm at hvd
      subst hvd
      clear hmm
      refine hK.out _ _ ⟨C6.out.nn, C6.out.dd⟩ (fun hHeld => ?_)
      clear hK K hb6 hod
      (try simp only [Act.put, List.getElem_toArray, List.getElem_cons_zero, List.getElem_cons_succ, List.setIfInBounds_toArray, List.set_cons_zero, List.set_cons_succ])
      refine wpAnyH_ready (rs := [0, 7]) (by kernel_rfl) (by simp) ?_
      refine AllReadyH.cons rfl (fun K hK => ?_) (AllReadyH.cons rfl (fun K hK => ?_) AllReadyH.nil)
      · skip
        clear hHeld
        rw [if_pos (by rfl)]
        refine op_make _ _ 25 rfl w.heap.size 26 i0 nilV 1 Try.underlying25 hi hz0 hz1 .i64 .i64 3 rfl rfl (by rw [hz2]; omega) (by unfold maxLen; omega) (by have := Z6.out; omega) ?_
        intro x7 hown7 hgr7
        rw [show (3 : Nat) * 1 = 3 from rfl, show nilV.cells = #[.slice none 0 0] from rfl, toList_madeCells_one] at hown7
        have hb7 := (Below.refl x6.heap.size x6).grown hgr7 (Nat.le_refl _) (fun k hk => by cases hk)
        have C7 := Lib.hid (RowC.below C6.out hb7)
        have R7 := Lib.hid (RowW.below R6.out hb7)
        have B7 := Lib.hid (bst B6.out hb7 B6.out.size)
        have O7 : Hid (Own _ w.heap.size (.slice pv mm qv) W.d) := Own.below O6.out hb7
        have Z7 : Hid (w.heap.size + 2 ≤ x7.heap.size) := Nat.le_trans Z6.out hb7.size
        have MK7 := Lib.hid hown7
        refine hK.out _ _ ⟨C7.out.nn, C7.out.dd⟩ (fun hHeld => ?_)
        clear hK K hb7 hown7 hgr7
        (try simp only [Act.put, List.getElem_toArray, List.getElem_cons_zero, List.setIfInBounds_toArray, List.set_cons_zero, List.set_cons_succ])
        have NE : Hid ((Value.slice pv mm qv).ownBlock ≠ some x6.heap.size) := fun e => by have := (owns_lt O6.out e).2; omega
        refine wpAnyH_take (i := 6) (v := ?va6x7) rfl (by kernel_rfl) (by kernel_rfl) (by kernel_rfl) (fun _ _ _ h => h) (Or.inl ⟨by rfl, ?hy6x7⟩) (by assumption) ?rest6x7
        case hy6x7 => (intro w hSw; (try dsimp only at hSw); go_simp; try with_reducible rfl)
        (try simp only [Act.put, List.getElem_toArray, List.getElem_cons_zero, List.getElem_cons_succ, List.setIfInBounds_toArray, List.set_cons_zero, List.set_cons_succ])
        refine wpAnyH_ready (rs := [7]) (by kernel_rfl) (by simp) ?_
        refine AllReadyH.cons rfl (fun K hK => ?_) AllReadyH.nil
        clear hHeld
        obtain ⟨x8, hx8⟩ : ∃ x, x = x7.alloc (.cells (w3 nilV 0 nilV) 28) := ⟨_, rfl⟩
        have hb8 : Below x7.heap.size x7 x8 := by rw [hx8]; exact below1 x7 (.cells (w3 nilV 0 nilV) 28)
        have C8 := Lib.hid (RowC.below C7.out hb8)
        have R8 := Lib.hid (RowW.below R7.out hb8)
        have B8 := Lib.hid (bst B7.out hb8 B7.out.size)
        have O8 : Hid (Own _ w.heap.size (.slice pv mm qv) W.d) := Own.below O7.out hb8
        have M8 : Hid (World.ownsRow _ w.heap.size 26 1 _ 3 _) := owns_block MK7.out fun g hg => hb8.block g (owns_lt MK7.out hg).2
        have Z8 : Hid (w.heap.size + 2 ≤ x8.heap.size) := Nat.le_trans Z7.out hb8.size
        have V8 : Hid (RowW x8 x7.heap.size nilV 0 nilV) := by rw [hx8]; exact Row.new x7 _ _
        go_simp
        rw [← hx8]
        refine hK.out _ _ ⟨C8.out.nn, C8.out.dd⟩ (fun hHeld => ?_)
        clear hK K hb8 hx8
        (try simp only [Act.put, List.getElem_toArray, List.getElem_cons_zero, List.getElem_cons_succ, List.setIfInBounds_toArray, List.set_cons_zero, List.set_cons_succ])
        have FM := famStart (hi := x8.heap.size) M8.out O8.out NE.out (owns_lt M8.out rfl).2 (fun g hg => (owns_lt O8.out hg).2)
        have FM2 : Hid (FamH (x8.setRow (x7.heap.size) (w3 (.slice (some ⟨x6.heap.size, 0, none⟩) 3 3) W.n (.slice pv mm qv))) w.heap.size x8.heap.size (.slice (some ⟨x6.heap.size, 0, none⟩) 3 3) nilV (.slice pv mm qv) (fun _ => nilV) ⟨[[], [], []], [], W.d⟩) := FM.keepRowW V8.out fun i hi _ => setRow_other x8 (x7.heap.size) i _ hi
        clear FM
        have hg1 : w.heap.size + 1 ≠ x7.heap.size := by have := Z7.out; omega
        have hg0 : w.heap.size ≠ x7.heap.size := by have := Z7.out; omega
        have V9 : Hid (RowW (x8.setRow (x7.heap.size) (w3 (.slice (some ⟨x6.heap.size, 0, none⟩) 3 3) W.n (.slice pv mm qv))) (x7.heap.size) (.slice (some ⟨x6.heap.size, 0, none⟩) 3 3) W.n (.slice pv mm qv)) := Row.put V8.out _
        have R9 : Hid (RowW (x8.setRow (x7.heap.size) (w3 (.slice (some ⟨x6.heap.size, 0, none⟩) 3 3) W.n (.slice pv mm qv))) (w.heap.size + 1) nilV 0 nilV) := Row.putOther R8.out _ hg1
        have C9 : Hid (RowC (x8.setRow (x7.heap.size) (w3 (.slice (some ⟨x6.heap.size, 0, none⟩) 3 3) W.n (.slice pv mm qv))) w.heap.size f W.n (.slice pd md qd)) := Row.putOther C8.out _ hg0
        have B9 := Lib.hid (below_setRow B8.out (show w.heap.size ≤ x7.heap.size by have := Z7.out; omega) (w3 (.slice (some ⟨x6.heap.size, 0, none⟩) 3 3) W.n (.slice pv mm qv)))
        have S9 : Hid ((x8.setRow (x7.heap.size) (w3 (.slice (some ⟨x6.heap.size, 0, none⟩) 3 3) W.n (.slice pv mm qv))).heap.size = x8.heap.size) := size_setRow _ _ _
        clear hHeld
        refine wpAnyH_ready (rs := [8]) (by kernel_rfl) (by simp) ?_
        refine AllReadyH.cons rfl (fun K hK => ?_) AllReadyH.nil
        rw [if_pos (by rfl)]
        refine wp_store_row 28 _ _ rfl (x7.heap.size) (w3 (.slice (some ⟨x6.heap.size, 0, none⟩) 3 3) W.n (.slice pv mm qv)) rfl rfl 28 (w3 nilV 0 nilV) V8.out info_work rfl (by simp [Value.oneCell']) ?_
        refine hK.out _ _ ⟨C9.out.nn, C9.out.dd⟩ (fun hHeld => ?_)
        clear hK K
        (try simp only [Act.put, List.getElem_toArray, List.getElem_cons_zero, List.getElem_cons_succ])
        refine wpAnyH_done (by kernel_rfl) ?_ _
        clear hHeld
        go_wp2_with fail
        go_meet
        case rel => exact ⟨x6.heap.size, x7.heap.size, pv, mm, qv, rfl, (by unfold Hid; rw [S9.out]; exact FM2.out), V9, R9, C9, B9, Z7⟩
      · skip
        clear hHeld
        obtain ⟨x9, hx9⟩ : ∃ x, x = x6.alloc (.cells (w3 nilV 0 nilV) 28) := ⟨_, rfl⟩
        have hb9 : Below x6.heap.size x6 x9 := by rw [hx9]; exact below1 x6 (.cells (w3 nilV 0 nilV) 28)
        have C9 := Lib.hid (RowC.below C6.out hb9)
        have R9 := Lib.hid (RowW.below R6.out hb9)
        have B9 := Lib.hid (bst B6.out hb9 B6.out.size)
        have O9 : Hid (Own _ w.heap.size (.slice pv mm qv) W.d) := Own.below O6.out hb9
        have Z9 : Hid (w.heap.size + 2 ≤ x9.heap.size) := Nat.le_trans Z6.out hb9.size
        have V9 : Hid (RowW x9 x6.heap.size nilV 0 nilV) := by rw [hx9]; exact Row.new x6 _ _
        go_simp
        rw [← hx9]
        refine hK.out _ _ ⟨C9.out.nn, C9.out.dd⟩ (fun hHeld => ?_)
        clear hK K hb9 hx9
        (try simp only [Act.put, List.getElem_toArray, List.getElem_cons_zero, List.getElem_cons_succ, List.setIfInBounds_toArray, List.set_cons_zero, List.set_cons_succ])
        refine wpAnyH_ready (rs := [0]) (by kernel_rfl) (by simp) ?_
        refine AllReadyH.cons rfl (fun K hK => ?_) AllReadyH.nil
        clear hHeld
        rw [if_pos (by rfl)]
        refine op_make _ _ 25 rfl w.heap.size 26 i0 nilV 1 Try.underlying25 hi hz0 hz1 .i64 .i64 3 rfl rfl (by rw [hz2]; omega) (by unfold maxLen; omega) (by have := Z9.out; omega) ?_
        intro x10 hown10 hgr10
        rw [show (3 : Nat) * 1 = 3 from rfl, show nilV.cells = #[.slice none 0 0] from rfl, toList_madeCells_one] at hown10
        have hb10 := (Below.refl x9.heap.size x9).grown hgr10 (Nat.le_refl _) (fun k hk => by cases hk)
        have C10 := Lib.hid (RowC.below C9.out hb10)
        have R10 := Lib.hid (RowW.below R9.out hb10)
        have B10 := Lib.hid (bst B9.out hb10 B9.out.size)
        have O10 : Hid (Own _ w.heap.size (.slice pv mm qv) W.d) := Own.below O9.out hb10
        have V10 := Lib.hid (RowW.below V9.out hb10)
        have Z10 : Hid (w.heap.size + 2 ≤ x10.heap.size) := Nat.le_trans Z9.out hb10.size
        have MK10 := Lib.hid hown10
        refine hK.out _ _ ⟨C10.out.nn, C10.out.dd⟩ (fun hHeld => ?_)
        clear hK K hb10 hown10 hgr10
        (try simp only [Act.put, List.getElem_toArray, List.getElem_cons_zero, List.setIfInBounds_toArray, List.set_cons_zero, List.set_cons_succ])
        have NE : Hid ((Value.slice pv mm qv).ownBlock ≠ some x9.heap.size) := fun e => by have := (owns_lt O9.out e).2; omega
        refine wpAnyH_take (i := 6) (v := ?va6x8) rfl (by kernel_rfl) (by kernel_rfl) (by kernel_rfl) (fun _ _ _ h => h) (Or.inl ⟨by rfl, ?hy6x8⟩) (by assumption) ?rest6x8
        case hy6x8 => (intro w hSw; (try dsimp only at hSw); go_simp; try with_reducible rfl)
        (try simp only [Act.put, List.getElem_toArray, List.getElem_cons_zero, List.getElem_cons_succ, List.setIfInBounds_toArray, List.set_cons_zero, List.set_cons_succ])
        have FM := famStart (hi := x10.heap.size) MK10.out O10.out NE.out (owns_lt MK10.out rfl).2 (fun g hg => (owns_lt O10.out hg).2)
        have FM2 : Hid (FamH (x10.setRow (x6.heap.size) (w3 (.slice (some ⟨x9.heap.size, 0, none⟩) 3 3) W.n (.slice pv mm qv))) w.heap.size x10.heap.size (.slice (some ⟨x9.heap.size, 0, none⟩) 3 3) nilV (.slice pv mm qv) (fun _ => nilV) ⟨[[], [], []], [], W.d⟩) := FM.keepRowW V10.out fun i hi _ => setRow_other x10 (x6.heap.size) i _ hi
        clear FM
        have hg1 : w.heap.size + 1 ≠ x6.heap.size := by have := Z6.out; omega
        have hg0 : w.heap.size ≠ x6.heap.size := by have := Z6.out; omega
        have V9 : Hid (RowW (x10.setRow (x6.heap.size) (w3 (.slice (some ⟨x9.heap.size, 0, none⟩) 3 3) W.n (.slice pv mm qv))) (x6.heap.size) (.slice (some ⟨x9.heap.size, 0, none⟩) 3 3) W.n (.slice pv mm qv)) := Row.put V10.out _
        have R9 : Hid (RowW (x10.setRow (x6.heap.size) (w3 (.slice (some ⟨x9.heap.size, 0, none⟩) 3 3) W.n (.slice pv mm qv))) (w.heap.size + 1) nilV 0 nilV) := Row.putOther R10.out _ hg1
        have C9 : Hid (RowC (x10.setRow (x6.heap.size) (w3 (.slice (some ⟨x9.heap.size, 0, none⟩) 3 3) W.n (.slice pv mm qv))) w.heap.size f W.n (.slice pd md qd)) := Row.putOther C10.out _ hg0
        have B9 := Lib.hid (below_setRow B10.out (show w.heap.size ≤ x6.heap.size by have := Z6.out; omega) (w3 (.slice (some ⟨x9.heap.size, 0, none⟩) 3 3) W.n (.slice pv mm qv)))
        have S9 : Hid ((x10.setRow (x6.heap.size) (w3 (.slice (some ⟨x9.heap.size, 0, none⟩) 3 3) W.n (.slice pv mm qv))).heap.size = x10.heap.size) := size_setRow _ _ _
        clear hHeld
        refine wpAnyH_ready (rs := [8]) (by kernel_rfl) (by simp) ?_
        refine AllReadyH.cons rfl (fun K hK => ?_) AllReadyH.nil
        rw [if_pos (by rfl)]
        refine wp_store_row 28 _ _ rfl (x6.heap.size) (w3 (.slice (some ⟨x9.heap.size, 0, none⟩) 3 3) W.n (.slice pv mm qv)) rfl rfl 28 (w3 nilV 0 nilV) V10.out info_work rfl (by simp [Value.oneCell']) ?_
        refine hK.out _ _ ⟨C9.out.nn, C9.out.dd⟩ (fun hHeld => ?_)
        clear hK K
        (try simp only [Act.put, List.getElem_toArray, List.getElem_cons_zero, List.getElem_cons_succ])
        refine wpAnyH_done (by kernel_rfl) ?_ _
        clear hHeld
        go_wp2_with fail
        go_meet
        case rel => exact ⟨x9.heap.size, x6.heap.size, pv, mm, qv, rfl, (by unfold Hid; rw [S9.out]; exact FM2.out), V9, R9, C9, B9, Z6⟩
    · skip
      clear hHeld
      obtain ⟨x11, hx11⟩ : ∃ x, x = x0.alloc (.cells (w3 nilV 0 nilV) 28) := ⟨_, rfl⟩
      have hb11 : Below x0.heap.size x0 x11 := by rw [hx11]; exact below1 x0 (.cells (w3 nilV 0 nilV) 28)
      have C11 := Lib.hid (RowC.below C1.out hb11)
      have R11 := Lib.hid (RowW.below R1.out hb11)
      have B11 := Lib.hid (bst B1.out hb11 B1.out.size)
      have Z11 : Hid (w.heap.size + 2 ≤ x11.heap.size) := Nat.le_trans Z1.out hb11.size
      have V11 : Hid (RowW x11 x0.heap.size nilV 0 nilV) := by rw [hx11]; exact Row.new x0 _ _
      go_simp
      rw [← hx11]
      refine hK.out _ _ ⟨C11.out.nn, C11.out.dd⟩ (fun hHeld => ?_)
      clear hK K hb11 hx11
      (try simp only [Act.put, List.getElem_toArray, List.getElem_cons_zero, List.getElem_cons_succ, List.setIfInBounds_toArray, List.set_cons_zero, List.set_cons_succ])
      refine wpAnyH_ready (rs := [0, 5]) (by kernel_rfl) (by simp) ?_
      refine AllReadyH.cons rfl (fun K hK => ?_) (AllReadyH.cons rfl (fun K hK => ?_) AllReadyH.nil)
      · skip
        clear hHeld
        rw [if_pos (by rfl)]
        refine op_make _ _ 25 rfl w.heap.size 26 i0 nilV 1 Try.underlying25 hi hz0 hz1 .i64 .i64 3 rfl rfl (by rw [hz2]; omega) (by unfold maxLen; omega) (by have := Z11.out; omega) ?_
        intro x12 hown12 hgr12
        rw [show (3 : Nat) * 1 = 3 from rfl, show nilV.cells = #[.slice none 0 0] from rfl, toList_madeCells_one] at hown12
        have hb12 := (Below.refl x11.heap.size x11).grown hgr12 (Nat.le_refl _) (fun k hk => by cases hk)
        have C12 := Lib.hid (RowC.below C11.out hb12)
        have R12 := Lib.hid (RowW.below R11.out hb12)
        have B12 := Lib.hid (bst B11.out hb12 B11.out.size)
        have V12 := Lib.hid (RowW.below V11.out hb12)
        have Z12 : Hid (w.heap.size + 2 ≤ x12.heap.size) := Nat.le_trans Z11.out hb12.size
        have MK12 := Lib.hid hown12
        refine hK.out _ _ ⟨C12.out.nn, C12.out.dd⟩ (fun hHeld => ?_)
        clear hK K hb12 hown12 hgr12
        (try simp only [Act.put, List.getElem_toArray, List.getElem_cons_zero, List.setIfInBounds_toArray, List.set_cons_zero, List.set_cons_succ])
        refine wpAnyH_ready (rs := [5]) (by kernel_rfl) (by simp) ?_
        refine AllReadyH.cons rfl (fun K hK => ?_) AllReadyH.nil
        clear hHeld
        go_simp
        refine (c_copyInts (.slice pd md qd) W.d _ (HD.out.below B12.out).1 HDL.out).mono ?_
        rintro e x13 ⟨vd, rfl, hod, hb13⟩
        have C13 := Lib.hid (RowC.below C12.out hb13)
        have R13 := Lib.hid (RowW.below R12.out hb13)
        have B13 := Lib.hid (bst B12.out hb13 B12.out.size)
        have V13 := Lib.hid (RowW.below V12.out hb13)
        have M13 : Hid (World.ownsRow _ w.heap.size 26 1 _ 3 _) := owns_block MK12.out fun g hg => hb13.block g (owns_lt MK12.out hg).2
        have Z13 : Hid (w.heap.size + 2 ≤ x13.heap.size) := Nat.le_trans Z12.out hb13.size
        have O13 : Hid (Own x13 w.heap.size vd W.d) := owns_mono hod fun g hg => Nat.le_trans (by have := Z12.out; omega) (owns_lt hod hg).1
        have NE : Hid (vd.ownBlock ≠ some x11.heap.size) := fun e => by have := (owns_lt hod e).1; have := (owns_lt (g := x11.heap.size) MK12.out rfl).2; omega
        obtain ⟨pv, qv, hvd⟩ := hod.ints.shape
        generalize hmm : W.d.length = mm at hvd
        subst hvd
        clear hmm
        refine hK.out _ _ ⟨C13.out.nn, C13.out.dd⟩ (fun hHeld => ?_)
        clear hK K hb13 hod
        (try simp only [Act.put, List.getElem_toArray, List.getElem_cons_zero, List.getElem_cons_succ, List.setIfInBounds_toArray, List.set_cons_zero, List.set_cons_succ])
        refine wpAnyH_take (i := 6) (v := ?va6x9) rfl (by kernel_rfl) (by kernel_rfl) (by kernel_rfl) (fun _ _ _ h => h) (Or.inl ⟨by rfl, ?hy6x9⟩) (by assumption) ?rest6x9
        case hy6x9 => (intro w hSw; (try dsimp only at hSw); go_simp; try with_reducible rfl)
        (try simp only [Act.put, List.getElem_toArray, List.getElem_cons_zero, List.getElem_cons_succ, List.setIfInBounds_toArray, List.set_cons_zero, List.set_cons_succ])
        have FM := famStart (hi := x13.heap.size) M13.out O13.out NE.out (owns_lt M13.out rfl).2 (fun g hg => (owns_lt O13.out hg).2)
        have FM2 : Hid (FamH (x13.setRow (x0.heap.size) (w3 (.slice (some ⟨x11.heap.size, 0, none⟩) 3 3) W.n (.slice pv mm qv))) w.heap.size x13.heap.size (.slice (some ⟨x11.heap.size, 0, none⟩) 3 3) nilV (.slice pv mm qv) (fun _ => nilV) ⟨[[], [], []], [], W.d⟩) := FM.keepRowW V13.out fun i hi _ => setRow_other x13 (x0.heap.size) i _ hi
        clear FM
        have hg1 : w.heap.size + 1 ≠ x0.heap.size := by have := Z1.out; omega
        have hg0 : w.heap.size ≠ x0.heap.size := by have := Z1.out; omega
        have V9 : Hid (RowW (x13.setRow (x0.heap.size) (w3 (.slice (some ⟨x11.heap.size, 0, none⟩) 3 3) W.n (.slice pv mm qv))) (x0.heap.size) (.slice (some ⟨x11.heap.size, 0, none⟩) 3 3) W.n (.slice pv mm qv)) := Row.put V13.out _
        have R9 : Hid (RowW (x13.setRow (x0.heap.size) (w3 (.slice (some ⟨x11.heap.size, 0, none⟩) 3 3) W.n (.slice pv mm qv))) (w.heap.size + 1) nilV 0 nilV) := Row.putOther R13.out _ hg1
        have C9 : Hid (RowC (x13.setRow (x0.heap.size) (w3 (.slice (some ⟨x11.heap.size, 0, none⟩) 3 3) W.n (.slice pv mm qv))) w.heap.size f W.n (.slice pd md qd)) := Row.putOther C13.out _ hg0
        have B9 := Lib.hid (below_setRow B13.out (show w.heap.size ≤ x0.heap.size by have := Z1.out; omega) (w3 (.slice (some ⟨x11.heap.size, 0, none⟩) 3 3) W.n (.slice pv mm qv)))
        have S9 : Hid ((x13.setRow (x0.heap.size) (w3 (.slice (some ⟨x11.heap.size, 0, none⟩) 3 3) W.n (.slice pv mm qv))).heap.size = x13.heap.size) := size_setRow _ _ _
        clear hHeld
        refine wpAnyH_ready (rs := [8]) (by kernel_rfl) (by simp) ?_
        refine AllReadyH.cons rfl (fun K hK => ?_) AllReadyH.nil
        rw [if_pos (by rfl)]
        refine wp_store_row 28 _ _ rfl (x0.heap.size) (w3 (.slice (some ⟨x11.heap.size, 0, none⟩) 3 3) W.n (.slice pv mm qv)) rfl rfl 28 (w3 nilV 0 nilV) V13.out info_work rfl (by simp [Value.oneCell']) ?_
        refine hK.out _ _ ⟨C9.out.nn, C9.out.dd⟩ (fun hHeld => ?_)
        clear hK K
        (try simp only [Act.put, List.getElem_toArray, List.getElem_cons_zero, List.getElem_cons_succ])
        refine wpAnyH_done (by kernel_rfl) ?_ _
        clear hHeld
        go_wp2_with fail
        go_meet
        case rel => exact ⟨x11.heap.size, x0.heap.size, pv, mm, qv, rfl, (by unfold Hid; rw [S9.out]; exact FM2.out), V9, R9, C9, B9, Z1⟩
      · skip
        clear hHeld
        go_simp
        refine (c_copyInts (.slice pd md qd) W.d _ (HD.out.below B11.out).1 HDL.out).mono ?_
        rintro e x14 ⟨vd, rfl, hod, hb14⟩
        have C14 := Lib.hid (RowC.below C11.out hb14)
        have R14 := Lib.hid (RowW.below R11.out hb14)
        have B14 := Lib.hid (bst B11.out hb14 B11.out.size)
        have V14 := Lib.hid (RowW.below V11.out hb14)
        have Z14 : Hid (w.heap.size + 2 ≤ x14.heap.size) := Nat.le_trans Z11.out hb14.size
        have O14 : Hid (Own x14 w.heap.size vd W.d) := owns_mono hod fun g hg => Nat.le_trans (by have := Z11.out; omega) (owns_lt hod hg).1
        obtain ⟨pv, qv, hvd⟩ := hod.ints.shape
        generalize hmm : W.d.length = mm at hvd
        subst hvd
        clear hmm
        refine hK.out _ _ ⟨C14.out.nn, C14.out.dd⟩ (fun hHeld => ?_)
        clear hK K hb14 hod
        (try simp only [Act.put, List.getElem_toArray, List.getElem_cons_zero, List.getElem_cons_succ, List.setIfInBounds_toArray, List.set_cons_zero, List.set_cons_succ])
        refine wpAnyH_ready (rs := [0]) (by kernel_rfl) (by simp) ?_
        refine AllReadyH.cons rfl (fun K hK => ?_) AllReadyH.nil
        clear hHeld
        rw [if_pos (by rfl)]
        refine op_make _ _ 25 rfl w.heap.size 26 i0 nilV 1 Try.underlying25 hi hz0 hz1 .i64 .i64 3 rfl rfl (by rw [hz2]; omega) (by unfold maxLen; omega) (by have := Z14.out; omega) ?_
        intro x15 hown15 hgr15
        rw [show (3 : Nat) * 1 = 3 from rfl, show nilV.cells = #[.slice none 0 0] from rfl, toList_madeCells_one] at hown15
        have hb15 := (Below.refl x14.heap.size x14).grown hgr15 (Nat.le_refl _) (fun k hk => by cases hk)
        have C15 := Lib.hid (RowC.below C14.out hb15)
        have R15 := Lib.hid (RowW.below R14.out hb15)
        have B15 := Lib.hid (bst B14.out hb15 B14.out.size)
        have V15 := Lib.hid (RowW.below V14.out hb15)
        have O15 : Hid (Own _ w.heap.size (.slice pv mm qv) W.d) := Own.below O14.out hb15
        have Z15 : Hid (w.heap.size + 2 ≤ x15.heap.size) := Nat.le_trans Z14.out hb15.size
        have MK15 := Lib.hid hown15
        refine hK.out _ _ ⟨C15.out.nn, C15.out.dd⟩ (fun hHeld => ?_)
        clear hK K hb15 hown15 hgr15
        (try simp only [Act.put, List.getElem_toArray, List.getElem_cons_zero, List.setIfInBounds_toArray, List.set_cons_zero, List.set_cons_succ])
        have NE : Hid ((Value.slice pv mm qv).ownBlock ≠ some x14.heap.size) := fun e => by have := (owns_lt O14.out e).2; omega
        refine wpAnyH_take (i := 6) (v := ?va6x10) rfl (by kernel_rfl) (by kernel_rfl) (by kernel_rfl) (fun _ _ _ h => h) (Or.inl ⟨by rfl, ?hy6x10⟩) (by assumption) ?rest6x10
        case hy6x10 => (intro w hSw; (try dsimp only at hSw); go_simp; try with_reducible rfl)
        (try simp only [Act.put, List.getElem_toArray, List.getElem_cons_zero, List.getElem_cons_succ, List.setIfInBounds_toArray, List.set_cons_zero, List.set_cons_succ])
        have FM := famStart (hi := x15.heap.size) MK15.out O15.out NE.out (owns_lt MK15.out rfl).2 (fun g hg => (owns_lt O15.out hg).2)
        have FM2 : Hid (FamH (x15.setRow (x0.heap.size) (w3 (.slice (some ⟨x14.heap.size, 0, none⟩) 3 3) W.n (.slice pv mm qv))) w.heap.size x15.heap.size (.slice (some ⟨x14.heap.size, 0, none⟩) 3 3) nilV (.slice pv mm qv) (fun _ => nilV) ⟨[[], [], []], [], W.d⟩) := FM.keepRowW V15.out fun i hi _ => setRow_other x15 (x0.heap.size) i _ hi
        clear FM
        have hg1 : w.heap.size + 1 ≠ x0.heap.size := by have := Z1.out; omega
        have hg0 : w.heap.size ≠ x0.heap.size := by have := Z1.out; omega
        have V9 : Hid (RowW (x15.setRow (x0.heap.size) (w3 (.slice (some ⟨x14.heap.size, 0, none⟩) 3 3) W.n (.slice pv mm qv))) (x0.heap.size) (.slice (some ⟨x14.heap.size, 0, none⟩) 3 3) W.n (.slice pv mm qv)) := Row.put V15.out _
        have R9 : Hid (RowW (x15.setRow (x0.heap.size) (w3 (.slice (some ⟨x14.heap.size, 0, none⟩) 3 3) W.n (.slice pv mm qv))) (w.heap.size + 1) nilV 0 nilV) := Row.putOther R15.out _ hg1
        have C9 : Hid (RowC (x15.setRow (x0.heap.size) (w3 (.slice (some ⟨x14.heap.size, 0, none⟩) 3 3) W.n (.slice pv mm qv))) w.heap.size f W.n (.slice pd md qd)) := Row.putOther C15.out _ hg0
        have B9 := Lib.hid (below_setRow B15.out (show w.heap.size ≤ x0.heap.size by have := Z1.out; omega) (w3 (.slice (some ⟨x14.heap.size, 0, none⟩) 3 3) W.n (.slice pv mm qv)))
        have S9 : Hid ((x15.setRow (x0.heap.size) (w3 (.slice (some ⟨x14.heap.size, 0, none⟩) 3 3) W.n (.slice pv mm qv))).heap.size = x15.heap.size) := size_setRow _ _ _
        clear hHeld
        refine wpAnyH_ready (rs := [8]) (by kernel_rfl) (by simp) ?_
        refine AllReadyH.cons rfl (fun K hK => ?_) AllReadyH.nil
        rw [if_pos (by rfl)]
        refine wp_store_row 28 _ _ rfl (x0.heap.size) (w3 (.slice (some ⟨x14.heap.size, 0, none⟩) 3 3) W.n (.slice pv mm qv)) rfl rfl 28 (w3 nilV 0 nilV) V15.out info_work rfl (by simp [Value.oneCell']) ?_
        refine hK.out _ _ ⟨C9.out.nn, C9.out.dd⟩ (fun hHeld => ?_)
        clear hK K
        (try simp only [Act.put, List.getElem_toArray, List.getElem_cons_zero, List.getElem_cons_succ])
        refine wpAnyH_done (by kernel_rfl) ?_ _
        clear hHeld
        go_wp2_with fail
        go_meet
        case rel => exact ⟨x14.heap.size, x0.heap.size, pv, mm, qv, rfl, (by unfold Hid; rw [S9.out]; exact FM2.out), V9, R9, C9, B9, Z1⟩
  case rest =>
    obtain ⟨ga, gV, pv, mm, qv, rfl, hfam0, hV0, hR0, hC0, hB0, hGV⟩ := hcut
    have hf3 : fillF W.r 0 = [[], [], []] := by unfold fillF; rw [HL.out]; rfl
    have HF3 := Lib.hid hf3; clear hf3
    have HP3 : Hid (∀ (j : Nat) (v : Value), [f 0, f 1, f 2][j]? = some v → (cr5 f W.n (.slice pd md qd))[0 + j]? = some v) := fun j v hv => by
      match j, hv with
      | 0, hv => exact hv
      | 1, hv => exact hv
      | 2, hv => exact hv
      | j + 3, hv => simp at hv
    go_wp2_with (refine wl_loadAt rfl 74 _ rfl w.heap.size 0 rfl 76 (cr5 f W.n (.slice pd md qd)) hC0.out [f 0, f 1, f 2] (.array 3 26) HP3.out Try.underlying74 rfl (by kernel_rfl) ?_)
    go_loopw [15] (fun i wr => ∃ k : Nat, k ≤ 3 ∧ i = .int .i64 k ∧ Hid (∃ us, FamH wr w.heap.size wr.heap.size (.slice (some ⟨ga, 0, none⟩) 3 3) nilV (.slice pv mm qv) us ⟨fillF W.r k, [], W.d⟩) ∧ Hid (RowW wr gV (.slice (some ⟨ga, 0, none⟩) 3 3) W.n (.slice pv mm qv)) ∧ Hid (RowW wr (w.heap.size + 1) nilV 0 nilV) ∧ Hid (RowC wr w.heap.size f W.n (.slice pd md qd)) ∧ Hid (Below w.heap.size w wr)) (fun i _ => 3 - (intOf i).toNat)
    case atStart => exact ⟨0, by omega, rfl, ⟨_, by rw [HF3.out]; exact hfam0.out⟩, hV0, hR0, hC0, hB0⟩
    case round =>
      obtain ⟨k, hk, rfl, hfam, hV, hR, hC, hB⟩ := hrel
      by_cases hlt : k < 3
      · obtain ⟨us, hf⟩ := hfam.out
        have hix := fun w => run_index3 w f hlt
        have HX := Lib.hid ((HA.out.r k hlt).below (below_drew hB.out)).1
        have HRL := Lib.hid (HR.out k hlt)
        have HFL : Hid ((fillF W.r k).length = 3) := by unfold Hid; rw [fillF_length W.r (by rw [HL.out]; omega), HL.out]
        have hfs := fillF_set W.r (j := k) (by rw [HL.out]; exact hlt)
        have HFS := Lib.hid (show (fillF W.r k).set k (row W k) = fillF W.r (k + 1) from hfs)
        have HF : Hid (FamH wr.drew w.heap.size wr.heap.size (.slice (some ⟨ga, 0, none⟩) 3 3) nilV (.slice pv mm qv) us ⟨fillF W.r k, [], W.d⟩) := Fam.below hf (below_drew (Below.refl wr.heap.size wr))
        replace hV : Hid (RowW wr.drew gV (.slice (some ⟨ga, 0, none⟩) 3 3) W.n (.slice pv mm qv)) := hV
        replace hR : Hid (RowW wr.drew (w.heap.size + 1) nilV 0 nilV) := hR
        replace hC : Hid (RowC wr.drew w.heap.size f W.n (.slice pd md qd)) := hC
        replace hB : Hid (Below w.heap.size w wr.drew) := below_drew hB.out
        have HWS : Hid (w.heap.size ≤ wr.drew.heap.size) := hB.out.size
        have cV0 := RowW.c0 hV.out
        have i1 : (k : Int) < 3 := by omega
        have i0 : (0 : Int) ≤ (k : Int) := by omega
        obtain ⟨fp, fq, hfk, _⟩ := (HA.out.r k hlt).shape
        rw [hfk] at HX
        simp only [hfk] at hix
        clear hfk
        clear hf hfs hfam
        go_upto_region 5 with fail
        clear hix
        refine wp_region_held_drew (S := (fun w' => w'.cell? ⟨gV, 0, none⟩ = some (.slice (some ⟨ga, 0, none⟩) 3 3))) (by kernel_rfl) (cV0) (fun hHeld => ?_)
        refine wpAnyH_take (i := 0) (v := ?va0x11) rfl (by kernel_rfl) (by kernel_rfl) (by kernel_rfl) (fun _ _ _ h => h) (Or.inl ⟨by rfl, ?hy0x11⟩) (by assumption) ?rest0x11
        case hy0x11 => (intro w hSw; (try dsimp only at hSw); go_simp; try with_reducible rfl)
        (try simp only [Act.put, List.getElem_toArray, List.getElem_cons_zero, List.setIfInBounds_toArray, List.set_cons_zero, List.set_cons_succ])
        refine wpAnyH_take (i := 1) (v := ?va1x12) rfl (by kernel_rfl) (by kernel_rfl) (by kernel_rfl) (fun _ _ _ h => h) (Or.inl ⟨by rfl, ?hy1x12⟩) (by assumption) ?rest1x12
        case hy1x12 => (intro w hSw; (try dsimp only at hSw); go_simp; try with_reducible rfl)
        (try simp only [Act.put, List.getElem_toArray, List.getElem_cons_zero, List.getElem_cons_succ, List.setIfInBounds_toArray, List.set_cons_zero, List.set_cons_succ])
        refine wpAnyH_take (i := 2) (v := ?va2x13) rfl (by kernel_rfl) (by kernel_rfl) (by kernel_rfl) (fun _ _ _ h => h) (Or.inl ⟨by rfl, ?hy2x13⟩) (by assumption) ?rest2x13
        case hy2x13 => (intro w hSw; (try dsimp only at hSw); go_simp; try with_reducible rfl)
        (try simp only [Act.put, List.getElem_toArray, List.getElem_cons_zero, List.getElem_cons_succ, List.setIfInBounds_toArray, List.set_cons_zero, List.set_cons_succ])
        refine wpAnyH_take (i := 3) (v := ?va3x14) rfl (by kernel_rfl) (by kernel_rfl) (by kernel_rfl) (fun _ _ _ h => h) (Or.inl ⟨by rfl, ?hy3x14⟩) (by assumption) ?rest3x14
        case hy3x14 => (intro w hSw; (try dsimp only at hSw); go_simp; try with_reducible rfl)
        (try simp only [Act.put, List.getElem_toArray, List.getElem_cons_zero, List.getElem_cons_succ, List.setIfInBounds_toArray, List.set_cons_zero, List.set_cons_succ])
        refine wpAnyH_ready (rs := [4]) (by kernel_rfl) (by simp) ?_
        refine AllReadyH.cons rfl (fun K hK => ?_) AllReadyH.nil
        go_simp
        refine (c_copyInts _ (row W k) _ HX.out HRL.out).mono ?_
        rintro e w2 ⟨u2, rfl, ho2, hb2⟩
        have F2 : FamH w2 w.heap.size wr.heap.size (.slice (some ⟨ga, 0, none⟩) 3 3) nilV (.slice pv mm qv) us ⟨fillF W.r k, [], W.d⟩ := Fam.below HF.out hb2
        obtain ⟨c1, f1⟩ := F2.cell (g := ga) (cap := 3) (i := k) (by simp only [HFL.out]) (by simp only [HFL.out]; exact hlt)
        obtain ⟨s1, s2⟩ := F2.putRow (i := k) (by simp only [HFL.out]; exact hlt) (ho2.mono HWS.out) (hi' := w2.heap.size) hb2.size (fun g hg => .inl (owns_lt ho2 hg)) (g := ga) (cap := 3) (by simp only [HFL.out])
        simp only [HFS.out] at s1
        have HVV := Lib.hid (RowW.below hV.out hb2)
        have hne : ga ≠ gV := owns_ne_rowT F2.outer HVV.out (by decide) rfl
        have hne1 : ga ≠ w.heap.size + 1 := owns_ne_rowT F2.outer (RowW.below hR.out hb2) (by decide) rfl
        have hne0 : ga ≠ w.heap.size := owns_ne_rowT F2.outer (RowC.below hC.out hb2) (by decide) rfl
        have hszs : (w2.setCell ⟨ga, k, none⟩ u2).heap.size = w2.heap.size := World.size_setCell _ _ _
        rw [← hszs] at s1
        have S1 := Lib.hid s1
        have hga : w.heap.size ≤ ga := (owns_lt (g := ga) F2.outer rfl).1
        have S2 := Lib.hid ((bst hB.out hb2 hB.out.size).setCell (p := ⟨ga, k, none⟩) hga u2)
        have S3 : Hid (RowW (w2.setCell ⟨ga, k, none⟩ u2) gV (.slice (some ⟨ga, 0, none⟩) 3 3) W.n (.slice pv mm qv)) := Row.other HVV.out ⟨ga, k, none⟩ (fun e => hne e.symm) u2
        have S4 : Hid (RowW (w2.setCell ⟨ga, k, none⟩ u2) (w.heap.size + 1) nilV 0 nilV) := Row.other (RowW.below hR.out hb2) ⟨ga, k, none⟩ (fun e => hne1 e.symm) u2
        have S5 : Hid (RowC (w2.setCell ⟨ga, k, none⟩ u2) w.heap.size f W.n (.slice pd md qd)) := Row.other (RowC.below hC.out hb2) ⟨ga, k, none⟩ (fun e => hne0 e.symm) u2
        have cV2 := RowW.c0 HVV.out
        obtain ⟨ua, uc, hu2⟩ := ho2.ints.shape
        generalize (row W k).length = m2 at hu2
        subst hu2
        clear s1 s2 F2 ho2 hb2 hszs hne hne1 hne0 hga
        refine hK.out _ _ (cV2) (fun hHeld => ?_)
        clear hK K
        (try simp only [Act.put, List.getElem_toArray, List.getElem_cons_zero, List.getElem_cons_succ, List.setIfInBounds_toArray, List.set_cons_zero, List.set_cons_succ])
        refine wpAnyH_take (i := 5) (v := ?va5x15) rfl (by kernel_rfl) (by kernel_rfl) (by kernel_rfl) (fun _ _ _ h => h) (Or.inl ⟨by rfl, ?hy5x15⟩) (by assumption) ?rest5x15
        case hy5x15 => (intro w hSw; (try dsimp only at hSw); go_simp; try with_reducible rfl)
        (try simp only [Act.put, List.getElem_toArray, List.getElem_cons_zero, List.getElem_cons_succ, List.setIfInBounds_toArray, List.set_cons_zero, List.set_cons_succ])
        refine wpAnyH_ready (rs := [6]) (by kernel_rfl) (by simp) ?_
        refine AllReadyH.cons rfl (fun K hK => ?_) AllReadyH.nil
        generalize us k = x at *
        go_simp
        refine hK.out _ _ (RowW.c0 S3.out) (fun hHeld => ?_)
        clear hK K
        (try simp only [Act.put, List.getElem_toArray, List.getElem_cons_zero, List.getElem_cons_succ])
        refine wpAnyH_done (by kernel_rfl) ?_ _
        clear hHeld
        go_wp2_with fail
        go_roundw
        case rel => exact ⟨k + 1, by omega, by go_num, ⟨_, S1.out⟩, S3, S4, S5, S2⟩
        case measure => simp [intOf]; omega
      · obtain rfl : k = 3 := by omega
        have HOW : Hid (OwnW wr w.heap.size wr.heap.size (.slice (some ⟨ga, 0, none⟩) 3 3) (.slice pv mm qv) W) := by
          obtain ⟨us, hf⟩ := hfam.out
          refine ⟨us, ?_⟩
          have e : fillF W.r 3 = W.r := by have := fillF_all W.r; rwa [HL.out] at this
          rw [e] at hf
          exact hf
        clear hfam
        go_wp2_with (first
          | (refine wl_loadW rfl _ rfl gV _ _ _ hV.out rfl ?_)
          | (refine wl_storeW rfl _ _ rfl (w.heap.size + 1) (.slice (some ⟨ga, 0, none⟩) 3 3) W.n (.slice pv mm qv) _ _ _ hR.out rfl rfl rfl rfl ?_))
        refine bodyPost_ret (res_row Try.results54 (Row.put hR.out (w3 (.slice (some ⟨ga, 0, none⟩) 3 3) W.n (.slice pv mm qv))) rfl Try.underlying28 rfl info_work) rfl ⟨_, _, rfl, ?_, below_setRow hB.out (by omega) _⟩
        have := HOW.out.wholeRow hR.out (w3 (.slice (some ⟨ga, 0, none⟩) 3 3) W.n (.slice pv mm qv))
        rw [size_setRow]
        exact this
end Go.Proofs.Ytkbphmnacdpdgaa
namespace Go.Proofs.Ytkbphmnacdpdgaa
open Go.RowKit Ph Kw

theorem c_crewOf_yes (a c : Value) (W : Wk) (w0 w : World) (hA0 : WorkC w0 a c W) (hb00 : Below w0.heap.size w0 w) (hd : W.d.length ≤ 1048576) (P : Nat → Prop) (hg : goodB W = true) : Calls Try.prog 57 #[wkv a W.n c] w fun e w' => ∃ f d, e = .returned (.tuple #[crv f W.n d, .bool true]) ∧ ((f 0).oneCell' = true ∧ (f 1).oneCell' = true ∧ (f 2).oneCell' = true ∧ d.oneCell' = true) ∧ Sep w0 P w' f d W ∧ Below w.heap.size w w' := by
  refine (c_crewOf a c W w0 w hA0 hb00 hd P).mono ?_
  rintro e w1 ⟨f, n, d, rfl, ho, hc, hb⟩
  obtain ⟨rfl, hs⟩ := hc hg
  rw [hg]
  exact ⟨f, d, rfl, ho, hs, hb⟩
theorem c_crewOf_no (a c : Value) (W : Wk) (w0 w : World) (hA0 : WorkC w0 a c W) (hb00 : Below w0.heap.size w0 w) (hd : W.d.length ≤ 1048576) (hg : goodB W = false) : Calls Try.prog 57 #[wkv a W.n c] w fun e w' => ∃ f n d, e = .returned (.tuple #[crv f n d, .bool false]) ∧ ((f 0).oneCell' = true ∧ (f 1).oneCell' = true ∧ (f 2).oneCell' = true ∧ d.oneCell' = true) ∧ Below w.heap.size w w' := by
  refine (c_crewOf a c W w0 w hA0 hb00 hd (fun _ => True)).mono ?_
  rintro e w1 ⟨f, n, d, rfl, ho, hc, hb⟩
  rw [hg]
  exact ⟨f, n, d, rfl, ho, hb⟩
theorem below_var (w : World) (o : Obj) (cs : Array Value) : Below w.heap.size w ((w.alloc o).setRow w.heap.size cs) := below_setRow (below1 w o) (Nat.le_refl _) cs
theorem sm_len {W : Wk} (s : Sm W) : (∀ k, k < 3 → (row W k).length ≤ 1048576) ∧ W.d.length ≤ 100 := by
  have h := s.tot
  have := s.n1
  have := s.n0
  unfold tot at h
  exact ⟨fun k hk => Nat.le_trans (s.rows k hk) (by omega), by omega⟩
/-- How calls that answer work end. -/
def EndW (W : Wk) (ok : Bool) (w : World) (e : Ending) (w' : World) : Prop := ∃ a c, e = .returned (.tuple #[wkv a W.n c, .bool ok]) ∧ OwnW w' w.heap.size w'.heap.size a c W ∧ Below w.heap.size w w'
theorem endW_no {w w' : World} (hb : Below w.heap.size w w') : EndW nilW false w (.returned (.tuple #[wkv nilV 0 nilV, .bool false])) w' := ⟨_, _, rfl, OwnW.nil _ _ _, hb⟩
end Go.Proofs.Ytkbphmnacdpdgaa
namespace Go.Proofs.Ytkbphmnacdpdgaa
open Go.RowKit Ph Kw
theorem wt_sm {W : Wk} (s : Sm W) : wtW W ≤ 2000 := by
  obtain ⟨x, y, z, e⟩ := three s.len
  have a := s.rows 0 (by omega)
  have b := s.rows 1 (by omega)
  have c := s.rows 2 (by omega)
  have d := (sm_len s).2
  unfold row at a b c
  unfold wtW wt sumL
  rw [e] at a b c ⊢
  simp at a b c ⊢
  omega
end Go.Proofs.Ytkbphmnacdpdgaa
namespace Go.Proofs.Ytkbphmnacdpdgaa
open Go.RowKit Ph Kw

theorem src_oneI (W : World) (z : Int) : SrcAt (W.alloc (.cells #[.int .i64 z] 3)) (.slice (some ⟨W.heap.size, 0, none⟩) 1 1) [.int .i64 z] :=
  ⟨some ⟨W.heap.size, 0, none⟩, 1, rfl, fun u hu => by simp at hu; subst hu; rfl, fun _ => ⟨W.heap.size, 0, rfl, fun j hj => by
    match j, hj with
    | 0, _ => exact Row.cell (Row.new W 3 #[.int .i64 z]) 0⟩⟩
theorem cutTo {w : World} {a : Option Addr} {n c k : Nat} {zs : List Int} (hv : IntsAt w (.slice a n c) zs) (hn : zs.length = n) (hk : k ≤ n) : IntsAt w (.slice a k c) (zs.take k) := by
  have hl : (zs.take k).length = k := by rw [List.length_take, hn]; omega
  refine ⟨a, c, by rw [hl], fun h0 => ?_⟩
  rw [hl] at h0
  obtain ⟨b', off', rfl, hcc⟩ := IntsAt.at' hv (by omega)
  refine ⟨b', off', rfl, fun i hi => ?_⟩
  rw [hl] at hi
  rw [hcc i (by omega)]
  have e : (zs.take k).getD i 0 = zs.getD i 0 := by simp [List.getD, hi]
  rw [e]
theorem cutFrom {w : World} {b off n c k : Nat} {zs : List Int} (hv : IntsAt w (.slice (some ⟨b, off, none⟩) n c) zs) (hn : zs.length = n) (hk : k ≤ n) (c' : Nat) : IntsAt w (.slice (some ⟨b, off + k, none⟩) (n - k) c') (zs.drop k) := by
  have hl : (zs.drop k).length = n - k := by rw [List.length_drop, hn]
  refine ⟨_, c', by rw [hl], fun h0 => ⟨b, off + k, rfl, fun i hi => ?_⟩⟩
  rw [hl] at hi
  obtain ⟨b', off', e, hcc⟩ := IntsAt.at' hv (by omega)
  cases e
  rw [show off + k + i = off + (k + i) by omega, hcc (k + i) (by omega)]
  have e : (zs.drop k).getD i 0 = zs.getD (k + i) 0 := by simp [List.getD]
  rw [e]
theorem cutNone {w : World} {a : Option Addr} {n k : Nat} {zs : List Int} (hn : zs.length = n) (hk : k = n) (c' : Nat) : IntsAt w (.slice a 0 c') (zs.drop k) := by
  have hl : (zs.drop k).length = 0 := by rw [List.length_drop, hn]; omega
  exact ⟨a, c', by rw [hl], fun h => by rw [hl] at h; omega⟩
set_option maxRecDepth 100000 in
set_option maxHeartbeats 3200000 in
theorem s_l1Put (v : Value) (zs : List Int) (x : Int) (B : Nat) (w : World) (ho : Own w B v zs) (hB : B ≤ w.heap.size) (hl : zs.length ≤ 2000000) : Calls Try.prog 61 #[v, .int .i64 x] w fun e w' => ∃ v', e = .returned v' ∧ Own w' B v' (putI x zs) ∧ Below w.heap.size w w' := by
  obtain ⟨i0, hi, hz0, hz1, hz2⟩ := info_parts info_int
  obtain ⟨a, c, rfl, hcap⟩ := ho.intsC.shape
  have HIA := Lib.hid ho.ints
  have HO := Lib.hid ho
  have HC := Lib.hid (fun k (h : k < zs.length) => (HIA.out.at' (Nat.lt_of_le_of_lt (Nat.zero_le k) h)))
  have HPS := Lib.hid (fun k => putI_same (x := x) (l := zs) (k := k))
  have HPN := Lib.hid (fun k => putI_new (x := x) (l := zs) (k := k))
  have HBW := Lib.hid hB
  have HSM := Lib.hid hl
  clear ho hB hl
  generalize hn : zs.length = n at *
  have HN := Lib.hid hn; clear hn
  have HCP := Lib.hid hcap
  clear hcap
  go_enter Try.func61, Try.ntmps61
  go_wp2_with fail
  go_loopw [5] (fun i wr => ∃ k : Nat, k ≤ n ∧ i = .int .i64 k ∧ wr = w ∧ Hid (∀ i, i < k → zs.getD i 0 < x)) (fun i _ => n - (intOf i).toNat)
  case atStart => exact ⟨0, Nat.zero_le _, rfl, rfl, fun i hi => by omega⟩
  case round =>
    obtain ⟨k, hk, rfl, hw, hlt⟩ := hrel
    replace hw := hw.symm
    subst hw
    have HK := Lib.hid hk
    by_cases hkn : k < n
    · obtain ⟨b, off, rfl, hcc⟩ := HC.out k hkn
      have q := hcc k hkn
      have i1 : (k : Int) < (n : Int) := by omega
      have i0' : (0 : Int) ≤ (k : Int) := by omega
      have HNX : Hid (∀ i, i < k + 1 → zs.getD k 0 < x → zs.getD i 0 < x) := fun i hi h => by
        by_cases e : i = k
        · subst e; exact h
        · exact hlt.out i (by omega)
      have HSAME : Hid (zs.getD k 0 = x → putI x zs = zs) := fun e => HPS.out k hkn hlt.out e
      have HNEW : Hid (x < zs.getD k 0 → putI x zs = (zs.take k ++ [x]) ++ zs.drop k) := fun h => HPN.out k hk hlt.out (fun _ => h)
      clear hcc
      generalize zs.getD k 0 = z at *
      by_cases h1 : z < x
      · have e1 : decide (z < x) = true := decide_eq_true h1
        have hkb : k < 2000000 := by have := HSM.out; omega
        go_wp2_with fail
        go_roundw
        case rel => exact ⟨k + 1, by omega, by go_num, by first | rfl | trivial, fun i hi => HNX.out i hi h1⟩
        case measure => simp [intOf]; omega
      · by_cases h2 : z = x
        · subst h2
          have HS := Lib.hid (HSAME.out rfl)
          go_wp2_with fail
          go_ret
          exact ⟨_, rfl, by rw [HS.out]; exact HO.out, Below.refl _ _⟩
        · have HS := Lib.hid (HNEW.out (by omega))
          have e2 : (z == x) = false := by rw [beq_eq_false_iff_ne]; exact h2
          clear h2 HSAME HNEW HNX
          have S1 := Lib.hid ((cutTo HIA.out HN.out HK.out).below (below1 w (.cells #[] 3))).src
          have L1 : Hid (((zs.take k).map (Value.int .i64)).length ≤ 2000000) := by have := HSM.out; have := HK.out; unfold Hid; rw [List.length_map, List.length_take]; omega
          have hcut1 : k ≤ c := by have := HK.out; have := HCP.out; omega
          have hw0 : w.heap.size ≤ (w.alloc (.cells #[] 3)).heap.size := by simp
          go_upto_region 7 with (at_builtin; refine wl_appOwn _ rfl _ _ 26 rfl w.heap.size 3 i0 (.int .i64 0) 8 Try.underlying26 hi hz0 hz1 hz2 rfl (.slice (some ⟨w.heap.size, 0, none⟩) 0 0) 0 [] rfl (own_empty w 3) (.slice (some ⟨b, off, none⟩) k c) ((zs.take k).map (Value.int .i64)) rfl S1.out (by have := L1.out; unfold maxLen; omega) (by have := L1.out; omega) hw0 ?_; intro v1 w1 ho hg hbl; have O1 := Lib.hid ho; have G1 := Lib.hid hg; clear ho hg hbl)
          have B1 := Lib.hid ((below1 w (.cells #[] 3)).grown G1.out hw0 (fun g hg => (owns_lt (own_empty w 3) hg).1))
          have O1' : Hid (Own w1 w.heap.size v1 (zs.take k)) := by have h := O1.out; rw [Nat.zero_add, List.nil_append, List.length_map] at h; exact h
          clear O1 G1 S1
          have L2 : Hid ((zs.take k).length + 1 ≤ 2000001) := by have := L1.out; unfold Hid; rw [List.length_map] at this; omega
          have hw1 : w.heap.size ≤ (w1.alloc (.cells #[.int .i64 x] 3)).heap.size := by have := B1.out.size; simp; omega
          have O1A := Lib.hid (show World.ownsRow _ w.heap.size 3 1 v1 (zs.take k).length ((zs.take k).map (Value.int .i64)) from Own.below O1'.out (below1 w1 (.cells #[.int .i64 x] 3)))
          go_upto_region 8 with (at_builtin; refine wl_appOwn _ rfl _ _ 26 rfl w.heap.size 3 i0 (.int .i64 0) 8 Try.underlying26 hi hz0 hz1 hz2 rfl v1 (zs.take k).length ((zs.take k).map (Value.int .i64)) rfl O1A.out (.slice (some ⟨w1.heap.size, 0, none⟩) 1 1) [.int .i64 x] rfl (src_oneI w1 x) (by have := L2.out; unfold maxLen; simp only [List.length_singleton]; omega) (by have := L2.out; simp only [List.length_singleton]; omega) hw1 ?_; intro v2 w2 ho hg hbl; have O2 := Lib.hid ho; have G2 := Lib.hid hg; clear ho hg hbl)
          have B2 := Lib.hid ((bst B1.out (below1 w1 (.cells #[.int .i64 x] 3)) B1.out.size).grown G2.out hw1 (fun g hg => (owns_lt O1A.out hg).1))
          have O2' : Hid (Own w2 w.heap.size v2 (zs.take k ++ [x])) := by have h := O2.out; unfold Hid Own; rw [List.length_append, List.map_append]; exact h
          clear O2 G2 O1A O1' B1
          have hws := B2.out.size
          have L3 : Hid ((zs.take k ++ [x]).length + ((zs.drop k).map (Value.int .i64)).length ≤ 2000001) := by have := HSM.out; have := HN.out; have := HK.out; unfold Hid; rw [List.length_append, List.length_map, List.length_take, List.length_drop, List.length_singleton]; omega
          by_cases hc : k = c
          · exfalso; have := HCP.out; omega
          · have hc' : ¬ c = k := fun e => hc e.symm
            have hc'' : ¬ c - k = 0 := by omega
            have S3 := Lib.hid ((cutFrom HIA.out HN.out HK.out (c - k)).below B2.out).src
            go_wp2_with (at_builtin; refine wl_appOwn _ rfl _ _ 26 rfl w.heap.size 3 i0 (.int .i64 0) 8 Try.underlying26 hi hz0 hz1 hz2 rfl v2 (zs.take k ++ [x]).length ((zs.take k ++ [x]).map (Value.int .i64)) rfl O2'.out (.slice (some ⟨b, off + k, none⟩) (n - k) (c - k)) ((zs.drop k).map (Value.int .i64)) rfl S3.out (by have := L3.out; unfold maxLen; omega) (by have := L3.out; omega) hws ?_; intro v3 y3 ho hg hbl; have O3 := Lib.hid ho; have G3 := Lib.hid hg; clear ho hg hbl)
            go_ret
            refine ⟨_, rfl, ?_, B2.out.grown G3.out hws (fun g hg => (owns_lt O2'.out hg).1)⟩
            have h := O3.out
            rw [HS.out]
            refine Own.mono (B := w.heap.size) ?_ HBW.out
            unfold Own
            rw [List.length_append, List.map_append]
            rw [List.length_map] at h
            exact h
    · obtain rfl : k = n := by omega
      have HS : Hid (putI x zs = (zs.take k ++ [x]) ++ zs.drop k) := HPN.out k (Nat.le_refl _) hlt.out (fun h => absurd h (Nat.lt_irrefl _))
      clear hkn
      have S1 := Lib.hid ((cutTo HIA.out HN.out HK.out).below (below1 w (.cells #[] 3))).src
      have L1 : Hid (((zs.take k).map (Value.int .i64)).length ≤ 2000000) := by have := HSM.out; have := HK.out; unfold Hid; rw [List.length_map, List.length_take]; omega
      have hcut1 : k ≤ c := by have := HK.out; have := HCP.out; omega
      have hw0 : w.heap.size ≤ (w.alloc (.cells #[] 3)).heap.size := by simp
      go_upto_region 7 with (at_builtin; refine wl_appOwn _ rfl _ _ 26 rfl w.heap.size 3 i0 (.int .i64 0) 8 Try.underlying26 hi hz0 hz1 hz2 rfl (.slice (some ⟨w.heap.size, 0, none⟩) 0 0) 0 [] rfl (own_empty w 3) (.slice a k c) ((zs.take k).map (Value.int .i64)) rfl S1.out (by have := L1.out; unfold maxLen; omega) (by have := L1.out; omega) hw0 ?_; intro v1 w1 ho hg hbl; have O1 := Lib.hid ho; have G1 := Lib.hid hg; clear ho hg hbl)
      have B1 := Lib.hid ((below1 w (.cells #[] 3)).grown G1.out hw0 (fun g hg => (owns_lt (own_empty w 3) hg).1))
      have O1' : Hid (Own w1 w.heap.size v1 (zs.take k)) := by have h := O1.out; rw [Nat.zero_add, List.nil_append, List.length_map] at h; exact h
      clear O1 G1 S1
      have L2 : Hid ((zs.take k).length + 1 ≤ 2000001) := by have := L1.out; unfold Hid; rw [List.length_map] at this; omega
      have hw1 : w.heap.size ≤ (w1.alloc (.cells #[.int .i64 x] 3)).heap.size := by have := B1.out.size; simp; omega
      have O1A := Lib.hid (show World.ownsRow _ w.heap.size 3 1 v1 (zs.take k).length ((zs.take k).map (Value.int .i64)) from Own.below O1'.out (below1 w1 (.cells #[.int .i64 x] 3)))
      go_upto_region 8 with (at_builtin; refine wl_appOwn _ rfl _ _ 26 rfl w.heap.size 3 i0 (.int .i64 0) 8 Try.underlying26 hi hz0 hz1 hz2 rfl v1 (zs.take k).length ((zs.take k).map (Value.int .i64)) rfl O1A.out (.slice (some ⟨w1.heap.size, 0, none⟩) 1 1) [.int .i64 x] rfl (src_oneI w1 x) (by have := L2.out; unfold maxLen; simp only [List.length_singleton]; omega) (by have := L2.out; simp only [List.length_singleton]; omega) hw1 ?_; intro v2 w2 ho hg hbl; have O2 := Lib.hid ho; have G2 := Lib.hid hg; clear ho hg hbl)
      have B2 := Lib.hid ((bst B1.out (below1 w1 (.cells #[.int .i64 x] 3)) B1.out.size).grown G2.out hw1 (fun g hg => (owns_lt O1A.out hg).1))
      have O2' : Hid (Own w2 w.heap.size v2 (zs.take k ++ [x])) := by have h := O2.out; unfold Hid Own; rw [List.length_append, List.map_append]; exact h
      clear O2 G2 O1A O1' B1
      have hws := B2.out.size
      have L3 : Hid ((zs.take k ++ [x]).length + ((zs.drop k).map (Value.int .i64)).length ≤ 2000001) := by have := HSM.out; have := HN.out; have := HK.out; unfold Hid; rw [List.length_append, List.length_map, List.length_take, List.length_drop, List.length_singleton]; omega
      cases a with
      | none =>
        obtain ⟨hc0, hk0⟩ : c = 0 ∧ k = 0 := by
          rcases HO.out.2 with ⟨h1, h2⟩ | ⟨g, cap, cur, h1, _⟩
          · cases h1; exact ⟨rfl, by have := HN.out; omega⟩
          · cases h1
        subst hc0
        subst hk0
        have S3 := Lib.hid ((cutNone (k := 0) (a := none) HN.out rfl 0).below B2.out).src
        go_wp2_with (at_builtin; refine wl_appOwn _ rfl _ _ 26 rfl w.heap.size 3 i0 (.int .i64 0) 8 Try.underlying26 hi hz0 hz1 hz2 rfl v2 (zs.take 0 ++ [x]).length ((zs.take 0 ++ [x]).map (Value.int .i64)) rfl O2'.out (.slice none 0 0) ((zs.drop 0).map (Value.int .i64)) rfl S3.out (by have := L3.out; unfold maxLen; omega) (by have := L3.out; omega) hws ?_; intro v3 y3 ho hg hbl; have O3 := Lib.hid ho; have G3 := Lib.hid hg; clear ho hg hbl)
        go_ret
        refine ⟨_, rfl, ?_, B2.out.grown G3.out hws (fun g hg => (owns_lt O2'.out hg).1)⟩
        have h := O3.out
        rw [HS.out]
        refine Own.mono (B := w.heap.size) ?_ HBW.out
        unfold Own
        rw [List.length_append, List.map_append]
        rw [List.length_map] at h
        exact h
      | some ad =>
        obtain ⟨g, rfl⟩ : ∃ g, ad = ⟨g, 0, none⟩ := by
          rcases HO.out.2 with ⟨h1, h2⟩ | ⟨g, cap, cur, h1, _⟩
          · cases h1
          · cases h1; exact ⟨g, rfl⟩
        by_cases hc : c = k
        · subst hc
          have S3 := Lib.hid ((cutNone (a := some ⟨g, 0, none⟩) HN.out rfl 0).below B2.out).src
          go_wp2_with (at_builtin; refine wl_appOwn _ rfl _ _ 26 rfl w.heap.size 3 i0 (.int .i64 0) 8 Try.underlying26 hi hz0 hz1 hz2 rfl v2 (zs.take c ++ [x]).length ((zs.take c ++ [x]).map (Value.int .i64)) rfl O2'.out (.slice (some ⟨g, 0, none⟩) 0 0) ((zs.drop c).map (Value.int .i64)) rfl S3.out (by have := L3.out; unfold maxLen; omega) (by have := L3.out; omega) hws ?_; intro v3 y3 ho hg hbl; have O3 := Lib.hid ho; have G3 := Lib.hid hg; clear ho hg hbl)
          go_ret
          refine ⟨_, rfl, ?_, B2.out.grown G3.out hws (fun g hg => (owns_lt O2'.out hg).1)⟩
          have h := O3.out
          rw [HS.out]
          refine Own.mono (B := w.heap.size) ?_ HBW.out
          unfold Own
          rw [List.length_append, List.map_append]
          rw [List.length_map] at h
          exact h
        · have hc' : ¬ k = c := fun e => hc e.symm
          have S3 := Lib.hid ((cutNone (a := some ⟨g, k, none⟩) HN.out rfl (c - k)).below B2.out).src
          go_wp2_with (at_builtin; refine wl_appOwn _ rfl _ _ 26 rfl w.heap.size 3 i0 (.int .i64 0) 8 Try.underlying26 hi hz0 hz1 hz2 rfl v2 (zs.take k ++ [x]).length ((zs.take k ++ [x]).map (Value.int .i64)) rfl O2'.out (.slice (some ⟨g, k, none⟩) 0 (c - k)) ((zs.drop k).map (Value.int .i64)) rfl S3.out (by have := L3.out; unfold maxLen; omega) (by have := L3.out; omega) hws ?_; intro v3 y3 ho hg hbl; have O3 := Lib.hid ho; have G3 := Lib.hid hg; clear ho hg hbl)
          go_ret
          refine ⟨_, rfl, ?_, B2.out.grown G3.out hws (fun g hg => (owns_lt O2'.out hg).1)⟩
          have h := O3.out
          rw [HS.out]
          refine Own.mono (B := w.heap.size) ?_ HBW.out
          unfold Own
          rw [List.length_append, List.map_append]
          rw [List.length_map] at h
          exact h
end Go.Proofs.Ytkbphmnacdpdgaa
namespace Go.Proofs.Ytkbphmnacdpdgaa
open Go.RowKit Ph Kw

theorem s_l10Who (z : Int) (w : World) : Calls Try.prog 85 #[.int .i64 z] w fun e w' => e = .returned (.bool (isW z)) ∧ w = w' := by
  have HC := Lib.hid (fun w => s_l1In z 0 2 w)
  have HE : Hid ((decide (0 ≤ z) && decide (z ≤ 2)) = isW z) := rfl
  go_enter Try.func85, Try.ntmps85
  go_wp2_with (go_at_call 63; refine (HC.out _).mono ?_; rintro e w1 ⟨rfl, rfl⟩; rw [HE.out])
  go_ret
  exact ⟨rfl, rfl⟩
set_option maxRecDepth 100000 in
set_option maxHeartbeats 3200000 in
theorem s_l10All (a : Value) (n : Int) (c : Value) (W : Wk) (w : World) (hA : WorkAt w a c W) (hl : W.r.length ≤ 1000) (hm : W.d.length + sumL W.r W.r.length ≤ 1100000) : Calls Try.prog 64 #[wkv a n c] w fun e w' => ∃ v, e = .returned v ∧ Own w' w.heap.size v (W.d ++ W.r.flatten) ∧ Below w.heap.size w w' := by
  obtain ⟨i0, hi, hz0, hz1, hz2⟩ := info_parts info_int
  obtain ⟨fs, nn, d⟩ := W
  simp only at hl hm ⊢
  have HLE := Lib.hid (fun k => sumL_mono fs (j := k) (k := fs.length))
  have HFL := Lib.hid (fun k hk => flat_succ (fs := fs) (k := k) hk)
  have HFN := Lib.hid (fun k hk => flat_len (fs := fs) (k := k) hk)
  have HTK := Lib.hid (show fs.take fs.length = fs from List.take_length)
  have hb0 := below1 w (.cells (w3 a n c) 28)
  have ra0 : RowW (w.alloc (.cells (w3 a n c) 28)) w.heap.size a n c := Row.new w _ _
  have HA := Lib.hid hA
  obtain ⟨pa, qa, hpa⟩ := hA.r.shape
  obtain ⟨pc, qc, hpc⟩ := hA.d.shape
  simp only at hpa hpc
  have HB := Lib.hid hb0; have RA := Lib.hid ra0
  generalize hn : fs.length = nr at *
  generalize hnd : d.length = nd at *
  subst hpa
  subst hpc
  have q0 := ra0.c0
  have q2 := ra0.c2
  have HND := Lib.hid hnd
  have HNR := Lib.hid hn
  have HMM := Lib.hid hm
  have S1 := Lib.hid ((hA.d.below hb0).below (below1 _ (.cells #[] 3))).src
  clear ra0 hb0 hA hn hnd hm
  have hw1 : w.heap.size + 1 ≤ ((w.alloc (.cells (w3 (.slice pa nr qa) n (.slice pc nd qc)) 28)).alloc (.cells #[] 3)).heap.size := by simp
  have hsz : (w.alloc (.cells (w3 (.slice pa nr qa) n (.slice pc nd qc)) 28)).heap.size = w.heap.size + 1 := by simp
  have OE := own_empty (w.alloc (.cells (w3 (.slice pa nr qa) n (.slice pc nd qc)) 28)) 3
  rw [hsz] at OE
  have HOE := Lib.hid OE; clear OE
  go_enter Try.func64, Try.ntmps64
  go_wp2_with (at_builtin; refine wl_appOwn _ rfl _ _ 26 rfl (w.heap.size + 1) 3 i0 (.int .i64 0) 8 Try.underlying26 hi hz0 hz1 hz2 rfl (.slice (some ⟨w.heap.size + 1, 0, none⟩) 0 0) 0 [] rfl HOE.out (.slice pc nd qc) (d.map (Value.int .i64)) rfl S1.out (by have := HMM.out; have := HND.out; rw [List.length_map]; unfold maxLen; omega) (by have := HMM.out; have := HND.out; rw [List.length_map]; omega) hw1 ?_; intro v1 w1 ho hg hbl; have O1 := Lib.hid ho; have B1 := Lib.hid ((bst HB.out (below1 _ (.cells #[] 3)) HB.out.size).grown hg (by have := HB.out.size; simp; omega) (fun g hg => by have := (owns_lt HOE.out hg).1; omega)); have R1 : Hid (RowW w1 w.heap.size (.slice pa nr qa) n (.slice pc nd qc)) := Row.grownBy (Row.alloc RA.out _) hg (fun e => by have := (owns_lt HOE.out e).1; omega); have q0' := RowW.c0 R1.out; clear ho hg hbl)
  have HW1 : Hid (w.heap.size + 1 ≤ w1.heap.size) := Row.lt R1.out
  have O1' : Hid (Own w1 (w.heap.size + 1) v1 d) := by have h := O1.out; rw [Nat.zero_add, List.nil_append, List.length_map] at h; exact h
  clear O1 HOE S1 q0' q0 q2
  go_loopw [13, 3] (fun i s wr => ∃ k : Nat, k ≤ nr ∧ i = .int .i64 k ∧ Hid (Own wr (w.heap.size + 1) s (d ++ (fs.take k).flatten)) ∧ Hid (Below w.heap.size w wr) ∧ Hid (w.heap.size + 1 ≤ wr.heap.size)) (fun i _ _ => nr - (intOf i).toNat)
  case atStart => exact ⟨0, Nat.zero_le _, rfl, by rw [List.take_zero, List.flatten_nil, List.append_nil]; exact O1', B1, HW1⟩
  case round =>
    obtain ⟨j, hj, rfl, how, hbw, hww⟩ := hrel
    by_cases hlt : j < nr
    · obtain ⟨b, off, rfl, hcc⟩ := HA.out.r.at' (by omega)
      obtain ⟨u, q0, hu⟩ := hcc j hlt
      have q := cellBelow hbw.out (Nat.le_refl _) q0
      have hsrc := Lib.hid (hu.below hbw.out).src
      have e1 := HFL.out j hlt
      have e3 := HFN.out (j + 1) (by omega)
      have e4 := HLE.out (j + 1) (by omega)
      rw [e1] at e3
      have HE1 : Hid (d ++ (fs.take (j + 1)).flatten = (d ++ (fs.take j).flatten) ++ fs.getD j []) := by unfold Hid; rw [e1, List.append_assoc]
      have HLN : Hid ((d ++ (fs.take j).flatten).length + ((fs.getD j []).map (Value.int .i64)).length ≤ 1100000) := by
        unfold Hid; rw [List.length_map, List.length_append, Nat.add_assoc, ← List.length_append, e3]; have := HMM.out; have := HND.out; omega
      have i3 : (j : Int) < (nr : Int) := by omega
      have hws := hww.out
      clear hcc hu q0 e1 e3 e4
      generalize d ++ (fs.take j).flatten = ys at *
      generalize fs.getD j [] = zs at *
      go_wp2_with (at_builtin; refine wl_appOwn _ rfl _ _ 26 rfl (w.heap.size + 1) 3 i0 (.int .i64 0) 8 Try.underlying26 hi hz0 hz1 hz2 rfl u3 ys.length (ys.map (Value.int .i64)) rfl how.out u (zs.map (Value.int .i64)) rfl hsrc.out (by have := HLN.out; unfold maxLen; omega) (by have := HLN.out; omega) hws ?_; intro v2 w2 ho hg hbl; have O2 := Lib.hid ho; have G2 := Lib.hid hg; clear ho hg hbl)
      go_roundw
      case rel =>
        refine ⟨j + 1, by omega, by go_num, ?_, ?_, Nat.le_trans hws G2.out.size⟩
        · have h := O2.out
          unfold Hid
          rw [HE1.out]
          unfold Own
          rw [List.length_append, List.map_append]
          rw [List.length_map] at h
          exact h
        · exact hbw.out.grown G2.out hbw.out.size (fun g hg => by have := (owns_lt how.out hg).1; omega)
      case measure => simp [intOf]; omega
    · obtain rfl : j = nr := by omega
      go_wp2_with fail
      go_ret
      refine ⟨_, rfl, Own.mono (B := w.heap.size + 1) ?_ (Nat.le_succ _), hbw.out⟩
      have h := how.out
      rw [HTK.out] at h
      exact h
set_option maxRecDepth 100000 in
set_option maxHeartbeats 6400000 in
theorem s_GoodWork (a c : Value) (W : Wk) (w : World) (hA : WorkAt w a c W) (hd : W.d.length ≤ 1048576) : Calls Try.prog 29 #[wkv a W.n c] w fun e w' => e = .returned (.bool (goodB W)) ∧ Below w.heap.size w w' := by
  obtain ⟨pa, qa, nr, rfl, hnr⟩ : ∃ p q n, a = .slice p n q ∧ W.r.length = n := by obtain ⟨p, q, h⟩ := hA.r.shape; exact ⟨p, q, _, h, rfl⟩
  have hb0 := below1 w (.cells (w3 (.slice pa nr qa) W.n c) 28)
  have ra0 : RowW (w.alloc (.cells (w3 (.slice pa nr qa) W.n c) 28)) w.heap.size (.slice pa nr qa) W.n c := Row.new w _ _
  have HB := Lib.hid hb0; have RA := Lib.hid ra0
  have HA := Lib.hid (hA.below hb0)
  have q0 := ra0.c0
  have q1 := ra0.c1
  have HNR := Lib.hid hnr
  have HDL := Lib.hid hd
  clear ra0 hb0 hA hnr hd
  by_cases hl : nr = 3
  · subst hl
    have e1 : (((3 : Nat) : Int) != 3) = false := rfl
    by_cases hc : isCnt W.n = true
    · have HN1 := Lib.hid (isCnt_iff.1 hc)
      clear hc
      obtain ⟨b, off, rfl, hcc⟩ := HA.out.r.at' (by omega)
      have HCC := Lib.hid hcc
      clear hcc
      go_enter Try.func29, Try.ntmps29
      go_wp2_with (go_at_call 63; refine (s_l1In_yes W.n 0 100 _ HN1.out.1 HN1.out.2).mono ?_; rintro e w1 ⟨rfl, rfl⟩)
      generalize w.alloc (.cells (w3 (.slice (some ⟨b, off, none⟩) 3 qa) W.n c) 28) = wa at *
      go_loopw [22] (fun i wr => ∃ k : Nat, k ≤ 3 ∧ i = .int .i64 k ∧ wr = wa ∧ Hid (∀ j, j < k → (row W j).length ≤ 12)) (fun i _ => 3 - (intOf i).toNat)
      case atStart => exact ⟨0, by omega, rfl, rfl, fun j hj => by omega⟩
      case round =>
        obtain ⟨k, hk, rfl, hw, hr12⟩ := hrel
        replace hw := hw.symm
        subst hw
        by_cases hlt : k < 3
        · obtain ⟨u, q, hu⟩ := HCC.out k hlt
          obtain ⟨pu, cu, rfl⟩ := hu.shape
          have hrk : (W.r.getD k []).length = (row W k).length := rfl
          rw [hrk] at q
          clear hrk
          have i1 : (k : Int) < 3 := by omega
          by_cases hm : (row W k).length ≤ 12
          · have j1 : ¬ ((row W k).length : Int) > 12 := by omega
            have S5 : Hid (∀ j, j < k + 1 → (row W j).length ≤ 12) := fun j hj => by
              by_cases e : j = k
              · subst e; exact hm
              · exact hr12.out j (by omega)
            clear hu hm hr12
            generalize (row W k).length = m at *
            go_wp2_with fail
            go_roundw
            case rel => exact ⟨k + 1, by omega, by go_num, by first | rfl | trivial, S5⟩
            case measure => simp [intOf]; omega
          · have HE : Hid (goodB W = false) := not_good_row hlt hm
            have j1 : ((row W k).length : Int) > 12 := by omega
            clear hu hm
            generalize (row W k).length = m at *
            go_wp2_with fail
            go_ret
            exact ⟨r_b HE.out.symm, HB.out⟩
        · obtain rfl : k = 3 := by omega
          have HR12 := Lib.hid hr12.out
          have HL3 : Hid (W.r.length = 3) := HNR
          have HSU := Lib.hid (srt_own_len W HL3.out HR12.out).2
          have HGP := Lib.hid (good_put HL3.out HN1.out.1 HN1.out.2 HR12.out)
          have HLN : Hid ((W.d ++ W.r.flatten).length ≤ 1048612) := by
            unfold Hid; rw [List.length_append]
            have := flat_len (fs := W.r) (Nat.le_refl _)
            rw [List.take_length] at this
            have := HSU.out; have := HDL.out; omega
          clear hr12
          have q0 := RowW.c0 RA.out
          have q1 := RowW.c1 RA.out
          go_wp2_with (refine wl_loadW rfl _ rfl w.heap.size _ _ _ RA.out rfl ?_)
          refine (s_l10All _ W.n _ W _ HA.out (by have := HL3.out; omega) (by have := HSU.out; have := HDL.out; omega)).mono ?_
          rintro e w1 ⟨v1, rfl, ho1, hb1⟩
          have O1 := Lib.hid ho1; have B1 := Lib.hid (bst HB.out hb1 HB.out.size); have R1 := Lib.hid (RowW.below RA.out hb1)
          clear ho1 hb1
          clear q0 q1
          have q1 := RowW.c1 R1.out
          obtain ⟨p1, c1, hv1⟩ := O1.out.ints.shape
          have HX := Lib.hid (fun i (hi : i < (W.d ++ W.r.flatten).length) => hi)
          generalize hnz : (W.d ++ W.r.flatten).length = nz at hv1
          subst hv1
          have HNZ := Lib.hid hnz; clear hnz HX
          have HIA := Lib.hid O1.out.ints
          clear O1
          generalize hzs : W.d ++ W.r.flatten = zs at *
          have HZS := Lib.hid hzs; clear hzs
          go_wp2_with fail
          go_loopw [34, 6] (fun i s wr => ∃ k : Nat, k ≤ nz ∧ i = .int .i64 k ∧ Hid (Own wr w1.heap.size s (putAll [] (zs.take k))) ∧ Hid (Below w1.heap.size w1 wr) ∧ Hid (∀ j, j < k → 1 ≤ zs.getD j 0 ∧ zs.getD j 0 ≤ W.n)) (fun i _ _ => nz - (intOf i).toNat)
          case atStart => exact ⟨0, Nat.zero_le _, rfl, Own.nil _ _, Below.refl _ _, fun j hj => by omega⟩
          case round =>
            obtain ⟨j, hj, rfl, how, hbw, hin⟩ := hrel
            have R2 := Lib.hid (RowW.below R1.out hbw.out)
            have q1 := RowW.c1 R2.out
            by_cases hlt : j < nz
            · obtain ⟨b2, off2, rfl, hcc⟩ := IntsAt.at' HIA.out (by omega)
              have q := cellBelow hbw.out (Nat.le_refl _) (hcc j hlt)
              have i1 : (j : Int) < (nz : Int) := by omega
              have hjl : j < zs.length := by have := HNZ.out; omega
              by_cases hz : 1 ≤ zs.getD j 0 ∧ zs.getD j 0 ≤ W.n
              · have HZ := Lib.hid hz
                have HPA : Hid (putAll [] (zs.take (j + 1)) = putI (zs.getD j 0) (putAll [] (zs.take j))) := by
                  unfold Hid
                  rw [List.take_succ_eq_append_getElem hjl, putAll_snoc]
                  simp [List.getD, hjl]
                have HIN : Hid (∀ i, i < j + 1 → 1 ≤ zs.getD i 0 ∧ zs.getD i 0 ≤ W.n) := fun i hi => by
                  by_cases e : i = j
                  · subst e; exact HZ.out
                  · exact hin.out i (by omega)
                have HLQ : Hid ((putAll [] (zs.take j)).length ≤ 2000000) := by unfold Hid; have h1 := putAll_length (acc := []) (zs := zs.take j); have h2 := HLN.out; have h3 := HNZ.out; rw [List.length_take] at h1; simp only [List.length_nil] at h1; omega
                have hjb : j < 2000000 := by have := HLN.out; have := HNZ.out; omega
                clear hz hcc hin
                generalize zs.getD j 0 = z at *
                go_wp2_with (first
                  | (go_at_call 63; refine (s_l1In_yes z 1 W.n _ HZ.out.1 HZ.out.2).mono ?_; rintro e w2 ⟨rfl, rfl⟩)
                  | (go_at_call 61; refine (s_l1Put _ (putAll [] (zs.take j)) z w1.heap.size _ how.out hbw.out.size HLQ.out).mono ?_; rintro e w2 ⟨v2, rfl, ho2, hb2⟩; have O2 := Lib.hid ho2; have B2 := Lib.hid (bst hbw.out hb2 hbw.out.size); clear ho2 hb2))
                go_roundw
                case rel => exact ⟨j + 1, by omega, by go_num, by rw [HPA.out]; exact O2, B2, HIN⟩
                case measure => simp [intOf]; omega
              · have HE : Hid (goodB W = false) := goodB_false fun g => hz ((HGP.out.1 g).1 _ (by simp [List.getD, hjl]))
                have HZ : Hid (zs.getD j 0 < 1 ∨ W.n < zs.getD j 0) := by unfold Hid; omega
                clear hz hcc hin
                generalize zs.getD j 0 = z at *
                go_wp2_with (go_at_call 63; refine (s_l1In_no z 1 W.n _ HZ.out).mono ?_; rintro e w2 ⟨rfl, rfl⟩)
                go_ret
                exact ⟨r_b HE.out.symm, bst B1.out hbw.out B1.out.size⟩
            · obtain rfl : j = nz := by omega
              have htk : zs.take j = zs := by rw [← HNZ.out]; exact List.take_length
              have HOW : Hid (Own wr w1.heap.size u6 (putAll [] zs)) := by rw [← htk]; exact how
              obtain ⟨p6, c6, hv6⟩ := HOW.out.ints.shape
              have HALL : Hid (∀ z ∈ zs, 1 ≤ z ∧ z ≤ W.n) := fun z hz => by
                obtain ⟨i, hi, rfl⟩ := List.mem_iff_getElem.1 hz
                have := hin.out i (by rw [HNZ.out] at hi; exact hi)
                simpa [List.getD, hi] using this
              generalize hn6 : (putAll [] zs).length = n6 at hv6
              subst hv6
              have HN6 := Lib.hid hn6
              have HBF := Lib.hid (bst B1.out hbw.out B1.out.size)
              clear hin how HOW hn6 htk
              by_cases h1 : (j : Int) = W.n
              · have e1 : ((j : Int) == W.n) = true := by rw [beq_iff_eq]; exact h1
                by_cases h2 : (n6 : Int) = W.n
                · have e2 : ((n6 : Int) == W.n) = true := by rw [beq_iff_eq]; exact h2
                  have HE : Hid (goodB W = true) := goodB_iff.2 (HGP.out.2 ⟨HALL.out, by rw [HNZ.out]; exact h1, by rw [HN6.out]; exact h2⟩)
                  clear h1 h2
                  go_wp2_with fail
                  go_ret
                  exact ⟨r_b HE.out.symm, HBF.out⟩
                · have e2 : ((n6 : Int) == W.n) = false := by rw [beq_eq_false_iff_ne]; exact h2
                  have HE : Hid (goodB W = false) := goodB_false fun g => h2 (by have := (HGP.out.1 g).2.2; rw [HN6.out] at this; exact this)
                  clear h1 h2
                  go_wp2_with fail
                  go_ret
                  exact ⟨r_b HE.out.symm, HBF.out⟩
              · have e1 : ((j : Int) == W.n) = false := by rw [beq_eq_false_iff_ne]; exact h1
                have HE : Hid (goodB W = false) := goodB_false fun g => h1 (by have := (HGP.out.1 g).2.1; rw [HNZ.out] at this; exact this)
                clear h1
                go_wp2_with fail
                go_ret
                exact ⟨r_b HE.out.symm, HBF.out⟩
    · have h3 : ¬ (0 ≤ W.n ∧ W.n ≤ 100) := fun h => hc (isCnt_iff.2 h)
      have HCN : Hid (W.n < 0 ∨ 100 < W.n) := by unfold Hid; omega
      clear h3
      have HE : Hid (goodB W = false) := not_good_n (by simpa using hc)
      clear hc
      go_enter Try.func29, Try.ntmps29
      go_wp2_with (go_at_call 63; refine (s_l1In_no W.n 0 100 _ HCN.out).mono ?_; rintro e w1 ⟨rfl, rfl⟩)
      go_ret
      exact ⟨r_b HE.out.symm, HB.out⟩
  · have e1 : ((nr : Int) != 3) = true := by rw [bne_iff_ne]; omega
    have HE : Hid (goodB W = false) := not_good_len (by rw [HNR.out]; exact hl)
    clear hl
    go_enter Try.func29, Try.ntmps29
    go_wp2_with fail
    go_ret
    exact ⟨r_b HE.out.symm, HB.out⟩
end Go.Proofs.Ytkbphmnacdpdgaa
