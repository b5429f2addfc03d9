/- The laws' own helpers over slices of runs: are they the same, marked, held, copied. -/
import Derived.Test.YtdiejmebodpjeaaRn1
namespace Go.Proofs.Ytdiejmebodpjeaa
open Go.RowKit

theorem rtake_eq_succ {za zb : List (Int × Int)} {k : Nat} (h : za.take k = zb.take k) (ha : k < za.length) (hb : k < zb.length) (e : za.getD k (0, 0) = zb.getD k (0, 0)) : za.take (k + 1) = zb.take (k + 1) := by
  rw [List.take_succ_eq_append_getElem ha, List.take_succ_eq_append_getElem hb, h]
  simp only [List.getD, List.getElem?_eq_getElem ha, List.getElem?_eq_getElem hb, Option.getD_some] at e
  rw [e]
theorem rne_of_getD {za zb : List (Int × Int)} {k : Nat} (e : ¬ za.getD k (0, 0) = zb.getD k (0, 0)) : ¬ za = zb := fun h => e (by rw [h])
theorem rtake_all_eq {za zb : List (Int × Int)} {n : Nat} (ha : za.length = n) (hb : zb.length = n) (h : za.take n = zb.take n) : za = zb := by
  rwa [List.take_of_length_le (by omega), List.take_of_length_le (by omega)] at h
theorem cellBelow {w w' : World} {p : Addr} {x : Value} (hb : Below w.heap.size w w') (h : w.cell? p = some x) : w'.cell? p = some x := (hb.cell (block_lt_of_cell h)).trans h


set_option maxHeartbeats 1600000 in
theorem c_eqRunS (va vb : Value) (za zb : List (Int × Int)) (w : World) (hA : RunsAt w va za) (hB : RunsAt w vb zb) (hm : za.length ≤ 9223372036854775806) :
    Calls Try.prog 35 #[va, vb] w fun e w' => e = .returned (.bool (decide (za = zb))) ∧ Below w.heap.size w w' := by
  obtain ⟨a, ca, rfl, hA⟩ := hA
  obtain ⟨b, cb, rfl, hB⟩ := hB
  by_cases hl : za.length = zb.length
  · rw [← hl] at hB ⊢
    generalize hn : za.length = n at *
    have HN := Lib.hid hn; have HL := Lib.hid hl; clear hn hl
    have hbq : ((n : Int) != (n : Int)) = false := by simp
    by_cases h0 : n = 0
    · subst h0
      obtain rfl : za = [] := List.eq_nil_of_length_eq_zero HN.out
      obtain rfl : zb = [] := List.eq_nil_of_length_eq_zero HL.out.symm
      clear hA hB
      go_enter Try.func35, Try.ntmps35
      go_wp2
      refine wp_loop_rounds 1 ?_
      rw [rounds_succ]
      go_wp2
      go_ret
      exact ⟨rfl, Below.refl _ _⟩
    · obtain ⟨ba, oa, rfl, hca⟩ := hA (by omega)
      obtain ⟨bb, ob, rfl, hcb⟩ := hB (by omega)
      clear hA hB
      have HCA := Lib.hid hca; have HCB := Lib.hid hcb; clear hca hcb
      go_enter Try.func35, Try.ntmps35
      go_wp2
      go_loopw [5] (fun i wr => ∃ k : Nat, k ≤ n ∧ i = .int .i64 k ∧ Hid (za.take k = zb.take k) ∧ Below w.heap.size w wr) (fun i _ => n - (intOf i).toNat)
      case atStart => exact ⟨0, Nat.zero_le _, rfl, by simp [Hid], Below.refl _ _⟩
      case round =>
        obtain ⟨k, hk, rfl, ht, hbr⟩ := hrel
        by_cases hlt : k < n
        · obtain ⟨p1, p2⟩ := HCA.out k hlt
          obtain ⟨p3, p4⟩ := HCB.out k hlt
          have q1 := (hbr.cell (p := ⟨ba, oa + k * 2, none⟩) (block_lt_of_cell p1)).trans p1
          have q2 := (hbr.cell (p := ⟨ba, oa + k * 2 + 1, none⟩) (block_lt_of_cell p2)).trans p2
          have q3 := (hbr.cell (p := ⟨bb, ob + k * 2, none⟩) (block_lt_of_cell p3)).trans p3
          have q4 := (hbr.cell (p := ⟨bb, ob + k * 2 + 1, none⟩) (block_lt_of_cell p4)).trans p4
          clear p1 p2 p3 p4
          have i1 : (k : Int) < (n : Int) := by omega
          generalize hx : za.getD k (0, 0) = x at q1 q2
          generalize hy : zb.getD k (0, 0) = y at q3 q4
          obtain ⟨x1, x2⟩ := x
          obtain ⟨y1, y2⟩ := y
          have HX := Lib.hid hx; have HY := Lib.hid hy; clear hx hy
          have HBR := Lib.hid hbr; clear hbr
          have fin : ∀ w', Below wr.heap.size wr w' → Below w.heap.size w w' := fun w' h => bst HBR.out h HBR.out.size
          have FIN := Lib.hid fin; clear fin
          generalize hbo : decide (((x1, x2) : Int × Int) = (y1, y2)) = bo at *
          have HBO := Lib.hid hbo; clear hbo
          go_wp2_with fail
          replace q1 : wr.drew.cell? ⟨ba, oa + k * 2, none⟩ = some (.int .i64 x1) := q1
          replace q2 : wr.drew.cell? ⟨ba, oa + k * 2 + 1, none⟩ = some (.int .i64 x2) := q2
          replace q3 : wr.drew.cell? ⟨bb, ob + k * 2, none⟩ = some (.int .i64 y1) := q3
          replace q4 : wr.drew.cell? ⟨bb, ob + k * 2 + 1, none⟩ = some (.int .i64 y2) := q4
          have L5 : Below w.heap.size w wr.drew := below_drew HBR.out
          go_region_held3 (fun w' => w'.cell? ⟨ba, oa + k * 2, none⟩ = some (.int .i64 x1) ∧ w'.cell? ⟨ba, oa + k * 2 + 1, none⟩ = some (.int .i64 x2) ∧ w'.cell? ⟨bb, ob + k * 2, none⟩ = some (.int .i64 y1) ∧ w'.cell? ⟨bb, ob + k * 2 + 1, none⟩ = some (.int .i64 y2) ∧ Below w.heap.size w w')
            (first
              | (with_reducible exact ⟨q1, q2, q3, q4, L5⟩)
              | (go_split_ands
                 exact ⟨cellBelow hbk (by assumption), cellBelow hbk (by assumption), cellBelow hbk (by assumption), cellBelow hbk (by assumption), bst (by assumption) hbk (Below.size (by assumption))⟩)
              | (go_split_ands; refine ⟨?_, ?_, ?_, ?_, ?_⟩ <;> assumption))
            (first
              | (go_at_call 58; refine (c_eqRun (x1, x2) (y1, y2) _).mono ?_; rintro e w6 ⟨rfl, hbk⟩; rw [HBO.out]))
          go_split_ands
          cases bo
          · have HNE : Hid (decide (za = zb) = false) := decide_eq_false (rne_of_getD (k := k) (by rw [HX.out, HY.out]; exact of_decide_eq_false HBO.out))
            go_wp2
            go_ret
            exact ⟨r_b HNE.out.symm, by assumption⟩
          · go_wp2
            go_roundw
            case rel => exact ⟨k + 1, by omega, by go_num, rtake_eq_succ ht.out (by rw [HN.out]; exact hlt) (by rw [← HL.out]; exact hlt) (HX.out.trans ((of_decide_eq_true HBO.out).trans HY.out.symm)), by assumption⟩
            case measure => simp [intOf]; omega
        · have HE : Hid (decide (za = zb) = true) := decide_eq_true (rtake_all_eq (n := k) (by rw [HN.out]; omega) (by rw [← HL.out]; omega) ht.out)
          go_wp2
          go_ret
          exact ⟨r_b HE.out.symm, hbr⟩
  · generalize hna : za.length = na at *
    generalize hnb : zb.length = nb at *
    have hbq : ((na : Int) != (nb : Int)) = true := by rw [bne_iff_ne]; omega
    have HN : Hid (decide (za = zb) = false) := decide_eq_false (fun h => hl (by rw [← hna, ← hnb, h]))
    clear hl hA hB hna hnb
    go_enter Try.func35, Try.ntmps35
    go_wp2
    go_ret
    exact ⟨r_b HN.out.symm, Below.refl _ _⟩
/-- n runs that hold the numbers from k on. -/
def upR (k : Int) (n : Nat) : List (Int × Int) := (List.range n).map (fun i : Nat => (k + 2 * (i : Int), k + 2 * (i : Int) + 1))
theorem upR_length (k : Int) (n : Nat) : (upR k n).length = n := by simp [upR]
theorem upR_getD (k : Int) {n i : Nat} (h : i < n) : (upR k n).getD i (0, 0) = (k + 2 * (i : Int), k + 2 * (i : Int) + 1) := by simp [upR, List.getD, h]
/-- What lies in a row of runs of which the first j have been marked. -/
def markR (k : Int) (zs : List (Int × Int)) (j : Nat) : List (Int × Int) := upR k j ++ zs.drop j
theorem markR_length (k : Int) (zs : List (Int × Int)) {j : Nat} (h : j ≤ zs.length) : (markR k zs j).length = zs.length := by simp [markR, upR_length]; omega
theorem markR_zero (k : Int) (zs : List (Int × Int)) : markR k zs 0 = zs := by simp [markR, upR]
theorem markR_all (k : Int) (zs : List (Int × Int)) : markR k zs zs.length = upR k zs.length := by simp [markR]
theorem markR_set (k : Int) (zs : List (Int × Int)) {j : Nat} (h : j < zs.length) : (markR k zs j).set j (k + 2 * (j : Int), k + 2 * (j : Int) + 1) = markR k zs (j + 1) := by
  unfold markR
  have e : zs.drop j = zs[j] :: zs.drop (j + 1) := (List.drop_eq_getElem_cons h)
  rw [e, List.set_append_right _ _ (by rw [upR_length]; omega), upR_length, Nat.sub_self, List.set_cons_zero]
  simp [upR, List.range_succ]
/-- A run stored, first field and then second. -/
theorem OwnR.store2 {w : World} {B g n c : Nat} {zs : List (Int × Int)} (h : OwnR w B (.slice (some ⟨g, 0, none⟩) n c) zs) (hn : zs.length = n) {j : Nat} (hj : j < n) (x y : Int) :
    OwnR ((w.setCell ⟨g, j * 2, none⟩ (.int .i64 x)).setCell ⟨g, j * 2 + 1, none⟩ (.int .i64 y)) B (.slice (some ⟨g, 0, none⟩) n c) (zs.set j (x, y)) ∧ w.grownBy ((w.setCell ⟨g, j * 2, none⟩ (.int .i64 x)).setCell ⟨g, j * 2 + 1, none⟩ (.int .i64 y)) (some g) := by
  unfold OwnR at h
  rw [hn] at h
  obtain ⟨s1, s2⟩ := h.stored (j * 2) (.int .i64 x)
  obtain ⟨t1, t2⟩ := s1.stored (j * 2 + 1) (.int .i64 y)
  refine ⟨?_, grownBy_trans s2 t2⟩
  unfold OwnR
  rw [List.length_set, hn]
  rw [flat_set0 zs j x (by omega), flat_set1 _ j y (by simp; omega), List.set_set] at t1
  have e : ((zs.set j (x, (zs.getD j (0, 0)).2)).getD j (0, 0)).1 = x := by simp [List.getD, hn, hj]
  rw [e] at t1
  exact t1
theorem OwnR.cells {w : World} {B g n c : Nat} {zs : List (Int × Int)} (h : OwnR w B (.slice (some ⟨g, 0, none⟩) n c) zs) (hn : zs.length = n) {j : Nat} (hj : j < n) :
    w.cell? ⟨g, j * 2, none⟩ = some (.int .i64 (zs.getD j (0, 0)).1) ∧ w.cell? ⟨g, j * 2 + 1, none⟩ = some (.int .i64 (zs.getD j (0, 0)).2) ∧ w.frozen? ⟨g, j * 2, none⟩ = false ∧ w.frozen? ⟨g, j * 2 + 1, none⟩ = false := by
  unfold OwnR at h
  rw [hn] at h
  rw [h.cellAt _ (by omega), h.cellAt _ (by omega), flat_get0 zs j (by omega), flat_get1 zs j (by omega)]
  exact ⟨rfl, rfl, h.frozenAt _, h.frozenAt _⟩


set_option maxHeartbeats 800000 in
theorem c_markRunS (v : Value) (zs : List (Int × Int)) (B : Nat) (k : Int) (w : World) (hown : OwnR w B v zs) (h0 : 0 ≤ k) (hm : k + 2 * zs.length ≤ 9223372036854775806) :
    Calls Try.prog 36 #[v, .int .i64 k] w fun e w' => e = .returned (.int .i64 (k + 2 * zs.length)) ∧ OwnR w' B v (upR k zs.length) ∧ w.grownBy w' v.ownBlock := by
  have hv : (v = .slice none 0 0 ∧ zs = []) ∨ ∃ g cap, v = .slice (some ⟨g, 0, none⟩) zs.length cap := by
    rcases hown.2 with ⟨h1, h2⟩ | ⟨g, cap, cur, h1, _⟩
    · exact .inl ⟨h1, List.eq_nil_of_length_eq_zero h2⟩
    · exact .inr ⟨g, cap, h1⟩
  rcases hv with ⟨rfl, rfl⟩ | ⟨g, cap, rfl⟩
  · go_enter Try.func36, Try.ntmps36
    go_wp2
    refine wp_loop_rounds 1 ?_
    rw [rounds_succ]
    go_wp2
    go_ret
    exact ⟨r_i (by simp), hown, World.grownBy.refl _ _⟩
  · have HO := Lib.hid hown; clear hown
    generalize hn : zs.length = n at *
    have HN := Lib.hid hn; clear hn
    go_enter Try.func36, Try.ntmps36
    go_wp2
    go_loopw [1, 5] (fun kk i wr => ∃ j : Nat, j ≤ n ∧ i = .int .i64 j ∧ kk = .int .i64 (k + 2 * j) ∧ OwnR wr B (.slice (some ⟨g, 0, none⟩) n cap) (markR k zs j) ∧ w.grownBy wr (some g)) (fun _ i _ => n - (intOf i).toNat)
    case atStart => exact ⟨0, Nat.zero_le _, rfl, by simp, by rw [markR_zero]; exact HO.out, World.grownBy.refl _ _⟩
    case round =>
      obtain ⟨j, hj, rfl, rfl, hown, hg⟩ := hrel
      by_cases hlt : j < n
      · have hlen := markR_length k zs (j := j) (by rw [HN.out]; exact hj)
        rw [HN.out] at hlen
        obtain ⟨q0, q1, f0, f1⟩ := hown.cells hlen hlt
        generalize ((markR k zs j).getD j (0, 0)).1 = y1 at q0
        generalize ((markR k zs j).getD j (0, 0)).2 = y2 at q1
        obtain ⟨s1, s2⟩ := hown.store2 hlen hlt (k + 2 * j) (k + 2 * j + 1)
        rw [markR_set k zs (by rw [HN.out]; exact hlt)] at s1
        have S1 := Lib.hid s1
        have S2 := Lib.hid s2
        clear s1 s2 hown hlen
        go_wp2
        go_roundw
        case rel => exact ⟨j + 1, by omega, by go_num, by go_num, S1.out, grownBy_trans hg S2.out⟩
        case measure => simp [intOf]; omega
      · obtain rfl : j = n := by omega
        go_wp2
        go_ret
        exact ⟨rfl, by rw [← HN.out, ← markR_all, HN.out]; exact hown, hg⟩


set_option maxHeartbeats 800000 in
theorem c_heldRunS (v : Value) (n : Nat) (k : Int) (w : World) (hA : RunsAt w v (upR k n)) (h0 : 0 ≤ k) (hm : k + 2 * n ≤ 9223372036854775806) :
    Calls Try.prog 37 #[v, .int .i64 k] w fun e w' => e = .returned (.int .i64 (k + 2 * n)) ∧ w = w' := by
  obtain ⟨a, ca, rfl, hA⟩ := hA
  rw [upR_length] at hA ⊢
  by_cases hz : n = 0
  · subst hz
    clear hA
    go_enter Try.func37, Try.ntmps37
    go_wp2
    refine wp_loop_rounds 1 ?_
    rw [rounds_succ]
    go_wp2
    go_ret
    exact ⟨r_i (by simp), rfl⟩
  · obtain ⟨b, off, rfl, hc⟩ := hA (by omega)
    clear hA
    have HC := Lib.hid hc; clear hc
    go_enter Try.func37, Try.ntmps37
    go_wp2
    go_loop [1, 5] (fun kk i => ∃ j : Nat, j ≤ n ∧ i = .int .i64 j ∧ kk = .int .i64 (k + 2 * j)) (fun _ i => n - (intOf i).toNat)
    case atStart => exact ⟨0, Nat.zero_le _, rfl, by simp⟩
    case round =>
      obtain ⟨j, hj, rfl, rfl⟩ := hrel
      by_cases hlt : j < n
      · obtain ⟨q0, q1⟩ := HC.out j hlt
        rw [upR_getD k hlt] at q0 q1
        simp only [] at q0 q1
        have e0 : ((k + 2 * (j : Int)) != (k + 2 * (j : Int))) = false := by simp
        have e1 : ((k + 2 * (j : Int) + 1) != (k + 2 * (j : Int) + 1)) = false := by simp
        go_wp2
        go_round
        case rel => exact ⟨j + 1, by omega, by go_num, by go_num⟩
        case measure => simp [intOf]; omega
      · obtain rfl : j = n := by omega
        go_wp2
        go_ret
        exact ⟨rfl, rfl⟩

/-- What lies in a row of noughts of which the first j have been filled. -/
def fillR (zs : List (Int × Int)) (j : Nat) : List (Int × Int) := zs.take j ++ List.replicate (zs.length - j) (0, 0)
theorem fillR_length (zs : List (Int × Int)) {j : Nat} (h : j ≤ zs.length) : (fillR zs j).length = zs.length := by simp [fillR]; omega
theorem fillR_zero (zs : List (Int × Int)) : fillR zs 0 = List.replicate zs.length (0, 0) := by simp [fillR]
theorem fillR_all (zs : List (Int × Int)) : fillR zs zs.length = zs := by simp [fillR]
theorem fillR_set (zs : List (Int × Int)) {j : Nat} (h : j < zs.length) : (fillR zs j).set j (zs.getD j (0, 0)) = fillR zs (j + 1) := by
  unfold fillR
  have e : List.replicate (zs.length - j) ((0 : Int), (0 : Int)) = (0, 0) :: List.replicate (zs.length - (j + 1)) (0, 0) := by
    rw [show zs.length - j = (zs.length - (j + 1)) + 1 by omega, List.replicate_succ]
  rw [e, List.set_append_right _ _ (by simp; omega), List.length_take, Nat.min_eq_left (by omega), Nat.sub_self, List.set_cons_zero, List.take_succ_eq_append_getElem h]
  have e2 : zs.getD j (0, 0) = zs[j] := by simp [List.getD, List.getElem?_eq_getElem h]
  rw [e2, List.append_assoc]
  rfl
theorem flat_replicate (n : Nat) : (madeCells (Value.agg #[.int .i64 0, .int .i64 0]).cells (n * 2)).toList = flat (List.replicate n (0, 0)) := by
  apply List.ext_getElem?
  intro j
  by_cases hj : j < n * 2
  · have h1 : (madeCells (Value.agg #[.int .i64 0, .int .i64 0]).cells (n * 2)).toList[j]? = some (.int .i64 0) := by
      have e : (Value.agg #[.int .i64 0, .int .i64 0]).cells = #[.int .i64 0, .int .i64 0] := rfl
      rw [e]
      have hm : j % 2 = 0 ∨ j % 2 = 1 := by omega
      rcases hm with hm | hm <;> simp [madeCells, hj, hm]
    rw [h1]
    have hm : j = (j / 2) * 2 ∨ j = (j / 2) * 2 + 1 := by omega
    have hlt : j / 2 < n := by omega
    rcases hm with hm | hm
    · rw [hm, flat_get0 _ _ (by simp; omega)]; simp [List.getD, hlt]
    · rw [hm, flat_get1 _ _ (by simp; omega)]
      have : (j / 2 * 2 + 1) / 2 = j / 2 := by omega
      simp [List.getD, hlt]
  · rw [List.getElem?_eq_none (by simp [madeCells]; omega), List.getElem?_eq_none (by rw [flat_length]; simp; omega)]
theorem info_runs : (Try.prog.info? 33).map (fun i => (i.zero, i.size, i.bytes)) = some (some (.agg #[.int .i64 0, .int .i64 0]), 2, 16) := by kernel_rfl


set_option maxHeartbeats 1600000 in
theorem c_toRunS (v : Value) (zs : List (Int × Int)) (w : World) (hA : RunsAt w v zs) (hm : zs.length ≤ 1048576) :
    Calls Try.prog 34 #[v] w fun e w' => ∃ v', e = .returned v' ∧ OwnR w' w.heap.size v' zs ∧ Below w.heap.size w w' := by
  obtain ⟨i0, hi, hz0, hz1, hz2⟩ := info_parts info_runs
  obtain ⟨a, ca, rfl, hA⟩ := hA
  generalize hn : zs.length = n at *
  have HN := Lib.hid hn; clear hn
  have HA := Lib.hid hA; clear hA
  go_enter Try.func34, Try.ntmps34
  go_wp2_with (refine wpList_make_full _ rfl _ _ 23 rfl w.heap.size 33 i0 (.agg #[.int .i64 0, .int .i64 0]) 2 Try.underlying23 hi hz0 hz1 .i64 .i64 _ _ n rfl rfl rfl rfl (by rw [hz2]; omega) (by unfold maxLen; omega) (Nat.le_refl _) ?_; intro w1 hown hgr; rw [flat_replicate] at hown; have hb := (Below.refl w.heap.size w).grown hgr (Nat.le_refl _) (fun k hk => by cases hk); have HO := Lib.hid hown; clear hown hgr)
  go_loopw [4] (fun i wr => ∃ j : Nat, j ≤ n ∧ i = .int .i64 j ∧ OwnR wr w.heap.size (.slice (some ⟨w.heap.size, 0, none⟩) n n) (fillR zs j) ∧ Below w.heap.size w wr) (fun i _ => n - (intOf i).toNat)
  case atStart =>
    refine ⟨0, Nat.zero_le _, rfl, ?_, hb⟩
    unfold OwnR
    rw [fillR_length zs (Nat.zero_le _), HN.out, fillR_zero, HN.out]
    exact HO.out
  case round =>
    obtain ⟨j, hj, rfl, hown, hbr⟩ := hrel
    by_cases hlt : j < n
    · obtain ⟨b, off, ha, hc⟩ := HA.out (by omega)
      obtain ⟨p0, p1⟩ := hc j hlt
      have q0 := (hbr.cell (p := ⟨b, off + j * 2, none⟩) (block_lt_of_cell p0)).trans p0
      have q1 := (hbr.cell (p := ⟨b, off + j * 2 + 1, none⟩) (block_lt_of_cell p1)).trans p1
      clear p0 p1 hc
      have hlen := fillR_length zs (j := j) (by rw [HN.out]; exact hj)
      rw [HN.out] at hlen
      generalize hz : zs.getD j (0, 0) = z at q0 q1
      obtain ⟨z1, z2⟩ := z
      have HZ := Lib.hid hz; clear hz
      have HW := Lib.hid hown; have HBR := Lib.hid hbr; have HLE := Lib.hid hlen
      clear hown hbr hlen
      subst ha
      go_wp2_with fail
      refine (c_toRun (z1, z2) _).mono ?_
      rintro e w2 ⟨rfl, hb2⟩
      have o2 := OwnR.below HW.out hb2
      obtain ⟨x0, x1, f0, f1⟩ := o2.cells HLE.out hlt
      generalize ((fillR zs j).getD j (0, 0)).1 = y1 at x0
      generalize ((fillR zs j).getD j (0, 0)).2 = y2 at x1
      obtain ⟨s1, s2⟩ := o2.store2 HLE.out hlt z1 z2
      rw [← HZ.out, fillR_set zs (by rw [HN.out]; exact hlt)] at s1
      have S1 := Lib.hid s1
      have B2 := bst HBR.out hb2 HBR.out.size
      have S2 := Lib.hid ((B2.setCell (p := ⟨w.heap.size, j * 2, none⟩) (Nat.le_refl _) (.int .i64 z1)).setCell (p := ⟨w.heap.size, j * 2 + 1, none⟩) (Nat.le_refl _) (.int .i64 z2))
      clear s1 s2 o2 q0 q1 hb2 B2
      go_wp2
      go_roundw
      case rel => exact ⟨j + 1, by omega, by go_num, S1.out, S2.out⟩
      case measure => simp [intOf]; omega
    · obtain rfl : j = n := by omega
      go_wp2
      go_ret
      refine ⟨_, rfl, ?_, hbr⟩
      have := hown
      rw [← HN.out, fillR_all, HN.out] at this
      exact this
end Go.Proofs.Ytdiejmebodpjeaa
