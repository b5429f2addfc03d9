/- What the laws rest on, part 1. -/
import Derived.Test.YtkbphmnacdpdgaaProg
import Derived.WalkKit
import Derived.WalkSpells
import Derived.WalkLawsBesides
import Derived.Lib.Hide
import Derived.Deep.QuietTactic
import Derived.BigQuiet
import Derived.Deep.RegionHeld3
import Derived.RegionTactic
import Derived.Deep.Upon
import Derived.Maps.AppendAt
import Derived.ArgAppend
import Derived.Deep.Cut
import Derived.Laws.StructEq
import Derived.Shelf.Sort.Plain
namespace Go.Proofs.Ytkbphmnacdpdgaa
open Go.RowKit

theorem r_i {a a' : Int} (h : a = a') : Ending.returned (.int .i64 a) = .returned (.int .i64 a') := by rw [h]
theorem r_b {a a' : Bool} (h : a = a') : Ending.returned (.bool a) = .returned (.bool a') := by rw [h]
/-- The slice value v reads, in the world w, as the list zs of ints. -/
def IntsAt (w : World) (v : Value) (zs : List Int) : Prop :=
  ∃ a cap, v = .slice a zs.length cap ∧ (0 < zs.length → ∃ b off, a = some ⟨b, off, none⟩ ∧ ∀ i, i < zs.length → w.cell? ⟨b, off + i, none⟩ = some (.int .i64 (zs.getD i 0)))
theorem IntsAt.below {w w' : World} {v : Value} {zs : List Int} (h : IntsAt w v zs) (hb : Below w.heap.size w w') : IntsAt w' v zs := by
  obtain ⟨a, cap, hv, hc⟩ := h
  refine ⟨a, cap, hv, fun h0 => ?_⟩
  obtain ⟨b, off, ha, hc⟩ := hc h0
  refine ⟨b, off, ha, fun i hi => ?_⟩
  have h1 := hc i hi
  rw [hb.cell (p := ⟨b, off + i, none⟩) (block_lt_of_cell h1)]
  exact h1
theorem IntsAt.drewN {w : World} {v : Value} {zs : List Int} (h : IntsAt w v zs) (n : Nat) : IntsAt (w.drewN n) v zs := h
/-- A row of ints that the call itself has made. -/
def Own (w : World) (B : Nat) (v : Value) (zs : List Int) : Prop := w.ownsRow B 3 1 v zs.length (zs.map (Value.int .i64))
theorem Own.ints {w : World} {B : Nat} {v : Value} {zs : List Int} (h : Own w B v zs) : IntsAt w v zs := by
  have h' := h
  obtain ⟨h1, h2⟩ := h
  rcases h2 with ⟨rfl, h2⟩ | ⟨g, cap, cur, rfl, hg, hh, _⟩
  · exact ⟨none, 0, by rw [h2], fun h => by omega⟩
  · refine ⟨_, cap, rfl, fun _ => ⟨g, 0, rfl, fun i hi => ?_⟩⟩
    rw [Nat.zero_add, World.ownsRow.cellAt h' i (by omega), List.getElem?_map, List.getElem?_eq_getElem hi]
    simp [List.getD, List.getElem?_eq_getElem hi]
theorem Own.below {w w' : World} {B : Nat} {v : Value} {zs : List Int} (h : Own w B v zs) (hb : Below w.heap.size w w') : Own w' B v zs := by
  obtain ⟨h1, h2⟩ := h
  refine ⟨h1, ?_⟩
  rcases h2 with h2 | ⟨g, cap, cur, hv, hg, hh, r⟩
  · exact .inl h2
  · have hlt : g < w.heap.size := by
      by_cases e : g < w.heap.size
      · exact e
      · have hn : w.heap[g]? = none := by simp; omega
        simp [hn] at hh
    exact .inr ⟨g, cap, cur, hv, hg, by rw [hb.block g hlt]; exact hh, r⟩
theorem Own.mono {w : World} {B B' : Nat} {v : Value} {zs : List Int} (h : Own w B v zs) (hB : B' ≤ B) : Own w B' v zs := by
  obtain ⟨h1, h2⟩ := h
  refine ⟨h1, ?_⟩
  rcases h2 with h2 | ⟨g, cap, cur, hv, hg, r⟩
  · exact .inl h2
  · exact .inr ⟨g, cap, cur, hv, by omega, r⟩
theorem below_drewN {B : Nat} {a w : World} (h : Below B a w) (n : Nat) : Below B a (w.drewN n) := h.trans ⟨rfl, rfl, rfl, Nat.le_refl _, fun _ _ => rfl⟩
theorem drewN_refl (w : World) : ∃ n, w = w.drewN n := ⟨0, rfl⟩
theorem take_eq_succ {za zb : List Int} {k : Nat} (h : za.take k = zb.take k) (ha : k < za.length) (hb : k < zb.length) (e : za.getD k 0 = zb.getD k 0) : za.take (k + 1) = zb.take (k + 1) := by
  rw [List.take_succ_eq_append_getElem ha, List.take_succ_eq_append_getElem hb, h]
  simp only [List.getD, List.getElem?_eq_getElem ha, List.getElem?_eq_getElem hb, Option.getD_some] at e
  rw [e]
theorem ne_of_getD {za zb : List Int} {k : Nat} (e : ¬ za.getD k 0 = zb.getD k 0) : ¬ za = zb := fun h => e (by rw [h])

theorem take_all_eq {za zb : List Int} {n : Nat} (ha : za.length = n) (hb : zb.length = n) (h : za.take n = zb.take n) : za = zb := by
  rwa [List.take_of_length_le (by omega), List.take_of_length_le (by omega)] at h


set_option maxHeartbeats 400000 in
theorem c_eqIntS (va vb : Value) (za zb : List Int) (w : World) (hA : IntsAt w va za) (hB : IntsAt w vb zb) (hm : za.length ≤ 9223372036854775806) :
    Calls Try.prog 49 #[va, vb] w fun e w' => e = .returned (.bool (decide (za = zb))) ∧ ∃ n, w' = w.drewN n := by
  obtain ⟨a, ca, rfl, hA⟩ := hA
  obtain ⟨b, cb, rfl, hB⟩ := hB
  by_cases hl : za.length = zb.length
  · rw [← hl] at hB ⊢
    generalize hn : za.length = n at *
    have HN := Lib.hid hn; have HL := Lib.hid hl; clear hn hl
    have hbq : ((n : Int) != (n : Int)) = false := by simp
    by_cases h0 : n = 0
    · subst h0
      obtain rfl : za = [] := List.eq_nil_of_length_eq_zero HN.out
      obtain rfl : zb = [] := List.eq_nil_of_length_eq_zero HL.out.symm
      clear hA hB
      go_enter Try.func49, Try.ntmps49
      go_wp2
      refine wp_loop_rounds 1 ?_
      rw [rounds_succ]
      go_wp2
      go_ret
      exact ⟨rfl, drewN_refl _⟩
    · obtain ⟨ba, oa, rfl, hca⟩ := hA (by omega)
      obtain ⟨bb, ob, rfl, hcb⟩ := hB (by omega)
      clear hA hB
      have HCA := Lib.hid hca; have HCB := Lib.hid hcb; clear hca hcb
      go_enter Try.func49, Try.ntmps49
      go_wp2
      go_loopw [5] (fun i wr => ∃ k : Nat, k ≤ n ∧ i = .int .i64 k ∧ Hid (za.take k = zb.take k) ∧ ∃ n, wr = w.drewN n) (fun i _ => n - (intOf i).toNat)
      case atStart => exact ⟨0, Nat.zero_le _, rfl, by simp [Hid], drewN_refl _⟩
      case round =>
        obtain ⟨k, hk, rfl, ht, nd, rfl⟩ := hrel
        by_cases hlt : k < n
        · have q1 := HCA.out k hlt
          have q2 := HCB.out k hlt
          have i1 : (k : Int) < (n : Int) := by omega
          generalize hx : za.getD k 0 = x at q1
          generalize hy : zb.getD k 0 = y at q2
          have HX := Lib.hid hx; have HY := Lib.hid hy; clear hx hy
          by_cases exy : x = y
          · subst exy
            go_wp2
            go_quiet (fail)
            go_wp2
            go_roundw
            case rel => exact ⟨k + 1, by omega, by go_num, take_eq_succ ht.out (by rw [HN.out]; exact hlt) (by rw [← HL.out]; exact hlt) (HX.out.trans HY.out.symm), nd + nq, by simp⟩
            case measure => simp [intOf]; omega
          · have hne : (x != y) = true := by rw [bne_iff_ne]; exact exy
            have HNE : Hid (decide (za = zb) = false) := decide_eq_false (ne_of_getD (k := k) (by rw [HX.out, HY.out]; exact exy))
            clear exy
            go_wp2
            go_quiet (fail)
            go_wp2
            go_ret
            exact ⟨r_b HNE.out.symm, nd + nq, by simp⟩
        · have HE : Hid (decide (za = zb) = true) := decide_eq_true (take_all_eq (n := k) (by rw [HN.out]; omega) (by rw [← HL.out]; omega) ht.out)
          go_wp2
          go_ret
          exact ⟨r_b HE.out.symm, _, rfl⟩
  · generalize hna : za.length = na at *
    generalize hnb : zb.length = nb at *
    have hbq : ((na : Int) != (nb : Int)) = true := by rw [bne_iff_ne]; omega
    have HN : Hid (decide (za = zb) = false) := decide_eq_false (fun h => hl (by rw [← hna, ← hnb, h]))
    clear hl hA hB hna hnb
    go_enter Try.func49, Try.ntmps49
    go_wp2
    go_ret
    exact ⟨r_b HN.out.symm, drewN_refl _⟩

theorem grownBy_trans {a b c : World} {r : Option Nat} (h : a.grownBy b r) (k : b.grownBy c r) : a.grownBy c r :=
  ⟨k.os.trans h.os, k.tape.trans h.tape, k.output.trans h.output, Nat.le_trans h.size k.size, fun i hi hr => (k.block i (Nat.lt_of_lt_of_le hi h.size) hr).trans (h.block i hi hr)⟩
/-- n numbers, from k on. -/
def upFrom (k : Int) (n : Nat) : List Int := (List.range n).map (fun i : Nat => k + (i : Int))
theorem upFrom_length (k : Int) (n : Nat) : (upFrom k n).length = n := by simp [upFrom]
theorem upFrom_getD (k : Int) {n i : Nat} (h : i < n) : (upFrom k n).getD i 0 = k + i := by simp [upFrom, List.getD, h]
/-- What lies in a row of which the first j have been marked. -/
def markTo (k : Int) (zs : List Int) (j : Nat) : List Int := upFrom k j ++ zs.drop j
theorem markTo_length (k : Int) (zs : List Int) {j : Nat} (h : j ≤ zs.length) : (markTo k zs j).length = zs.length := by simp [markTo, upFrom_length]; omega
theorem markTo_zero (k : Int) (zs : List Int) : markTo k zs 0 = zs := by simp [markTo, upFrom]
theorem markTo_all (k : Int) (zs : List Int) : markTo k zs zs.length = upFrom k zs.length := by simp [markTo]
theorem markTo_set (k : Int) (zs : List Int) {j : Nat} (h : j < zs.length) : (markTo k zs j).set j (k + j) = markTo k zs (j + 1) := by
  unfold markTo
  have e : zs.drop j = zs[j] :: zs.drop (j + 1) := (List.drop_eq_getElem_cons h)
  rw [e, List.set_append_right _ _ (by rw [upFrom_length]; omega), upFrom_length, Nat.sub_self, List.set_cons_zero]
  simp [upFrom, List.range_succ]


set_option maxHeartbeats 400000 in
theorem c_markIntS (v : Value) (zs : List Int) (B : Nat) (k : Int) (w : World) (hown : Own w B v zs) (h0 : 0 ≤ k) (hm : k + zs.length ≤ 9223372036854775806) :
    Calls Try.prog 50 #[v, .int .i64 k] w fun e w' => e = .returned (.int .i64 (k + zs.length)) ∧ Own w' B v (upFrom k zs.length) ∧ w.grownBy w' v.ownBlock := by
  have hv : (v = .slice none 0 0 ∧ zs = []) ∨ ∃ g cap, v = .slice (some ⟨g, 0, none⟩) zs.length cap := by
    rcases hown.2 with ⟨h1, h2⟩ | ⟨g, cap, cur, h1, _⟩
    · exact .inl ⟨h1, List.eq_nil_of_length_eq_zero h2⟩
    · exact .inr ⟨g, cap, h1⟩
  rcases hv with ⟨rfl, rfl⟩ | ⟨g, cap, rfl⟩
  · go_enter Try.func50, Try.ntmps50
    go_wp2
    refine wp_loop_rounds 1 ?_
    rw [rounds_succ]
    go_wp2
    go_ret
    exact ⟨r_i (by simp), hown, World.grownBy.refl _ _⟩
  · have HO := Lib.hid hown; clear hown
    generalize hn : zs.length = n at *
    have HN := Lib.hid hn; clear hn
    go_enter Try.func50, Try.ntmps50
    go_wp2
    go_loopw [1, 5] (fun kk i wr => ∃ j : Nat, j ≤ n ∧ i = .int .i64 j ∧ kk = .int .i64 (k + j) ∧ Own wr B (.slice (some ⟨g, 0, none⟩) n cap) (markTo k zs j) ∧ w.grownBy wr (some g)) (fun _ i _ => n - (intOf i).toNat)
    case atStart => exact ⟨0, Nat.zero_le _, rfl, by simp, by rw [markTo_zero]; exact HO.out, World.grownBy.refl _ _⟩
    case round =>
      obtain ⟨j, hj, rfl, rfl, hown, hg⟩ := hrel
      by_cases hlt : j < n
      · have hlen := markTo_length k zs (j := j) (by rw [HN.out]; exact hj)
        have hown' : wr.ownsRow B 3 1 (.slice (some ⟨g, 0, none⟩) n cap) n ((markTo k zs j).map (Value.int .i64)) := by
          have := hown; unfold Own at this; rwa [hlen, HN.out] at this
        have hfr := hown'.frozenAt j
        obtain ⟨x, hx⟩ : ∃ x, wr.cell? ⟨g, j, none⟩ = some x := by
          rw [hown'.cellAt j (by omega), List.getElem?_map, List.getElem?_eq_getElem (by rw [hlen, HN.out]; exact hlt)]
          exact ⟨_, rfl⟩
        obtain ⟨s1, s2⟩ := hown'.stored j (.int .i64 (k + j))
        have S1 : Hid (Own (wr.setCell ⟨g, j, none⟩ (.int .i64 (k + j))) B (.slice (some ⟨g, 0, none⟩) n cap) (markTo k zs (j + 1))) := by
          unfold Hid Own
          rw [markTo_length k zs (by rw [HN.out]; omega), HN.out, ← markTo_set k zs (by rw [HN.out]; exact hlt), List.map_set]
          exact s1
        have S2 := Lib.hid s2
        clear s1 s2 hown hown' hlen
        go_wp2
        go_roundw
        case rel => exact ⟨j + 1, by omega, by go_num, by go_num, S1.out, grownBy_trans hg S2.out⟩
        case measure => simp [intOf]; omega
      · obtain rfl : j = n := by omega
        go_wp2
        go_ret
        exact ⟨rfl, by rw [← HN.out, ← markTo_all, HN.out]; exact hown, hg⟩


set_option maxHeartbeats 400000 in
theorem c_heldIntS (v : Value) (n : Nat) (k : Int) (w : World) (hA : IntsAt w v (upFrom k n)) (h0 : 0 ≤ k) (hm : k + n ≤ 9223372036854775806) :
    Calls Try.prog 51 #[v, .int .i64 k] w fun e w' => e = .returned (.int .i64 (k + n)) ∧ w = w' := by
  obtain ⟨a, ca, rfl, hA⟩ := hA
  rw [upFrom_length] at hA ⊢
  by_cases hz : n = 0
  · subst hz
    clear hA
    go_enter Try.func51, Try.ntmps51
    go_wp2
    refine wp_loop_rounds 1 ?_
    rw [rounds_succ]
    go_wp2
    go_ret
    exact ⟨r_i (by simp), rfl⟩
  · obtain ⟨b, off, rfl, hc⟩ := hA (by omega)
    clear hA
    have HC := Lib.hid hc; clear hc
    go_enter Try.func51, Try.ntmps51
    go_wp2
    go_loop [1, 5] (fun kk i => ∃ j : Nat, j ≤ n ∧ i = .int .i64 j ∧ kk = .int .i64 (k + j)) (fun _ i => n - (intOf i).toNat)
    case atStart => exact ⟨0, Nat.zero_le _, rfl, by simp⟩
    case round =>
      obtain ⟨j, hj, rfl, rfl⟩ := hrel
      by_cases hlt : j < n
      · have q := HC.out j hlt
        rw [upFrom_getD k hlt] at q
        go_wp2
        go_round
        case rel => exact ⟨j + 1, by omega, by go_num, by go_num⟩
        case measure => simp [intOf]; omega
      · obtain rfl : j = n := by omega
        go_wp2
        go_ret
        exact ⟨rfl, rfl⟩

/-- What lies in a row of zeros of which the first j have been filled. -/
def fillTo (zs : List Int) (j : Nat) : List Int := zs.take j ++ List.replicate (zs.length - j) 0
theorem fillTo_length (zs : List Int) {j : Nat} (h : j ≤ zs.length) : (fillTo zs j).length = zs.length := by simp [fillTo]; omega
theorem fillTo_zero (zs : List Int) : fillTo zs 0 = List.replicate zs.length 0 := by simp [fillTo]
theorem fillTo_all (zs : List Int) : fillTo zs zs.length = zs := by simp [fillTo]
theorem fillTo_set (zs : List Int) {j : Nat} (h : j < zs.length) : (fillTo zs j).set j (zs.getD j 0) = fillTo zs (j + 1) := by
  unfold fillTo
  have e : List.replicate (zs.length - j) (0 : Int) = 0 :: List.replicate (zs.length - (j + 1)) 0 := by
    rw [show zs.length - j = (zs.length - (j + 1)) + 1 by omega, List.replicate_succ]
  rw [e, List.set_append_right _ _ (by simp; omega), List.length_take, Nat.min_eq_left (by omega), Nat.sub_self, List.set_cons_zero, List.take_succ_eq_append_getElem h]
  have e2 : zs.getD j 0 = zs[j] := by simp [List.getD, List.getElem?_eq_getElem h]
  rw [e2, List.append_assoc]
  rfl

theorem info_int : (Try.prog.info? 3).map (fun i => (i.zero, i.size, i.bytes)) = some (some (.int .i64 0), 1, 8) := by kernel_rfl

set_option maxHeartbeats 400000 in
theorem c_toIntS (v : Value) (zs : List Int) (w : World) (hA : IntsAt w v zs) (hm : zs.length ≤ 1048576) :
    Calls Try.prog 78 #[v] w fun e w' => ∃ v', e = .returned v' ∧ Own w' w.heap.size v' zs ∧ Below w.heap.size w w' := by
  obtain ⟨i0, hi, hz0, hz1, hz2⟩ := info_parts info_int
  obtain ⟨a, ca, rfl, hA⟩ := hA
  generalize hn : zs.length = n at *
  have HN := Lib.hid hn; clear hn
  have HA := Lib.hid hA; clear hA
  go_enter Try.func78, Try.ntmps78
  go_wp2_with (refine wpList_make_full _ rfl _ _ 26 rfl w.heap.size 3 i0 (.int .i64 0) 1 Try.underlying26 hi hz0 hz1 .i64 .i64 _ _ n rfl rfl rfl rfl (by rw [hz2]; omega) (by unfold maxLen; omega) (Nat.le_refl _) ?_; intro w1 hown hgr; rw [Nat.mul_one, show (Value.int .i64 0).cells = #[.int .i64 0] from rfl, toList_madeCells_one] at hown; have hb := (Below.refl w.heap.size w).grown hgr (Nat.le_refl _) (fun k hk => by cases hk); have HO := Lib.hid hown; clear hown hgr)
  go_loopw [4] (fun i wr => ∃ j : Nat, j ≤ n ∧ i = .int .i64 j ∧ Own wr w.heap.size (.slice (some ⟨w.heap.size, 0, none⟩) n n) (fillTo zs j) ∧ Below w.heap.size w wr) (fun i _ => n - (intOf i).toNat)
  case atStart =>
    refine ⟨0, Nat.zero_le _, rfl, ?_, hb⟩
    unfold Own
    rw [fillTo_length zs (Nat.zero_le _), HN.out, fillTo_zero, HN.out, List.map_replicate]
    exact HO.out
  case round =>
    obtain ⟨j, hj, rfl, hown, hbr⟩ := hrel
    by_cases hlt : j < n
    · obtain ⟨b, off, ha, hc⟩ := HA.out (by omega)
      have hq := hc j hlt
      have q : wr.cell? ⟨b, off + j, none⟩ = some (.int .i64 (zs.getD j 0)) := (hbr.cell (p := ⟨b, off + j, none⟩) (block_lt_of_cell hq)).trans hq
      clear hq hc
      have hlen := fillTo_length zs (j := j) (by rw [HN.out]; exact hj)
      have hown' : wr.ownsRow w.heap.size 3 1 (.slice (some ⟨w.heap.size, 0, none⟩) n n) n ((fillTo zs j).map (Value.int .i64)) := by
        have := hown; unfold Own at this; rwa [hlen, HN.out] at this
      have hfr := hown'.frozenAt j
      obtain ⟨x, hx⟩ : ∃ x, wr.cell? ⟨w.heap.size, j, none⟩ = some x := by
        rw [hown'.cellAt j (by omega), List.getElem?_map, List.getElem?_eq_getElem (by rw [hlen, HN.out]; exact hlt)]
        exact ⟨_, rfl⟩
      obtain ⟨s1, s2⟩ := hown'.stored j (.int .i64 (zs.getD j 0))
      have S1 : Hid (Own (wr.setCell ⟨w.heap.size, j, none⟩ (.int .i64 (zs.getD j 0))) w.heap.size (.slice (some ⟨w.heap.size, 0, none⟩) n n) (fillTo zs (j + 1))) := by
        unfold Hid Own
        rw [fillTo_length zs (by rw [HN.out]; omega), HN.out, ← fillTo_set zs (by rw [HN.out]; exact hlt), List.map_set]
        exact s1
      have S2 := Lib.hid (hbr.setCell (p := ⟨w.heap.size, j, none⟩) (Nat.le_refl _) (.int .i64 (zs.getD j 0)))
      clear s1 s2 hown hown' hlen
      generalize hz : zs.getD j 0 = z at *
      clear hz
      subst ha
      go_wp2
      go_roundw
      case rel => exact ⟨j + 1, by omega, by go_num, S1.out, S2.out⟩
      case measure => simp [intOf]; omega
    · obtain rfl : j = n := by omega
      go_wp2
      go_ret
      refine ⟨_, rfl, ?_, hbr⟩
      have := hown
      rw [← HN.out, fillTo_all, HN.out] at this
      exact this
end Go.Proofs.Ytkbphmnacdpdgaa
namespace Go.Proofs.Ytkbphmnacdpdgaa
open Go.RowKit

/-- The block g, of type T, holds the cells cs. -/
def Row (w : World) (g : Nat) (T : TypeId) (cs : Array Value) : Prop := w.heap[g]? = some (.cells cs T (0, 0))
theorem Row.cell {w : World} {g : Nat} {T : TypeId} {cs : Array Value} (h : Row w g T cs) (k : Nat) : w.cell? ⟨g, k, none⟩ = cs[k]? := cell_of_row w g k _ _ _ h
theorem Row.frozen {w : World} {g : Nat} {T : TypeId} {cs : Array Value} (h : Row w g T cs) (k : Nat) : w.frozen? ⟨g, k, none⟩ = false := frozen_of_row w g k _ _ h
theorem Row.lt {w : World} {g : Nat} {T : TypeId} {cs : Array Value} (h : Row w g T cs) : g < w.heap.size := by
  by_cases e : g < w.heap.size
  · exact e
  · have hn : w.heap[g]? = none := by simp; omega
    rw [Row, hn] at h; cases h
theorem Row.below {w w' : World} {g : Nat} {T : TypeId} {cs : Array Value} (h : Row w g T cs) (hb : Below w.heap.size w w') : Row w' g T cs := by
  unfold Row; rw [hb.block g h.lt]; exact h
theorem Row.alloc {w : World} {g : Nat} {T : TypeId} {cs : Array Value} (h : Row w g T cs) (o : Obj) : Row (w.alloc o) g T cs := by
  unfold Row; rw [Below.heap_alloc w o g h.lt]; exact h
theorem Row.new (w : World) (T : TypeId) (cs : Array Value) : Row (w.alloc (.cells cs T)) w.heap.size T cs := heap_alloc_new _ _
theorem Row.new1 (w : World) (o : Obj) (T : TypeId) (cs : Array Value) : Row ((w.alloc o).alloc (.cells cs T)) (w.heap.size + 1) T cs := by
  have := Row.new (w.alloc o) T cs; simpa using this
theorem Row.new2 (w : World) (o o' : Obj) (T : TypeId) (cs : Array Value) : Row (((w.alloc o).alloc o').alloc (.cells cs T)) (w.heap.size + 1 + 1) T cs := by
  have := Row.new ((w.alloc o).alloc o') T cs; simpa using this
theorem Row.other {w : World} {g : Nat} {T : TypeId} {cs : Array Value} (h : Row w g T cs) (a : Addr) (ha : g ≠ a.block) (x : Value) : Row (w.setCell a x) g T cs := by
  unfold Row; rw [heap_setCell_other w a g _ ha]; exact h
theorem Row.set {w : World} {g : Nat} {T : TypeId} {cs : Array Value} (h : Row w g T cs) (k : Nat) (x : Value) : Row (w.setCell ⟨g, k, none⟩ x) g T (cs.setIfInBounds k x) := heap_setCell_same w g k _ _ _ h
theorem Row.put {w : World} {g : Nat} {T : TypeId} {cs : Array Value} (h : Row w g T cs) (ds : Array Value) : Row (w.setRow g ds) g T ds := setRow_heap w g cs ds T (0, 0) h
theorem Row.putOther {w : World} {g g' : Nat} {T : TypeId} {cs : Array Value} (h : Row w g T cs) (ds : Array Value) (hn : g ≠ g') : Row (w.setRow g' ds) g T cs := by
  unfold Row; rw [setRow_other w g' g ds hn]; exact h
theorem below_setRow {B g : Nat} {w0 w : World} (hb : Below B w0 w) (hBg : B ≤ g) (cs : Array Value) : Below B w0 (w.setRow g cs) :=
  ⟨hb.os, hb.tape, hb.output, by rw [size_setRow]; exact hb.size, fun i hi => (setRow_other w g i cs (by omega)).trans (hb.block i hi)⟩
theorem below_drew {B : Nat} {w0 w : World} (hb : Below B w0 w) : Below B w0 w.drew := hb.trans ⟨rfl, rfl, rfl, Nat.le_refl _, fun _ _ => rfl⟩
theorem res_row {P : Program} {fn : Func} {p : Tmp} {ty : TypeId} (h : fn.results = #[.cell p ty]) {tmps : Array Value} {w : World} {g : Nat} {t : TypeId} {cs : Array Value} {d : TypeDesc} (hg : Row w g t cs)
    (hp : tmps.getD p undef = .pointer (some ⟨g, 0, none⟩)) (hu : P.underlying ty = some d) (hd : (match d with | .struct _ | .array _ _ => true | _ => false) = true) (hi : (P.info? ty).map (·.size) = some cs.size) :
    (results fn tmps).run P w = .ok (.agg cs) w := results_cell_row h tmps w g t cs (0, 0) d hp hg hu hd hi
theorem res_row_slot {P : Program} {fn : Func} {p q : Tmp} {ty : TypeId} (h : fn.results = #[.cell p ty, .tmp q]) {tmps : Array Value} {w : World} {g : Nat} {t : TypeId} {cs : Array Value} {d : TypeDesc} {v : Value} (hg : Row w g t cs)
    (hp : tmps.getD p undef = .pointer (some ⟨g, 0, none⟩)) (hq : tmps.getD q undef = v) (hu : P.underlying ty = some d) (hd : (match d with | .struct _ | .array _ _ => true | _ => false) = true) (hi : (P.info? ty).map (·.size) = some cs.size) :
    (results fn tmps).run P w = .ok (.tuple #[.agg cs, v]) w := by
  have hp' : tmps[p]?.getD undef = .pointer (some ⟨g, 0, none⟩) := by simpa using hp
  have hq' : tmps[q]?.getD undef = v := by simpa using hq
  simp [results, h, hp', hq', asAddr, run_loadVar_row w g t ty cs (0, 0) d hg hu hd hi]
theorem Row.grownBy {w w1 : World} {g : Nat} {T : TypeId} {cs : Array Value} {c : Option Nat} (h : Row w g T cs) (hg : w.grownBy w1 c) (hn : c ≠ some g) : Row w1 g T cs := (hg.block g h.lt (fun e => hn e.symm)).trans h
theorem bst {B : Nat} {w w1 w2 : World} (h : Below B w w1) (k : Below w1.heap.size w1 w2) (hB : B ≤ w1.heap.size) : Below B w w2 := h.trans (k.mono hB)
end Go.Proofs.Ytkbphmnacdpdgaa
namespace Go.Proofs.Ytkbphmnacdpdgaa.Ph

structure H where
  f : List (List Int)
  l : List Bool
  r : List Int

end Go.Proofs.Ytkbphmnacdpdgaa.Ph
namespace Go.Proofs.Ytkbphmnacdpdgaa
open Go.RowKit Ph

/-- The slice value v reads, in the world w, as the list bs of bools. -/
def BoolsAt (w : World) (v : Value) (bs : List Bool) : Prop :=
  ∃ a cap, v = .slice a bs.length cap ∧ (0 < bs.length → ∃ b off, a = some ⟨b, off, none⟩ ∧ ∀ i, i < bs.length → w.cell? ⟨b, off + i, none⟩ = some (.bool (bs.getD i false)))
/-- The slice value v reads, in the world w, as the list fs of lists of ints. -/
def RowsAt (w : World) (v : Value) (fs : List (List Int)) : Prop :=
  ∃ a cap, v = .slice a fs.length cap ∧ (0 < fs.length → ∃ b off, a = some ⟨b, off, none⟩ ∧ ∀ i, i < fs.length → ∃ u, w.cell? ⟨b, off + i, none⟩ = some u ∧ IntsAt w u (fs.getD i []))
theorem RowsAt.below {w w' : World} {v : Value} {fs : List (List Int)} (h : RowsAt w v fs) (hb : Below w.heap.size w w') : RowsAt w' v fs := by
  obtain ⟨a, cap, hv, hc⟩ := h
  refine ⟨a, cap, hv, fun h0 => ?_⟩
  obtain ⟨b, off, ha, hc⟩ := hc h0
  refine ⟨b, off, ha, fun i hi => ?_⟩
  obtain ⟨u, h1, h2⟩ := hc i hi
  rw [hb.cell (p := ⟨b, off + i, none⟩) (block_lt_of_cell h1)]
  exact ⟨u, h1, h2.below hb⟩
theorem IntsAt.shape {w : World} {v : Value} {zs : List Int} (h : IntsAt w v zs) : ∃ a c, v = .slice a zs.length c := by obtain ⟨a, c, h, _⟩ := h; exact ⟨a, c, h⟩
theorem BoolsAt.shape {w : World} {v : Value} {zs : List Bool} (h : BoolsAt w v zs) : ∃ a c, v = .slice a zs.length c := by obtain ⟨a, c, h, _⟩ := h; exact ⟨a, c, h⟩
theorem RowsAt.shape {w : World} {v : Value} {zs : List (List Int)} (h : RowsAt w v zs) : ∃ a c, v = .slice a zs.length c := by obtain ⟨a, c, h, _⟩ := h; exact ⟨a, c, h⟩
theorem IntsAt.at' {w : World} {a : Option Addr} {n c : Nat} {zs : List Int} (h : IntsAt w (.slice a n c) zs) (h0 : 0 < n) : ∃ b off, a = some ⟨b, off, none⟩ ∧ ∀ i, i < n → w.cell? ⟨b, off + i, none⟩ = some (.int .i64 (zs.getD i 0)) := by
  obtain ⟨a', c', hv, hc⟩ := h
  cases hv
  exact hc h0
theorem RowsAt.at' {w : World} {a : Option Addr} {n c : Nat} {zs : List (List Int)} (h : RowsAt w (.slice a n c) zs) (h0 : 0 < n) : ∃ b off, a = some ⟨b, off, none⟩ ∧ ∀ i, i < n → ∃ u, w.cell? ⟨b, off + i, none⟩ = some u ∧ IntsAt w u (zs.getD i []) := by
  obtain ⟨a', c', hv, hc⟩ := h
  cases hv
  exact hc h0
structure HeapAt (w : World) (a b c : Value) (h : H) : Prop where
  f : RowsAt w a h.f
  l : BoolsAt w b h.l
  r : IntsAt w c h.r
theorem cellBelow {w w' : World} {p : Addr} {x : Value} {B : Nat} (hb : Below B w w') (hB : w.heap.size ≤ B) (h : w.cell? p = some x) : w'.cell? p = some x := (hb.cell (Nat.lt_of_lt_of_le (block_lt_of_cell h) hB)).trans h
theorem below1 (w : World) (o : Obj) : Below w.heap.size w (w.alloc o) := (Below.refl w.heap.size w).alloc (Nat.le_refl _) o
/-- What a call owns: n rows of cells, each in a block of its own, all blocks between lo and hi. -/
structure Fam (w : World) (lo hi n : Nat) (T : Nat → TypeId) (v : Nat → Value) (cs : Nat → List Value) : Prop where
  own : ∀ k, k < n → w.ownsRow lo (T k) 1 (v k) (cs k).length (cs k)
  lt : ∀ k, k < n → ∀ g, (v k).ownBlock = some g → g < hi
  ap : ∀ j k, j < n → k < n → j ≠ k → (v j).ownBlock = none ∨ (v j).ownBlock ≠ (v k).ownBlock
theorem owns_lt {w : World} {B : Nat} {T : TypeId} {v : Value} {n : Nat} {xs : List Value} (h : w.ownsRow B T 1 v n xs) {g : Nat} (hg : v.ownBlock = some g) : B ≤ g ∧ g < w.heap.size := by
  rcases h.2 with ⟨rfl, _⟩ | ⟨g', cap, cur, rfl, h1, h2, _⟩
  · cases hg
  · cases hg
    refine ⟨h1, ?_⟩
    by_cases e : g' < w.heap.size
    · exact e
    · have hn : w.heap[g']? = none := by simp; omega
      rw [hn] at h2; cases h2
/-- Blocks beyond lo .. hi are as they were. -/
structure Chg (lo hi : Nat) (w w' : World) : Prop where
  os : w'.os = w.os
  tape : w'.tape = w.tape
  output : w'.output = w.output
  size : w.heap.size ≤ w'.heap.size
  block : ∀ i, i < w.heap.size → (i < lo ∨ hi ≤ i) → w'.heap[i]? = w.heap[i]?
theorem Chg.refl (lo hi : Nat) (w : World) : Chg lo hi w w := ⟨rfl, rfl, rfl, Nat.le_refl _, fun _ _ _ => rfl⟩
theorem Chg.trans {lo hi : Nat} {a b c : World} (h : Chg lo hi a b) (k : Chg lo hi b c) : Chg lo hi a c := ⟨k.os.trans h.os, k.tape.trans h.tape, k.output.trans h.output, Nat.le_trans h.size k.size, fun i hi hr => (k.block i (Nat.lt_of_lt_of_le hi h.size) hr).trans (h.block i hi hr)⟩
theorem Chg.of_below {lo hi : Nat} {w w' : World} (h : Below w.heap.size w w') : Chg lo hi w w' := ⟨h.os, h.tape, h.output, h.size, fun i hi _ => h.block i hi⟩
theorem Chg.of_grown {lo hi : Nat} {w w' : World} {row : Option Nat} (h : w.grownBy w' row) (hr : ∀ g, row = some g → lo ≤ g ∧ g < hi) : Chg lo hi w w' := ⟨h.os, h.tape, h.output, h.size, fun i hi hx => h.block i hi (fun e => by have := hr i e.symm; omega)⟩
theorem owns_block {w w' : World} {B : Nat} {T : TypeId} {v : Value} {n : Nat} {xs : List Value} (h : w.ownsRow B T 1 v n xs) (hb : ∀ g, v.ownBlock = some g → w'.heap[g]? = w.heap[g]?) : w'.ownsRow B T 1 v n xs := by
  refine ⟨h.1, ?_⟩
  rcases h.2 with h2 | ⟨g, cap, cur, hv, hg, hh, r⟩
  · exact .inl h2
  · exact .inr ⟨g, cap, cur, hv, hg, by rw [hb g (by rw [hv]; rfl)]; exact hh, r⟩
theorem owns_mono {w : World} {B B' : Nat} {T : TypeId} {v : Value} {n : Nat} {xs : List Value} (h : w.ownsRow B T 1 v n xs) (hB : ∀ g, v.ownBlock = some g → B' ≤ g) : w.ownsRow B' T 1 v n xs := by
  refine ⟨h.1, ?_⟩
  rcases h.2 with h2 | ⟨g, cap, cur, hv, hg, hh, r⟩
  · exact .inl h2
  · exact .inr ⟨g, cap, cur, hv, hB g (by rw [hv]; rfl), hh, r⟩
section
variable {w w' : World} {lo hi n : Nat} {T : Nat → TypeId} {v : Nat → Value} {cs : Nat → List Value}
theorem Fam.blk (h : Fam w lo hi n T v cs) {k g : Nat} (hk : k < n) (hg : (v k).ownBlock = some g) : lo ≤ g ∧ g < hi ∧ g < w.heap.size := ⟨(owns_lt (h.own k hk) hg).1, h.lt k hk g hg, (owns_lt (h.own k hk) hg).2⟩
theorem Fam.keep (h : Fam w lo hi n T v cs) (hb : ∀ g, lo ≤ g → g < hi → g < w.heap.size → w'.heap[g]? = w.heap[g]?) : Fam w' lo hi n T v cs :=
  ⟨fun k hk => owns_block (h.own k hk) fun g hg => by obtain ⟨a, b, c⟩ := h.blk hk hg; exact hb g a b c, h.lt, h.ap⟩
theorem Fam.below (h : Fam w lo hi n T v cs) (hb : Below w.heap.size w w') : Fam w' lo hi n T v cs := h.keep fun g _ _ hg => hb.block g hg
theorem Fam.chg {lo' hi' : Nat} (h : Fam w lo hi n T v cs) (hc : Chg lo' hi' w w') (hd : hi ≤ lo' ∨ hi' ≤ lo) : Fam w' lo hi n T v cs := h.keep fun g h1 h2 h3 => hc.block g h3 (by omega)
theorem Fam.wide (h : Fam w lo hi n T v cs) {lo' hi' : Nat} (h1 : lo' ≤ lo) (h2 : hi ≤ hi') : Fam w lo' hi' n T v cs :=
  ⟨fun k hk => owns_mono (h.own k hk) fun g hg => by have := h.blk hk hg; omega, fun k hk g hg => by have := h.lt k hk g hg; omega, h.ap⟩
def upd {α : Type} (f : Nat → α) (k : Nat) (x : α) : Nat → α := fun i => if i = k then x else f i
theorem upd_same {α : Type} (f : Nat → α) (k : Nat) (x : α) : upd f k x k = x := by simp [upd]
theorem upd_other {α : Type} (f : Nat → α) {k i : Nat} (x : α) (h : i ≠ k) : upd f k x i = f i := by simp [upd, h]
/-- One row's content changes in its own block. -/
theorem Fam.set (h : Fam w lo hi n T v cs) {k : Nat} (hk : k < n) {ds : List Value} (hg : w.grownBy w' (v k).ownBlock) (ho : w'.ownsRow lo (T k) 1 (v k) ds.length ds) : Fam w' lo hi n T v (upd cs k ds) := by
  refine ⟨fun j hj => ?_, h.lt, h.ap⟩
  by_cases e : j = k
  · subst e; rw [upd_same]; exact ho
  · rw [upd_other _ _ e]
    refine owns_block (h.own j hj) fun g hjg => hg.block g (owns_lt (h.own j hj) hjg).2 fun e2 => ?_
    rcases h.ap j k hj hk e with h1 | h1
    · rw [hjg] at h1; cases h1
    · exact h1 (by rw [hjg, ← e2])
/-- A row is put in another's place: nothing's, or a block of its own. -/
theorem Fam.put (h : Fam w lo hi n T v cs) {k : Nat} {u : Value} {ds : List Value} (ho : w.ownsRow lo (T k) 1 u ds.length ds) {hi' : Nat} (hh : hi ≤ hi') (hu : ∀ g, u.ownBlock = some g → (hi ≤ g ∧ g < hi') ∨ (v k).ownBlock = some g) (hk : k < n) : Fam w lo hi' n T (upd v k u) (upd cs k ds) := by
  have far : ∀ j, j < n → j ≠ k → ∀ g, u.ownBlock = some g → (v j).ownBlock ≠ some g := fun j hj e g hg hjg => by
    rcases hu g hg with h1 | h1
    · have := h.lt j hj g hjg; omega
    · rcases h.ap j k hj hk e with h2 | h2
      · rw [h2] at hjg; cases hjg
      · exact h2 (by rw [hjg, h1])
  refine ⟨fun j hj => ?_, fun j hj g hg => ?_, fun i j hi hj hij => ?_⟩
  · by_cases e : j = k
    · subst e; rw [upd_same, upd_same]; exact ho
    · rw [upd_other _ _ e, upd_other _ _ e]; exact h.own j hj
  · by_cases e : j = k
    · subst e; rw [upd_same] at hg
      rcases hu g hg with h1 | h1
      · exact h1.2
      · have := h.lt j hj g h1; omega
    · rw [upd_other _ _ e] at hg; have := h.lt j hj g hg; omega
  · by_cases e : i = k
    · have e' : j ≠ k := fun h => hij (by omega)
      subst e; rw [upd_same, upd_other _ _ e']
      cases hq : u.ownBlock with
      | none => exact .inl rfl
      | some g => exact .inr fun e2 => far j hj e' g hq e2.symm
    · by_cases e' : j = k
      · subst e'; rw [upd_same, upd_other _ _ e]
        cases hq : (v i).ownBlock with
        | none => exact .inl rfl
        | some g => exact .inr fun e2 => far i hi e g e2.symm hq
      · rw [upd_other _ _ e, upd_other _ _ e']; exact h.ap i j hi hj hij
end
end Go.Proofs.Ytkbphmnacdpdgaa
namespace Go.Proofs.Ytkbphmnacdpdgaa
open Go.RowKit Ph

theorem c_szIntS_yes (a : Option Addr) (n c : Nat) (left : Int) (w : World) (h1 : left ≤ 1048576) (h : (n : Int) ≤ left) : Calls Try.prog 76 #[.slice a n c, .int .i64 left] w fun e w' => e = .returned (.int .i64 (left - n)) ∧ w = w' := by
  have h2 : ¬ left - (n : Int) < 0 := by omega
  go_enter Try.func76, Try.ntmps76
  go_wp2
  go_ret
  exact ⟨rfl, rfl⟩
theorem c_szIntS_no (a : Option Addr) (n c : Nat) (left : Int) (w : World) (h0 : 0 ≤ left) (h1 : left ≤ 1048576) (hn : n ≤ 9223372036854775807) (h : left < (n : Int)) : Calls Try.prog 76 #[.slice a n c, .int .i64 left] w fun e w' => e = .returned (.int .i64 (-1)) ∧ w = w' := by
  have h2 : left - (n : Int) < 0 := by omega
  go_enter Try.func76, Try.ntmps76
  go_wp2
  go_ret
  exact ⟨rfl, rfl⟩
/-- How many numbers the first k rows hold. -/
def sumL (fs : List (List Int)) (k : Nat) : Nat := ((fs.take k).map List.length).sum
theorem sumL_succ {fs : List (List Int)} {k : Nat} (h : k < fs.length) : sumL fs (k + 1) = sumL fs k + (fs.getD k []).length := by
  have e : fs.getD k [] = fs[k] := by simp [List.getD, List.getElem?_eq_getElem h]
  unfold sumL
  rw [List.take_succ_eq_append_getElem h, List.map_append, List.sum_append, e]; simp
theorem sumL_zero (fs : List (List Int)) : sumL fs 0 = 0 := by simp [sumL]
theorem sumL_mono (fs : List (List Int)) {j k : Nat} (h : j ≤ k) : sumL fs j ≤ sumL fs k := by
  induction k with
  | zero => obtain rfl : j = 0 := by omega
            exact Nat.le_refl _
  | succ k ih =>
    by_cases e : j = k + 1
    · subst e; exact Nat.le_refl _
    · have := ih (by omega)
      by_cases hk : k < fs.length
      · rw [sumL_succ hk]; omega
      · have : sumL fs (k + 1) = sumL fs k := by unfold sumL; rw [List.take_of_length_le (by omega), List.take_of_length_le (by omega)]
        omega
theorem sumL_le (fs : List (List Int)) (j : Nat) : sumL fs j ≤ sumL fs fs.length := by
  by_cases h : j ≤ fs.length
  · exact sumL_mono fs h
  · unfold sumL; rw [List.take_of_length_le (by omega), List.take_of_length_le (by omega)]; exact Nat.le_refl _
/-- How much a list of lists weighs. -/
def wt (fs : List (List Int)) : Nat := fs.length + sumL fs fs.length
/-- The rows' lengths fit. -/
def Fit (fs : List (List Int)) : Prop := ∀ k, k < fs.length → (fs.getD k []).length ≤ 9223372036854775807
set_option maxHeartbeats 1600000 in
theorem c_szIntSS_yes (v : Value) (fs : List (List Int)) (left : Int) (w : World) (hA : RowsAt w v fs) (h1 : left ≤ 1048576) (h : (wt fs : Int) ≤ left) : Calls Try.prog 75 #[v, .int .i64 left] w fun e w' => e = .returned (.int .i64 (left - wt fs)) ∧ w = w' := by
  have HA := Lib.hid hA
  obtain ⟨fa, fc, rfl⟩ := hA.shape
  clear hA
  have hsl := sumL_le fs
  have hw : (wt fs : Int) = (fs.length : Int) + (sumL fs fs.length : Int) := by unfold wt; omega
  have hss : ∀ k, k < fs.length → sumL fs (k + 1) = sumL fs k + (fs.getD k []).length := fun k hk => sumL_succ hk
  rw [hw] at h ⊢
  generalize hn : fs.length = n at *
  have HN := Lib.hid hn; have HSL := Lib.hid hsl; have HSS := Lib.hid hss
  clear hn hsl hw hss
  generalize hT : sumL fs n = Tt at *
  have HT := Lib.hid hT
  clear hT
  have i0 : ¬ left - (n : Int) < 0 := by omega
  go_enter Try.func75, Try.ntmps75
  go_wp2
  go_loop [1, 5] (fun l i => ∃ k : Nat, k ≤ n ∧ i = .int .i64 k ∧ ∃ s : Nat, Hid (sumL fs k = s) ∧ s ≤ Tt ∧ l = .int .i64 (left - n - s)) (fun _ i => n - (intOf i).toNat)
  case atStart => exact ⟨0, Nat.zero_le _, rfl, 0, sumL_zero fs, Nat.zero_le _, by simp⟩
  case round =>
    obtain ⟨k, hk, rfl, s, hs, hsT, rfl⟩ := hrel
    by_cases hlt : k < n
    · obtain ⟨gf, of, rfl, hcf⟩ := HA.out.at' (by omega)
      obtain ⟨u, qf, hu⟩ := hcf k hlt
      obtain ⟨ua, uc, rfl⟩ := hu.shape
      have e1 := HSS.out k hlt
      have e2 := HSL.out (k + 1)
      have i1 : (k : Int) < (n : Int) := by omega
      rw [hs.out] at e1
      rw [e1] at e2
      have E1 := Lib.hid e1
      clear hcf hu e1
      generalize (fs.getD k []).length = m at *
      have i2 : ¬ left - (n : Int) - (s : Int) - (m : Int) < 0 := by omega
      have J : Hid ((m : Int) ≤ left - (n : Int) - (s : Int)) := by unfold Hid; omega
      have J1 : Hid (left - (n : Int) - (s : Int) ≤ 1048576) := by unfold Hid; omega
      go_wp2_with (go_at_call 76; refine (c_szIntS_yes ua m uc (left - n - s) _ J1.out J.out).mono ?_; rintro e w1 ⟨rfl, rfl⟩)
      go_round
      case rel => exact ⟨k + 1, by omega, by go_num, s + m, E1.out, by omega, by congr 1; omega⟩
      case measure => simp [intOf]; omega
    · obtain rfl : k = n := by omega
      obtain rfl : Tt = s := HT.out.symm.trans hs.out
      go_wp2
      go_ret
      exact ⟨r_i (by omega), rfl⟩
set_option maxHeartbeats 1600000 in
theorem c_szIntSS_no (v : Value) (fs : List (List Int)) (left : Int) (w : World) (hA : RowsAt w v fs) (hf : Fit fs) (hl : fs.length ≤ 9223372036854775807) (h0 : 0 ≤ left) (h1 : left ≤ 1048576) (h : left < (wt fs : Int)) : Calls Try.prog 75 #[v, .int .i64 left] w fun e w' => e = .returned (.int .i64 (-1)) ∧ w = w' := by
  have HA := Lib.hid hA
  obtain ⟨fa, fc, rfl⟩ := hA.shape
  clear hA
  have hw : (wt fs : Int) = (fs.length : Int) + (sumL fs fs.length : Int) := by unfold wt; omega
  have hss : ∀ k, k < fs.length → sumL fs (k + 1) = sumL fs k + (fs.getD k []).length := fun k hk => sumL_succ hk
  have HF : Hid (∀ k, k < fs.length → (fs.getD k []).length ≤ 9223372036854775807) := hf
  rw [hw] at h
  clear hf hw
  generalize hn : fs.length = n at *
  have HN := Lib.hid hn; have HSS := Lib.hid hss
  clear hn hss
  generalize hT : sumL fs n = Tt at *
  have HT := Lib.hid hT
  clear hT
  by_cases i0 : left - (n : Int) < 0
  · clear HA HN HSS HT HF
    go_enter Try.func75, Try.ntmps75
    go_wp2
    go_ret
    exact ⟨rfl, rfl⟩
  · go_enter Try.func75, Try.ntmps75
    go_wp2
    go_loop [1, 5] (fun l i => ∃ k : Nat, k ≤ n ∧ i = .int .i64 k ∧ ∃ s : Nat, Hid (sumL fs k = s) ∧ (s : Int) ≤ left - n ∧ l = .int .i64 (left - n - s)) (fun _ i => n - (intOf i).toNat)
    case atStart => exact ⟨0, Nat.zero_le _, rfl, 0, sumL_zero fs, by omega, by simp⟩
    case round =>
      obtain ⟨k, hk, rfl, s, hs, hsT, rfl⟩ := hrel
      by_cases hlt : k < n
      · obtain ⟨gf, of, rfl, hcf⟩ := HA.out.at' (by omega)
        obtain ⟨u, qf, hu⟩ := hcf k hlt
        obtain ⟨ua, uc, rfl⟩ := hu.shape
        have e1 := HSS.out k hlt
        have e2 := HF.out k hlt
        have i1 : (k : Int) < (n : Int) := by omega
        rw [hs.out] at e1
        have E1 := Lib.hid e1
        clear hcf hu e1
        generalize (fs.getD k []).length = m at *
        have J1 : Hid (left - (n : Int) - (s : Int) ≤ 1048576) := by unfold Hid; omega
        have J2 : Hid (0 ≤ left - (n : Int) - (s : Int)) := by unfold Hid; omega
        have E2 := Lib.hid e2
        by_cases i2 : left - (n : Int) - (s : Int) - (m : Int) < 0
        · have J : Hid (left - (n : Int) - (s : Int) < (m : Int)) := by unfold Hid; omega
          clear e2
          go_wp2_with (go_at_call 76; refine (c_szIntS_no ua m uc (left - n - s) _ J2.out J1.out E2.out J.out).mono ?_; rintro e w1 ⟨rfl, rfl⟩)
          go_ret
          exact ⟨rfl, rfl⟩
        · have J : Hid ((m : Int) ≤ left - (n : Int) - (s : Int)) := by unfold Hid; omega
          go_wp2_with (go_at_call 76; refine (c_szIntS_yes ua m uc (left - n - s) _ J1.out J.out).mono ?_; rintro e w1 ⟨rfl, rfl⟩)
          go_round
          case rel => exact ⟨k + 1, by omega, by go_num, s + m, E1.out, by omega, by congr 1; omega⟩
          case measure => simp [intOf]; omega
      · obtain rfl : k = n := by omega
        obtain rfl : Tt = s := HT.out.symm.trans hs.out
        exfalso
        omega
end Go.Proofs.Ytkbphmnacdpdgaa
namespace Go.Proofs.Ytkbphmnacdpdgaa
open Go.RowKit Ph

theorem Fam.congr {w : World} {lo hi n : Nat} {T : Nat → TypeId} {v v' : Nat → Value} {cs cs' : Nat → List Value} (h : Fam w lo hi n T v cs) (hv : ∀ k, k < n → v' k = v k) (hc : ∀ k, k < n → cs' k = cs k) : Fam w lo hi n T v' cs' :=
  ⟨fun k hk => by rw [hv k hk, hc k hk]; exact h.own k hk, fun k hk => by rw [hv k hk]; exact h.lt k hk, fun j k hj hk => by rw [hv j hj, hv k hk]; exact h.ap j k hj hk⟩
theorem Fam.grow {w : World} {lo hi n : Nat} {T : Nat → TypeId} {v : Nat → Value} {cs : Nat → List Value} (h : Fam w lo hi n T v cs) {u : Value} {ds : List Value} (ho : w.ownsRow lo (T n) 1 u ds.length ds) {hi' : Nat} (hh : hi ≤ hi') (hu : ∀ g, u.ownBlock = some g → hi ≤ g ∧ g < hi') : Fam w lo hi' (n + 1) T (upd v n u) (upd cs n ds) := by
  refine ⟨fun j hj => ?_, fun j hj g hg => ?_, fun i j hi hj hij => ?_⟩
  · by_cases e : j = n
    · subst e; rw [upd_same, upd_same]; exact ho
    · rw [upd_other _ _ e, upd_other _ _ e]; exact h.own j (by omega)
  · by_cases e : j = n
    · subst e; rw [upd_same] at hg; exact (hu g hg).2
    · rw [upd_other _ _ e] at hg; have := h.lt j (by omega) g hg; omega
  · by_cases e : i = n
    · have e' : j ≠ n := fun h => hij (by omega)
      subst e; rw [upd_same, upd_other _ _ e']
      cases hq : u.ownBlock with
      | none => exact .inl rfl
      | some g => exact .inr fun e2 => by have := h.lt j (by omega) g e2.symm; have := hu g hq; omega
    · by_cases e' : j = n
      · subst e'; rw [upd_same, upd_other _ _ e]
        cases hq : (v i).ownBlock with
        | none => exact .inl rfl
        | some g => exact .inr fun e2 => by have := h.lt i (by omega) g hq; have := hu g e2.symm; omega
      · rw [upd_other _ _ e, upd_other _ _ e']; exact h.ap i j (by omega) (by omega) hij

/-- A row of bools that the call itself has made. -/
def OwnBs (w : World) (B : Nat) (v : Value) (bs : List Bool) : Prop := w.ownsRow B 4 1 v bs.length (bs.map Value.bool)
theorem owns_bools {w : World} {B : Nat} {v : Value} {bs : List Bool} (h : OwnBs w B v bs) : BoolsAt w v bs := by
  have h' := h
  obtain ⟨h1, h2⟩ := h
  rcases h2 with ⟨rfl, h2⟩ | ⟨g, cap, cur, rfl, hg, hh, _⟩
  · exact ⟨none, 0, by rw [h2], fun h => by omega⟩
  · refine ⟨_, cap, rfl, fun _ => ⟨g, 0, rfl, fun i hi => ?_⟩⟩
    rw [Nat.zero_add, World.ownsRow.cellAt h' i (by omega), List.getElem?_map, List.getElem?_eq_getElem hi]
    simp [List.getD, List.getElem?_eq_getElem hi]
theorem Own.nil (w : World) (B : Nat) : Own w B (.slice none 0 0) [] := ⟨rfl, .inl ⟨rfl, rfl⟩⟩
theorem Own.shape' {w : World} {B : Nat} {v : Value} {bs : List Int} (h : Own w B v bs) : (v = .slice none 0 0 ∧ bs = []) ∨ ∃ g c, v = .slice (some ⟨g, 0, none⟩) bs.length c := by
  rcases h.2 with ⟨h1, h2⟩ | ⟨g, cap, cur, h1, _⟩
  · exact .inl ⟨h1, List.eq_nil_of_length_eq_zero h2⟩
  · exact .inr ⟨g, cap, h1⟩

def tyH : Nat → TypeId
  | 0 => 26
  | 1 => 4
  | _ + 2 => 3
def vH (a b c : Value) (us : Nat → Value) : Nat → Value
  | 0 => a
  | 1 => b
  | 2 => c
  | i + 3 => us i
def cH (us : Nat → Value) (h : H) : Nat → List Value
  | 0 => (List.range h.f.length).map us
  | 1 => h.l.map Value.bool
  | 2 => h.r.map (Value.int .i64)
  | i + 3 => (h.f.getD i []).map (Value.int .i64)
def FamH (w : World) (lo hi : Nat) (a b c : Value) (us : Nat → Value) (h : H) : Prop := Fam w lo hi (h.f.length + 3) tyH (vH a b c us) (cH us h)
def OwnH (w : World) (lo hi : Nat) (a b c : Value) (h : H) : Prop := ∃ us, FamH w lo hi a b c us h
section
variable {w w' : World} {lo hi : Nat} {a b c : Value} {us : Nat → Value} {h : H}
theorem FamH.outer (k : FamH w lo hi a b c us h) : w.ownsRow lo 26 1 a h.f.length ((List.range h.f.length).map us) := by
  have := k.own 0 (by omega)
  simp only [tyH, vH, cH, List.length_map, List.length_range] at this
  exact this
theorem FamH.live (k : FamH w lo hi a b c us h) : OwnBs w lo b h.l := by
  have := k.own 1 (by omega)
  simp only [tyH, vH, cH, List.length_map] at this
  exact this
theorem FamH.roots (k : FamH w lo hi a b c us h) : Own w lo c h.r := by
  have := k.own 2 (by omega)
  simp only [tyH, vH, cH, List.length_map] at this
  exact this
theorem FamH.row (k : FamH w lo hi a b c us h) {i : Nat} (hi : i < h.f.length) : Own w lo (us i) (h.f.getD i []) := by
  have := k.own (i + 3) (by omega)
  simp only [tyH, vH, cH, List.length_map] at this
  exact this
theorem FamH.cell (k : FamH w lo hi a b c us h) {g cap i : Nat} (ha : a = .slice (some ⟨g, 0, none⟩) h.f.length cap) (hi : i < h.f.length) : w.cell? ⟨g, i, none⟩ = some (us i) ∧ w.frozen? ⟨g, i, none⟩ = false := by
  have o := k.outer
  subst ha
  refine ⟨?_, o.frozenAt i⟩
  rw [o.cellAt i (by omega)]
  simp [hi]
theorem FamH.shape (k : FamH w lo hi a b c us h) : (a = .slice none 0 0 ∧ h.f = []) ∨ ∃ g cap, a = .slice (some ⟨g, 0, none⟩) h.f.length cap := by
  rcases k.outer.2 with ⟨h1, h2⟩ | ⟨g, cap, cur, h1, _⟩
  · exact .inl ⟨h1, List.eq_nil_of_length_eq_zero h2⟩
  · exact .inr ⟨g, cap, h1⟩
theorem FamH.reads (k : FamH w lo hi a b c us h) : HeapAt w a b c h := by
  refine ⟨?_, owns_bools k.live, k.roots.ints⟩
  rcases k.shape with ⟨h1, h2⟩ | ⟨g, cap, h1⟩
  · exact ⟨none, 0, by rw [h1, h2]; rfl, fun h => by rw [h2] at h; simp at h⟩
  · exact ⟨_, cap, h1, fun _ => ⟨g, 0, rfl, fun i hi => ⟨us i, by rw [Nat.zero_add]; exact (k.cell h1 hi).1, (k.row hi).ints⟩⟩⟩
theorem OwnH.reads (k : OwnH w lo hi a b c h) : HeapAt w a b c h := by obtain ⟨us, k⟩ := k; exact k.reads
theorem OwnH.below (k : OwnH w lo hi a b c h) (hb : Below w.heap.size w w') : OwnH w' lo hi a b c h := by obtain ⟨us, k⟩ := k; exact ⟨us, Fam.below k hb⟩
theorem OwnH.chg {lo' hi' : Nat} (k : OwnH w lo hi a b c h) (hc : Chg lo' hi' w w') (hd : hi ≤ lo' ∨ hi' ≤ lo) : OwnH w' lo hi a b c h := by obtain ⟨us, k⟩ := k; exact ⟨us, Fam.chg k hc hd⟩
theorem OwnH.wide (k : OwnH w lo hi a b c h) {lo' hi' : Nat} (h1 : lo' ≤ lo) (h2 : hi ≤ hi') : OwnH w lo' hi' a b c h := by obtain ⟨us, k⟩ := k; exact ⟨us, Fam.wide k h1 h2⟩
theorem OwnH.nil (w : World) (lo hi : Nat) : OwnH w lo hi (.slice none 0 0) (.slice none 0 0) (.slice none 0 0) ⟨[], [], []⟩ := by
  refine ⟨fun _ => .slice none 0 0, fun k hk => ?_, fun k hk g hg => ?_, fun j k hj _ _ => ?_⟩
  · match k, hk with
    | 0, _ => exact ⟨rfl, .inl ⟨rfl, rfl⟩⟩
    | 1, _ => exact ⟨rfl, .inl ⟨rfl, rfl⟩⟩
    | 2, _ => exact ⟨rfl, .inl ⟨rfl, rfl⟩⟩
  · match k, hk with
    | 0, _ => cases hg
    | 1, _ => cases hg
    | 2, _ => cases hg
  · match j, hj with
    | 0, _ => exact .inl rfl
    | 1, _ => exact .inl rfl
    | 2, _ => exact .inl rfl
theorem getD_setL {fs : List (List Int)} {i j : Nat} {zs : List Int} (hi : i < fs.length) : (fs.set i zs).getD j [] = if j = i then zs else fs.getD j [] := by
  by_cases e : j = i
  · subst e; simp [List.getD, hi]
  · have : ¬ i = j := fun h => e h.symm
    simp [List.getD, e, this]
/-- A row's content changes where it lies. -/
theorem FamH.setRow (k : FamH w lo hi a b c us h) {i : Nat} (hi0 : i < h.f.length) {zs : List Int} (hg : w.grownBy w' (us i).ownBlock) (ho : Own w' lo (us i) zs) : FamH w' lo hi a b c us ⟨h.f.set i zs, h.l, h.r⟩ := by
  have := Fam.set k (k := i + 3) (by omega) (ds := zs.map (Value.int .i64)) hg (by simp only [tyH, vH, List.length_map]; exact ho)
  unfold FamH
  rw [List.length_set]
  refine this.congr (fun _ _ => rfl) fun j hj => ?_
  match j with
  | 0 => rw [upd_other _ _ (by omega)]; simp [cH]
  | 1 => rw [upd_other _ _ (by omega)]; rfl
  | 2 => rw [upd_other _ _ (by omega)]; rfl
  | j + 3 =>
    by_cases e : j = i
    · subst e; rw [upd_same]; simp only [cH]; rw [getD_setL hi0, if_pos rfl]
    · rw [upd_other _ _ (by omega)]; simp only [cH]; rw [getD_setL hi0, if_neg e]
theorem FamH.setRoots (k : FamH w lo hi a b c us h) {zs : List Int} (hg : w.grownBy w' c.ownBlock) (ho : Own w' lo c zs) : FamH w' lo hi a b c us ⟨h.f, h.l, zs⟩ := by
  have := Fam.set k (k := 2) (by omega) (ds := zs.map (Value.int .i64)) hg (by simp only [tyH, vH, List.length_map]; exact ho)
  refine this.congr (fun _ _ => rfl) fun j hj => ?_
  match j with
  | 0 => rw [upd_other _ _ (by omega)]; rfl
  | 1 => rw [upd_other _ _ (by omega)]; rfl
  | 2 => rw [upd_same]; rfl
  | j + 3 => rw [upd_other _ _ (by omega)]; rfl
theorem FamH.putRoots (k : FamH w lo hi a b c us h) {c' : Value} {zs : List Int} (ho : Own w lo c' zs) {hi' : Nat} (hh : hi ≤ hi') (hu : ∀ g, c'.ownBlock = some g → (hi ≤ g ∧ g < hi') ∨ c.ownBlock = some g) : FamH w lo hi' a b c' us ⟨h.f, h.l, zs⟩ := by
  have := Fam.put k (k := 2) (u := c') (ds := zs.map (Value.int .i64)) (by simp only [tyH, List.length_map]; exact ho) hh hu (by omega)
  refine this.congr (fun j hj => ?_) fun j hj => ?_
  · match j with
    | 0 => rw [upd_other _ _ (by omega)]; rfl
    | 1 => rw [upd_other _ _ (by omega)]; rfl
    | 2 => rw [upd_same]; rfl
    | j + 3 => rw [upd_other _ _ (by omega)]; rfl
  · match j with
    | 0 => rw [upd_other _ _ (by omega)]; rfl
    | 1 => rw [upd_other _ _ (by omega)]; rfl
    | 2 => rw [upd_same]; rfl
    | j + 3 => rw [upd_other _ _ (by omega)]; rfl
theorem range_set (us : Nat → Value) (n i : Nat) (u : Value) : ((List.range n).map us).set i u = (List.range n).map (upd us i u) := by
  apply List.ext_getElem?
  intro j
  rw [List.getElem?_set]
  by_cases hj : j < n
  · by_cases e : i = j
    · subst e; simp [hj, upd]
    · have : ¬ j = i := fun h => e h.symm
      simp [hj, e, upd, this]
  · have h1 : ((List.range n).map (upd us i u))[j]? = none := by simp; omega
    have h2 : ((List.range n).map us)[j]? = none := by simp; omega
    rw [h1, h2]
    split
    · split
      · rename_i p q; simp at q; omega
      · rfl
    · rfl
/-- Another list for a row: the outer list's cell is stored. -/
theorem FamH.putRow (k : FamH w lo hi a b c us h) {i : Nat} (hi0 : i < h.f.length) {u : Value} {zs : List Int} (ho : Own w lo u zs) {hi' : Nat} (hh : hi ≤ hi') (hu : ∀ g, u.ownBlock = some g → (hi ≤ g ∧ g < hi') ∨ (us i).ownBlock = some g) {g cap : Nat} (ha : a = .slice (some ⟨g, 0, none⟩) h.f.length cap) :
    FamH (w.setCell ⟨g, i, none⟩ u) lo hi' a b c (upd us i u) ⟨h.f.set i zs, h.l, h.r⟩ ∧ w.grownBy (w.setCell ⟨g, i, none⟩ u) (some g) := by
  subst ha
  obtain ⟨s1, s2⟩ := k.outer.stored i u
  refine ⟨?_, s2⟩
  have k1 := Fam.put k (k := i + 3) (u := u) (ds := zs.map (Value.int .i64)) (by simp only [tyH, List.length_map]; exact ho) hh hu (by omega)
  have k2 := Fam.set k1 (k := 0) (by omega) (ds := (List.range h.f.length).map (upd us i u)) (w' := w.setCell ⟨g, i, none⟩ u) (by rw [upd_other _ _ (by omega)]; exact s2) (by rw [upd_other _ _ (by omega)]; simp only [tyH, vH, List.length_map, List.length_range]; rw [← range_set]; exact s1)
  unfold FamH
  rw [List.length_set]
  refine k2.congr (fun j hj => ?_) fun j hj => ?_
  · match j with
    | 0 => rw [upd_other _ _ (by omega)]; rfl
    | 1 => rw [upd_other _ _ (by omega)]; rfl
    | 2 => rw [upd_other _ _ (by omega)]; rfl
    | j + 3 =>
      by_cases e : j = i
      · subst e; rw [upd_same]; simp only [vH]; rw [upd_same]
      · rw [upd_other _ _ (by omega)]; simp only [vH]; rw [upd_other _ _ e]
  · match j with
    | 0 => rw [upd_same]; simp [cH]
    | 1 => rw [upd_other _ _ (by omega), upd_other _ _ (by omega)]; rfl
    | 2 => rw [upd_other _ _ (by omega), upd_other _ _ (by omega)]; rfl
    | j + 3 =>
      rw [upd_other _ _ (by omega)]
      by_cases e : j = i
      · subst e; rw [upd_same]; simp only [cH]; rw [getD_setL hi0, if_pos rfl]
      · rw [upd_other _ _ (by omega)]; simp only [cH]; rw [getD_setL hi0, if_neg e]
end
end Go.Proofs.Ytkbphmnacdpdgaa
namespace Go.Proofs.Ytkbphmnacdpdgaa
open Go.RowKit Ph

theorem info_ints : (Try.prog.info? 26).map (fun i => (i.zero, i.size, i.bytes)) = some (some (.slice none 0 0), 1, 24) := by kernel_rfl
/-- What lies in a list of empty rows of which the first j have been filled. -/
def fillF (zs : List (List Int)) (j : Nat) : List (List Int) := zs.take j ++ List.replicate (zs.length - j) []
theorem fillF_length (zs : List (List Int)) {j : Nat} (h : j ≤ zs.length) : (fillF zs j).length = zs.length := by simp [fillF]; omega
theorem fillF_zero (zs : List (List Int)) : fillF zs 0 = List.replicate zs.length [] := by simp [fillF]
theorem fillF_all (zs : List (List Int)) : fillF zs zs.length = zs := by simp [fillF]
theorem fillF_set (zs : List (List Int)) {j : Nat} (h : j < zs.length) : (fillF zs j).set j (zs.getD j []) = fillF zs (j + 1) := by
  unfold fillF
  have e : List.replicate (zs.length - j) ([] : List Int) = [] :: List.replicate (zs.length - (j + 1)) [] := by
    rw [show zs.length - j = (zs.length - (j + 1)) + 1 by omega, List.replicate_succ]
  rw [e, List.set_append_right _ _ (by simp; omega), List.length_take, Nat.min_eq_left (by omega), Nat.sub_self, List.set_cons_zero, List.take_succ_eq_append_getElem h]
  have e2 : zs.getD j [] = zs[j] := by simp [List.getD, List.getElem?_eq_getElem h]
  rw [e2, List.append_assoc]
  rfl
theorem getD_rep (n i : Nat) : (List.replicate n ([] : List Int)).getD i [] = [] := by
  by_cases h : i < n
  · simp [List.getD, h]
  · simp [List.getD, h]
theorem FamH.made {w : World} {lo hi g n : Nat} (ho : w.ownsRow lo 26 1 (.slice (some ⟨g, 0, none⟩) n n) n (List.replicate n (.slice none 0 0))) (hg : g < hi) : FamH w lo hi (.slice (some ⟨g, 0, none⟩) n n) (.slice none 0 0) (.slice none 0 0) (fun _ => .slice none 0 0) ⟨List.replicate n [], [], []⟩ := by
  have e0 : (List.range n).map (fun _ : Nat => Value.slice none 0 0) = List.replicate n (.slice none 0 0) := by
    apply List.ext_getElem?
    intro j
    by_cases h : j < n <;> simp [h]
  refine ⟨fun k hk => ?_, fun k hk g' hg' => ?_, fun j k hj hk hjk => ?_⟩
  · match k with
    | 0 => simp only [tyH, vH, cH, List.length_map, List.length_range, List.length_replicate]; rw [e0]; exact ho
    | 1 => exact ⟨rfl, .inl ⟨rfl, rfl⟩⟩
    | 2 => exact ⟨rfl, .inl ⟨rfl, rfl⟩⟩
    | k + 3 => simp only [tyH, vH, cH]; rw [getD_rep]; exact ⟨rfl, .inl ⟨rfl, rfl⟩⟩
  · match k with
    | 0 => simp only [vH, Value.ownBlock, Option.some.injEq] at hg'; omega
    | 1 => cases hg'
    | 2 => cases hg'
    | k + 3 => cases hg'
  · match j, k with
    | 0, 0 => exact absurd rfl hjk
    | 0, 1 => exact .inr (by simp [vH, Value.ownBlock])
    | 0, 2 => exact .inr (by simp [vH, Value.ownBlock])
    | 0, k + 3 => exact .inr (by simp [vH, Value.ownBlock])
    | 1, _ => exact .inl rfl
    | 2, _ => exact .inl rfl
    | j + 3, _ => exact .inl rfl
set_option maxHeartbeats 1600000 in
theorem c_toIntSS (v : Value) (fs : List (List Int)) (w : World) (hA : RowsAt w v fs) (hm : wt fs ≤ 1048576) :
    Calls Try.prog 77 #[v] w fun e w' => ∃ v', e = .returned v' ∧ OwnH w' w.heap.size w'.heap.size v' (.slice none 0 0) (.slice none 0 0) ⟨fs, [], []⟩ ∧ Below w.heap.size w w' := by
  obtain ⟨i0, hi, hz0, hz1, hz2⟩ := info_parts info_ints
  obtain ⟨a, ca, rfl⟩ := hA.shape
  have HM : Hid (∀ j, j < fs.length → (fs.getD j []).length ≤ 1048576) := fun j hj => by
    have h1 := sumL_succ hj
    have h2 := sumL_le fs (j + 1)
    unfold wt at hm
    omega
  have hm' : fs.length ≤ 1048576 := by unfold wt at hm; omega
  clear hm
  generalize hn : fs.length = n at *
  have HN := Lib.hid hn; clear hn
  have HA := Lib.hid hA; clear hA
  go_enter Try.func77, Try.ntmps77
  go_wp2_with (refine wpList_make_full _ rfl _ _ 25 rfl w.heap.size 26 i0 (.slice none 0 0) 1 Try.underlying25 hi hz0 hz1 .i64 .i64 _ _ n rfl rfl rfl rfl (by rw [hz2]; omega) (by unfold maxLen; omega) (Nat.le_refl _) ?_; intro w1 hown hgr; rw [Nat.mul_one, show (Value.slice none 0 0).cells = #[.slice none 0 0] from rfl, toList_madeCells_one] at hown; have hb := (Below.refl w.heap.size w).grown hgr (Nat.le_refl _) (fun k hk => by cases hk); have HO := Lib.hid hown; clear hown hgr)
  go_loopw [4] (fun i wr => ∃ j : Nat, j ≤ n ∧ i = .int .i64 j ∧ (∃ us, FamH wr w.heap.size wr.heap.size (.slice (some ⟨w.heap.size, 0, none⟩) n n) (.slice none 0 0) (.slice none 0 0) us ⟨fillF fs j, [], []⟩) ∧ Below w.heap.size w wr) (fun i _ => n - (intOf i).toNat)
  case atStart =>
    refine ⟨0, Nat.zero_le _, rfl, ⟨fun _ => .slice none 0 0, ?_⟩, hb⟩
    rw [fillF_zero, HN.out]
    exact FamH.made HO.out (owns_lt HO.out rfl).2
  case round =>
    obtain ⟨j, hj, rfl, ⟨us, hfam⟩, hbr⟩ := hrel
    by_cases hlt : j < n
    · obtain ⟨b, off, ha, hc⟩ := HA.out.at' (by omega)
      obtain ⟨u, hq, hu⟩ := hc j hlt
      have q := cellBelow hbr (Nat.le_refl _) hq
      have hu' := Lib.hid (hu.below hbr)
      have hlu := Lib.hid (HM.out j hlt)
      have hjl : j < fs.length := by rw [HN.out]; exact hlt
      have hfl : (fillF fs j).length = n := by rw [fillF_length fs (by omega), HN.out]
      have hfs := Lib.hid (fillF_set fs hjl)
      have HF := Lib.hid hfam; have HBR := Lib.hid hbr; have HFL := Lib.hid hfl
      clear hc hq hu hfam hbr hjl hfl
      generalize fs.getD j [] = zs at *
      subst ha
      go_wp2_with fail
      refine (c_toIntS u zs _ hu'.out hlu.out).mono ?_
      rintro e w2 ⟨u2, rfl, ho2, hb2⟩
      have F2 := Fam.below HF.out hb2
      have F2' : FamH w2 w.heap.size wr.heap.size (.slice (some ⟨w.heap.size, 0, none⟩) n n) (.slice none 0 0) (.slice none 0 0) us ⟨fillF fs j, [], []⟩ := F2
      have hsz : w.heap.size ≤ wr.heap.size := HBR.out.size
      obtain ⟨c1, f1⟩ := F2'.cell (g := w.heap.size) (cap := n) (i := j) (by simp only [HFL.out]) (by simp only [HFL.out]; exact hlt)
      obtain ⟨s1, s2⟩ := F2'.putRow (i := j) (by simp only [HFL.out]; exact hlt) (ho2.mono hsz) (hi' := w2.heap.size) hb2.size (fun g hg => .inl (owns_lt ho2 hg)) (g := w.heap.size) (cap := n) (by simp only [HFL.out])
      simp only [hfs.out] at s1
      have hszs : (w2.setCell ⟨w.heap.size, j, none⟩ u2).heap.size = w2.heap.size := World.size_setCell _ _ _
      rw [← hszs] at s1
      have S1 := Lib.hid s1
      have S2 := Lib.hid ((bst HBR.out hb2 HBR.out.size).setCell (p := ⟨w.heap.size, j, none⟩) (Nat.le_refl _) u2)
      obtain ⟨ua, uc, rfl⟩ := ho2.ints.shape
      clear s1 s2 F2 F2' ho2 hb2 hszs q
      generalize us j = x at *
      generalize zs.length = m at *
      go_wp2
      go_roundw
      case rel => exact ⟨j + 1, by omega, by go_num, ⟨_, S1.out⟩, S2.out⟩
      case measure => simp [intOf]; omega
    · obtain rfl : j = n := by omega
      go_wp2
      go_ret
      refine ⟨_, rfl, ⟨us, ?_⟩, hbr⟩
      have := hfam
      rw [← HN.out, fillF_all, HN.out] at this
      exact this
end Go.Proofs.Ytkbphmnacdpdgaa
namespace Go.Proofs.Ytkbphmnacdpdgaa
open Go.RowKit Ph

set_option maxHeartbeats 800000 in
theorem c_eqIntSS (va vb : Value) (fs : List (List Int)) (w : World) (hA : RowsAt w va fs) (hB : RowsAt w vb fs) (hm : wt fs ≤ 1048576) :
    Calls Try.prog 72 #[va, vb] w fun e w' => e = .returned (.bool true) ∧ ∃ n, w' = w.drewN n := by
  have HM : Hid (∀ j, j < fs.length → (fs.getD j []).length ≤ 9223372036854775806) := fun j hj => by
    have h1 := sumL_succ hj
    have h2 := sumL_le fs (j + 1)
    unfold wt at hm
    omega
  have hm' : fs.length ≤ 1048576 := by unfold wt at hm; omega
  obtain ⟨a, ca, rfl, hA⟩ := hA
  obtain ⟨b, cb, rfl, hB⟩ := hB
  clear hm
  generalize hn : fs.length = n at *
  clear hn
  have hbq : ((n : Int) != (n : Int)) = false := by simp
  have HCA := Lib.hid hA; have HCB := Lib.hid hB; clear hA hB
  go_enter Try.func72, Try.ntmps72
  go_wp2
  go_loopw [5] (fun i wr => ∃ k : Nat, k ≤ n ∧ i = .int .i64 k ∧ ∃ n, wr = w.drewN n) (fun i _ => n - (intOf i).toNat)
  case atStart => exact ⟨0, Nat.zero_le _, rfl, drewN_refl _⟩
  case round =>
    obtain ⟨k, hk, rfl, nd, rfl⟩ := hrel
    by_cases hlt : k < n
    · obtain ⟨ba, oa, rfl, hca⟩ := HCA.out (by omega)
      obtain ⟨bb, ob, rfl, hcb⟩ := HCB.out (by omega)
      obtain ⟨u1, q1, hu1⟩ := hca k hlt
      obtain ⟨u2, q2, hu2⟩ := hcb k hlt
      have hml := Lib.hid (HM.out k hlt)
      have i1 : (k : Int) < (n : Int) := by omega
      have U1 := Lib.hid hu1; have U2 := Lib.hid hu2
      obtain ⟨a1, x1, rfl⟩ := hu1.shape
      obtain ⟨a2, x2, rfl⟩ := hu2.shape
      clear hca hcb hu1 hu2
      have HC : Hid (∀ m, Calls Try.prog 49 #[.slice a1 (fs.getD k []).length x1, .slice a2 (fs.getD k []).length x2] ((w.drewN nd).drewN m) fun e w' => e = .returned (.bool true) ∧ ∃ n, w' = ((w.drewN nd).drewN m).drewN n) := fun m =>
        (c_eqIntS _ _ (fs.getD k []) (fs.getD k []) ((w.drewN nd).drewN m) ((U1.out.drewN nd).drewN m) ((U2.out.drewN nd).drewN m) hml.out).mono fun _ _ ⟨he, hw⟩ => ⟨he.trans (r_b (decide_eq_true rfl)), hw⟩
      clear U1 U2 hml
      generalize (fs.getD k []).length = m at *
      replace q1 : (w.drewN nd).cell? ⟨ba, oa + k, none⟩ = some (.slice a1 m x1) := q1
      replace q2 : (w.drewN nd).cell? ⟨bb, ob + k, none⟩ = some (.slice a2 m x2) := q2
      generalize hwd : w.drewN nd = wd at *
      have HWD := Lib.hid hwd; clear hwd
      go_wp2
      go_quiet ((go_at_call 49; exact Calls.quiet_of (HC.out _)))
      go_wp2
      go_roundw
      case rel => exact ⟨k + 1, by omega, by go_num, nd + nq, by rw [← HWD.out]; simp⟩
      case measure => simp [intOf]; omega
    · go_wp2
      go_ret
      exact ⟨rfl, _, rfl⟩
end Go.Proofs.Ytkbphmnacdpdgaa
namespace Go.Proofs.Ytkbphmnacdpdgaa
open Go.RowKit Ph

theorem OwnH.out {w w' : World} {lo hi : Nat} {a b c : Value} {h : H} (k : OwnH w lo hi a b c h) (hb : ∀ i, lo ≤ i → w'.heap[i]? = w.heap[i]?) : OwnH w' lo hi a b c h := by
  obtain ⟨us, k⟩ := k
  exact ⟨us, Fam.keep k fun g h1 _ _ => hb g h1⟩
theorem OwnH.cell {w : World} {lo hi : Nat} {a b c : Value} {h : H} (k : OwnH w lo hi a b c h) (p : Addr) (hp : p.block < lo) (x : Value) : OwnH (w.setCell p x) lo hi a b c h := k.out fun i hi => heap_setCell_other w p i _ (by omega)
theorem OwnH.whole {w : World} {lo hi : Nat} {a b c : Value} {h : H} (k : OwnH w lo hi a b c h) (g : Nat) (hp : g < lo) (cs : Array Value) : OwnH (w.setRow g cs) lo hi a b c h := k.out fun i hi => setRow_other w g i cs (by omega)
theorem OwnH.addRoots {w : World} {lo hi : Nat} {a b c : Value} {h : H} (k : OwnH w lo hi a b c h) {c' : Value} {zs : List Int} (ho : Own w hi c' zs) (hl : lo ≤ hi) (hs : hi ≤ w.heap.size) : OwnH w lo w.heap.size a b c' ⟨h.f, h.l, zs⟩ := by
  obtain ⟨us, k⟩ := k
  exact ⟨us, k.putRoots (owns_mono ho fun g hg => Nat.le_trans hl (owns_lt ho hg).1) hs fun g hg => .inl (owns_lt ho hg)⟩
theorem OwnH.shapes {w : World} {lo hi : Nat} {a b c : Value} {h : H} (k : OwnH w lo hi a b c h) : (∃ p q, a = .slice p h.f.length q) ∧ (∃ p q, b = .slice p h.l.length q) ∧ (∃ p q, c = .slice p h.r.length q) := ⟨k.reads.f.shape, k.reads.l.shape, k.reads.r.shape⟩
end Go.Proofs.Ytkbphmnacdpdgaa
namespace Go.Proofs.Ytkbphmnacdpdgaa
open Go.RowKit Ph

theorem Row.chg {w w' : World} {lo hi g : Nat} {T : TypeId} {cs : Array Value} (h : Row w g T cs) (hc : Chg lo hi w w') (hd : g < lo ∨ hi ≤ g) : Row w' g T cs := (hc.block g h.lt hd).trans h
theorem below_chg {B lo hi : Nat} {w w1 w2 : World} (h : Below B w w1) (k : Chg lo hi w1 w2) (hB : B ≤ lo) (hs : B ≤ w1.heap.size) : Below B w w2 :=
  ⟨k.os.trans h.os, k.tape.trans h.tape, k.output.trans h.output, Nat.le_trans h.size k.size, fun i hi => (k.block i (by omega) (.inl (by omega))).trans (h.block i hi)⟩
/-- Rows of which the first j have been marked. -/
def markF (k : Int) (fs : List (List Int)) (j : Nat) : List (List Int) := (List.range fs.length).map fun i => if i < j then upFrom (k + sumL fs i) (fs.getD i []).length else fs.getD i []
theorem markF_length (k : Int) (fs : List (List Int)) (j : Nat) : (markF k fs j).length = fs.length := by simp [markF]
theorem markF_getD (k : Int) (fs : List (List Int)) (j : Nat) {i : Nat} (h : i < fs.length) : (markF k fs j).getD i [] = if i < j then upFrom (k + sumL fs i) (fs.getD i []).length else fs.getD i [] := by
  unfold markF
  rw [List.getD, List.getElem?_map, List.getElem?_range h]
  rfl
theorem ext_getD {xs ys : List (List Int)} (hl : xs.length = ys.length) (h : ∀ i, i < xs.length → xs.getD i [] = ys.getD i []) : xs = ys := by
  apply List.ext_getElem hl
  intro i h1 h2
  have := h i h1
  simpa [List.getD, List.getElem?_eq_getElem h1, List.getElem?_eq_getElem h2] using this
theorem markF_zero (k : Int) (fs : List (List Int)) : markF k fs 0 = fs := ext_getD (markF_length k fs 0) fun i hi => by rw [markF_getD k fs 0 (by rw [markF_length] at hi; exact hi), if_neg (by omega)]
theorem markF_set (k : Int) (fs : List (List Int)) {j : Nat} (h : j < fs.length) : (markF k fs j).set j (upFrom (k + sumL fs j) (fs.getD j []).length) = markF k fs (j + 1) := by
  refine ext_getD (by rw [List.length_set, markF_length, markF_length]) fun i hi => ?_
  rw [List.length_set, markF_length] at hi
  rw [getD_setL (by rw [markF_length]; exact h), markF_getD k fs (j + 1) hi, markF_getD k fs j hi]
  by_cases e : i = j
  · subst e; rw [if_pos rfl, if_pos (by omega)]
  · rw [if_neg e]
    by_cases e2 : i < j
    · rw [if_pos e2, if_pos (by omega)]
    · rw [if_neg e2, if_neg (by omega)]
theorem FamH.shapeN {w : World} {lo hi : Nat} {a b c : Value} {us : Nat → Value} {h : H} (k : FamH w lo hi a b c us h) {n : Nat} (hn : h.f.length = n) : (a = .slice none 0 0 ∧ n = 0) ∨ ∃ g cap, a = .slice (some ⟨g, 0, none⟩) n cap := by
  rcases k.shape with ⟨h1, h2⟩ | ⟨g, cap, h1⟩
  · exact .inl ⟨h1, by rw [← hn, h2]; rfl⟩
  · exact .inr ⟨g, cap, by rw [h1, hn]⟩
set_option maxHeartbeats 1600000 in
theorem c_markIntSS (lo hi : Nat) (a b c : Value) (us : Nat → Value) (h : H) (k : Int) (w : World) (hown : FamH w lo hi a b c us h) (h0 : 0 ≤ k) (hm : k + sumL h.f h.f.length ≤ 9223372036854775806) (hl : h.f.length ≤ 9223372036854775806) :
    Calls Try.prog 73 #[a, .int .i64 k] w fun e w' => e = .returned (.int .i64 (k + sumL h.f h.f.length)) ∧ FamH w' lo hi a b c us ⟨markF k h.f h.f.length, h.l, h.r⟩ ∧ Chg lo hi w w' := by
  obtain ⟨fs, ls, rs⟩ := h
  simp only at *
  have hsl := sumL_le fs
  have hss : ∀ k, k < fs.length → sumL fs (k + 1) = sumL fs k + (fs.getD k []).length := fun k hk => sumL_succ hk
  have HO := Lib.hid hown
  have hsh := hown.shapeN (n := fs.length) rfl
  clear hown
  generalize hn : fs.length = n at *
  have HN := Lib.hid hn; have HSL := Lib.hid hsl; have HSS := Lib.hid hss
  clear hn hsl hss
  generalize hT : sumL fs n = Tt at *
  have HT := Lib.hid hT
  clear hT
  have ha : ∃ g cap, a = .slice g n cap ∧ (0 < n → ∃ b, g = some ⟨b, 0, none⟩) := by
    rcases hsh with ⟨h1, h2⟩ | ⟨g, cap, h1⟩
    · exact ⟨none, 0, by rw [h1, h2], fun h => by omega⟩
    · exact ⟨_, cap, h1, fun _ => ⟨g, rfl⟩⟩
  obtain ⟨ga, cap, rfl, hga⟩ := ha
  have HGA := Lib.hid hga
  clear hsh hga
  go_enter Try.func73, Try.ntmps73
  go_wp2
  go_loopw [1, 5] (fun kk i wr => ∃ j : Nat, j ≤ n ∧ i = .int .i64 j ∧ ∃ s : Nat, Hid (sumL fs j = s) ∧ s ≤ Tt ∧ kk = .int .i64 (k + s) ∧ FamH wr lo hi (.slice ga n cap) b c us ⟨markF k fs j, ls, rs⟩ ∧ Chg lo hi w wr) (fun _ i _ => n - (intOf i).toNat)
  case atStart => exact ⟨0, Nat.zero_le _, rfl, 0, sumL_zero fs, Nat.zero_le _, by simp, by rw [markF_zero]; exact HO.out, Chg.refl _ _ _⟩
  case round =>
    obtain ⟨j, hj, rfl, s, hs, hsT, rfl, hfam, hch⟩ := hrel
    by_cases hlt : j < n
    · obtain ⟨g, rfl⟩ := HGA.out (by omega)
      have hjl : j < fs.length := by rw [HN.out]; exact hlt
      have e1 := HSS.out j hlt
      have e2 := HSL.out (j + 1)
      rw [hs.out] at e1
      rw [e1] at e2
      have hlen : (markF k fs j).length = n := by rw [markF_length, HN.out]
      obtain ⟨q, _⟩ := hfam.cell (g := g) (cap := cap) (i := j) (by simp only [hlen]) (by simp only [hlen]; exact hlt)
      have hrow := hfam.row (i := j) (by simp only [hlen]; exact hlt)
      simp only [] at hrow
      rw [markF_getD k fs j hjl, if_neg (by omega)] at hrow
      have hset := markF_set k fs hjl
      rw [hs.out] at hset
      have i1 : (j : Int) < (n : Int) := by omega
      have E1 := Lib.hid e1; have HR := Lib.hid hrow; have HF := Lib.hid hfam; have HCH := Lib.hid hch; have HLE := Lib.hid hlen; have HST := Lib.hid hset
      clear hfam hch hrow hlen hset e1 hjl
      generalize hzs : fs.getD j [] = zs at *
      have J : Hid ((0 : Int) ≤ k + s ∧ k + s + zs.length ≤ 9223372036854775806) := ⟨by omega, by omega⟩
      have hb2 : s + zs.length ≤ Tt := e2
      clear hzs e2
      obtain ⟨u, hu⟩ : ∃ u, u = us j := ⟨_, rfl⟩
      rw [← hu] at q HR
      have HU := Lib.hid hu
      clear hu
      go_wp2_with fail
      refine (c_markIntS u zs lo (k + s) _ HR.out J.out.1 J.out.2).mono ?_
      rintro e w2 ⟨rfl, ho2, hg2⟩
      rw [HU.out] at ho2 hg2
      have hch2 : Chg lo hi wr w2 := Chg.of_grown hg2 fun g' hg' => by
        have := Fam.blk HF.out (k := j + 3) (g := g') (by simp only [HLE.out]; omega) hg'
        exact ⟨this.1, this.2.1⟩
      have F2 := HF.out.setRow (i := j) (by simp only [HLE.out]; exact hlt) hg2 ho2
      simp only [HST.out] at F2
      have F3 := Lib.hid F2; have C3 := Lib.hid (HCH.out.trans hch2)
      clear F2 hch2 ho2 hg2 q
      generalize zs.length = m at *
      go_wp2
      go_roundw
      case rel => exact ⟨j + 1, by omega, by go_num, s + m, E1.out, by omega, by congr 1; omega, F3.out, C3.out⟩
      case measure => simp [intOf]; omega
    · obtain rfl : j = n := by omega
      obtain rfl : Tt = s := HT.out.symm.trans hs.out
      go_wp2
      go_ret
      exact ⟨rfl, hfam, hch⟩
set_option maxHeartbeats 1600000 in
theorem c_heldIntSS (v : Value) (fs : List (List Int)) (k : Int) (w : World) (hA : RowsAt w v (markF k fs fs.length)) (h0 : 0 ≤ k) (hm : k + sumL fs fs.length ≤ 9223372036854775806) (hl : fs.length ≤ 9223372036854775806) :
    Calls Try.prog 74 #[v, .int .i64 k] w fun e w' => e = .returned (.int .i64 (k + sumL fs fs.length)) ∧ w = w' := by
  obtain ⟨a, ca, rfl, hA⟩ := hA
  rw [markF_length] at hA ⊢
  have hrow : ∀ i, i < fs.length → (markF k fs fs.length).getD i [] = upFrom (k + sumL fs i) (fs.getD i []).length := fun i hi => by rw [markF_getD k fs _ hi, if_pos hi]
  have hsl := sumL_le fs
  have hss : ∀ k, k < fs.length → sumL fs (k + 1) = sumL fs k + (fs.getD k []).length := fun k hk => sumL_succ hk
  generalize hn : fs.length = n at *
  have HN := Lib.hid hn; have HSL := Lib.hid hsl; have HSS := Lib.hid hss; have HA := Lib.hid hA; have HRW := Lib.hid hrow
  clear hn hsl hss hA hrow
  generalize hT : sumL fs n = Tt at *
  have HT := Lib.hid hT
  clear hT
  go_enter Try.func74, Try.ntmps74
  go_wp2
  go_loop [1, 5] (fun kk i => ∃ j : Nat, j ≤ n ∧ i = .int .i64 j ∧ ∃ s : Nat, Hid (sumL fs j = s) ∧ s ≤ Tt ∧ kk = .int .i64 (k + s)) (fun _ i => n - (intOf i).toNat)
  case atStart => exact ⟨0, Nat.zero_le _, rfl, 0, sumL_zero fs, Nat.zero_le _, by simp⟩
  case round =>
    obtain ⟨j, hj, rfl, s, hs, hsT, rfl⟩ := hrel
    by_cases hlt : j < n
    · obtain ⟨g, off, rfl, hc⟩ := HA.out (by omega)
      obtain ⟨u, q, hu⟩ := hc j hlt
      rw [HRW.out j hlt, hs.out] at hu
      have e1 := HSS.out j hlt
      have e2 := HSL.out (j + 1)
      rw [hs.out] at e1
      rw [e1] at e2
      have i1 : (j : Int) < (n : Int) := by omega
      have E1 := Lib.hid e1; have HU := Lib.hid hu
      clear e1 hu hc
      generalize (fs.getD j []).length = m at *
      have J : Hid ((0 : Int) ≤ k + s ∧ k + s + m ≤ 9223372036854775806) := ⟨by omega, by omega⟩
      have i2 : ¬ k + (s : Int) + (m : Int) < 0 := by omega
      go_wp2_with (go_at_call 51; refine (c_heldIntS u m (k + s) _ HU.out J.out.1 J.out.2).mono ?_; rintro e w1 ⟨rfl, rfl⟩)
      go_round
      case rel => exact ⟨j + 1, by omega, by go_num, s + m, E1.out, by omega, by congr 1; omega⟩
      case measure => simp [intOf]; omega
    · obtain rfl : j = n := by omega
      obtain rfl : Tt = s := HT.out.symm.trans hs.out
      go_wp2
      go_ret
      exact ⟨rfl, rfl⟩
end Go.Proofs.Ytkbphmnacdpdgaa
namespace Go.Proofs.Ytkbphmnacdpdgaa.Kw

structure Wk where
  r : List (List Int)
  n : Int
  d : List Int
def row (W : Wk) (k : Nat) : List Int := W.r.getD k []
def upTo (n : Nat) : List Int := (List.range n).map fun i : Nat => (i : Int) + 1
theorem upTo_length (n : Nat) : (upTo n).length = n := by simp [upTo]
theorem upTo_succ (n : Nat) : upTo (n + 1) = upTo n ++ [(n : Int) + 1] := by simp [upTo, List.range_succ]
theorem upTo_getD {n i : Nat} (h : i < n) : (upTo n).getD i 0 = (i : Int) + 1 := by simp [upTo, List.getD, h]
theorem mem_upTo {n : Nat} {z : Int} : z ∈ upTo n ↔ 1 ≤ z ∧ z ≤ n := by
  unfold upTo
  rw [List.mem_map]
  constructor
  · rintro ⟨i, hi, rfl⟩
    have := List.mem_range.1 hi
    omega
  · intro h
    exact ⟨(z - 1).toNat, List.mem_range.2 (by omega), by omega⟩
theorem upTo_rise (n : Nat) : (upTo n).Pairwise (· < ·) := by
  induction n with
  | zero => exact List.Pairwise.nil
  | succ n ih =>
    rw [upTo_succ, List.pairwise_append]
    refine ⟨ih, by simp, fun a ha b hb => ?_⟩
    have := mem_upTo.1 ha
    simp at hb
    omega
abbrev srt (zs : List Int) : List Int := zs.mergeSort fun x y => decide (x ≤ y)
theorem srt_perm (zs : List Int) : (srt zs).Perm zs := List.mergeSort_perm zs _
theorem srt_le (zs : List Int) : (srt zs).Pairwise (fun x y : Int => decide (x ≤ y) = true) := List.pairwise_mergeSort (fun a b c h1 h2 => by simp at *; omega) (fun a b => by simp; omega) zs
theorem srt_eq {zs ys : List Int} (hp : zs.Perm ys) (hs : ys.Pairwise (· < ·)) : srt zs = ys :=
  List.Perm.eq_of_pairwise (le := fun x y : Int => decide (x ≤ y) = true) (fun a b _ _ h1 h2 => by simp at h1 h2; omega) (srt_le zs) (hs.imp fun {a b} h => by simp; omega) ((srt_perm zs).trans hp)
theorem srt_length (zs : List Int) : (srt zs).length = zs.length := (srt_perm zs).length_eq

/-- A number is put into a rising list. -/
def putI (x : Int) : List Int → List Int
  | [] => [x]
  | y :: t => if y < x then y :: putI x t else if y = x then y :: t else x :: y :: t
theorem putI_cut {x : Int} : ∀ {l : List Int} {k : Nat}, k ≤ l.length → (∀ i, i < k → l.getD i 0 < x) → putI x l = l.take k ++ putI x (l.drop k)
  | _, 0, _, _ => by simp
  | [], k + 1, h, _ => by simp at h
  | y :: t, k + 1, h, hi => by
    have h0 : y < x := by have := hi 0 (by omega); simpa using this
    have ih := putI_cut (x := x) (l := t) (k := k) (by simpa using h) (fun i hk => by have := hi (i + 1) (by omega); simpa using this)
    simp only [List.take_succ_cons, List.drop_succ_cons, List.cons_append]
    rw [← ih]
    simp [putI, h0]
theorem drop_getD {l : List Int} {k : Nat} (h : k < l.length) : l.drop k = l.getD k 0 :: l.drop (k + 1) := by
  rw [List.drop_eq_getElem_cons h]
  simp [List.getD, h]
theorem putI_same {x : Int} {l : List Int} {k : Nat} (h : k < l.length) (hi : ∀ i, i < k → l.getD i 0 < x) (e : l.getD k 0 = x) : putI x l = l := by
  rw [putI_cut (Nat.le_of_lt h) hi, drop_getD h, e]
  simp only [putI, if_neg (show ¬ x < x by omega), if_pos]
  rw [← e, ← drop_getD h, List.take_append_drop]
theorem putI_new {x : Int} {l : List Int} {k : Nat} (h : k ≤ l.length) (hi : ∀ i, i < k → l.getD i 0 < x) (e : k < l.length → x < l.getD k 0) : putI x l = (l.take k ++ [x]) ++ l.drop k := by
  rw [putI_cut h hi]
  by_cases hk : k < l.length
  · have := e hk
    rw [drop_getD hk]
    simp only [putI, if_neg (show ¬ l.getD k 0 < x by omega), if_neg (show ¬ l.getD k 0 = x by omega), List.append_assoc, List.singleton_append]
  · rw [List.drop_eq_nil_of_le (by omega)]
    simp [putI]
theorem mem_putI {x z : Int} : ∀ {l : List Int}, z ∈ putI x l ↔ z = x ∨ z ∈ l
  | [] => by simp [putI]
  | y :: t => by
    unfold putI
    split
    · simp only [List.mem_cons, mem_putI (l := t)]
      constructor
      · rintro (h | h | h)
        · exact .inr (.inl h)
        · exact .inl h
        · exact .inr (.inr h)
      · rintro (h | h | h)
        · exact .inr (.inl h)
        · exact .inl h
        · exact .inr (.inr h)
    · split
      · rename_i e
        simp [e]
      · simp
theorem putI_rise {x : Int} : ∀ {l : List Int}, l.Pairwise (· < ·) → (putI x l).Pairwise (· < ·)
  | [], _ => by simp [putI]
  | y :: t, h => by
    rw [List.pairwise_cons] at h
    unfold putI
    split
    · rw [List.pairwise_cons]
      refine ⟨fun z hz => ?_, putI_rise h.2⟩
      rcases mem_putI.1 hz with rfl | hz
      · assumption
      · exact h.1 z hz
    · split
      · rw [List.pairwise_cons]; exact h
      · rw [List.pairwise_cons, List.pairwise_cons]
        refine ⟨fun z hz => ?_, h⟩
        rcases List.mem_cons.1 hz with rfl | hz
        · omega
        · have := h.1 z hz; omega
theorem putI_length {x : Int} : ∀ {l : List Int}, (putI x l).length ≤ l.length + 1
  | [] => by simp [putI]
  | y :: t => by
    unfold putI
    split
    · have := putI_length (x := x) (l := t); simp only [List.length_cons]; omega
    · split <;> simp
theorem putI_old {x : Int} : ∀ {l : List Int}, l.Pairwise (· < ·) → x ∈ l → putI x l = l
  | [], _, h => by simp at h
  | y :: t, h, hx => by
    rw [List.pairwise_cons] at h
    unfold putI
    rcases List.mem_cons.1 hx with rfl | hx
    · rw [if_neg (by omega), if_pos rfl]
    · rw [if_pos (h.1 x hx), putI_old h.2 hx]
theorem putI_fresh {x : Int} : ∀ {l : List Int}, x ∉ l → (putI x l).Perm (x :: l)
  | [], _ => by simp [putI]
  | y :: t, hx => by
    simp only [List.mem_cons, not_or] at hx
    unfold putI
    split
    · exact ((putI_fresh hx.2).cons y).trans (List.Perm.swap x y t)
    · rw [if_neg (fun e => hx.1 e.symm)]
/-- All of a list, put one by one. -/
def putAll (acc : List Int) (zs : List Int) : List Int := zs.foldl (fun l x => putI x l) acc
theorem putAll_snoc (acc zs : List Int) (x : Int) : putAll acc (zs ++ [x]) = putI x (putAll acc zs) := by simp [putAll]
theorem putAll_rise : ∀ {zs acc : List Int}, acc.Pairwise (· < ·) → (putAll acc zs).Pairwise (· < ·)
  | [], _, h => h
  | _ :: t, _, h => putAll_rise (zs := t) (putI_rise h)
theorem putAll_length : ∀ {zs acc : List Int}, (putAll acc zs).length ≤ acc.length + zs.length
  | [], _ => by simp [putAll]
  | x :: t, acc => by
    have h1 := putAll_length (zs := t) (acc := putI x acc)
    have h2 := putI_length (x := x) (l := acc)
    show (putAll (putI x acc) t).length ≤ _
    simp only [List.length_cons]
    omega
theorem mem_putAll {z : Int} : ∀ {zs acc : List Int}, z ∈ putAll acc zs ↔ z ∈ acc ∨ z ∈ zs
  | [], _ => by simp [putAll]
  | x :: t, acc => by
    show z ∈ putAll (putI x acc) t ↔ _
    rw [mem_putAll, mem_putI, List.mem_cons]
    constructor
    · rintro ((h | h) | h)
      · exact .inr (.inl h)
      · exact .inl h
      · exact .inr (.inr h)
    · rintro (h | h | h)
      · exact .inl (.inr h)
      · exact .inl (.inl h)
      · exact .inr h
theorem putAll_perm : ∀ {zs acc : List Int}, (acc ++ zs).Nodup → (putAll acc zs).Perm (acc ++ zs)
  | [], _, _ => by simp [putAll]
  | x :: t, acc, h => by
    have hx : x ∉ acc := fun hm => by
      rw [List.nodup_append] at h
      exact h.2.2 x hm x (by simp) rfl
    have hp : (putI x acc ++ t).Perm (acc ++ x :: t) := ((putI_fresh hx).append_right t).trans List.perm_middle.symm
    exact (putAll_perm (zs := t) (acc := putI x acc) ((hp.nodup_iff).2 h)).trans hp
/-- A rising list of n numbers out of 1 .. n is all of them. -/
theorem rise_all : ∀ {n : Nat} {zs : List Int}, zs.Pairwise (· < ·) → (∀ z ∈ zs, 1 ≤ z ∧ z ≤ n) → zs.length = n → zs = upTo n
  | 0, zs, _, _, hl => by rw [List.eq_nil_of_length_eq_zero hl]; rfl
  | n + 1, zs, hs, hm, hl => by
    have hne : zs ≠ [] := fun e => by rw [e] at hl; simp at hl
    have hz := List.dropLast_concat_getLast hne
    generalize zs.dropLast = a at hz
    generalize zs.getLast hne = b at hz
    subst hz
    rw [List.pairwise_append] at hs
    have hla : a.length = n := by simp at hl; exact hl
    have hb := hm b (by simp)
    have ha : ∀ z ∈ a, 1 ≤ z ∧ z ≤ n := fun z hz => by
      have h1 := hm z (by simp [hz])
      have h2 := hs.2.2 z hz b (by simp)
      omega
    have ea := rise_all hs.1 ha hla
    subst ea
    rw [upTo_succ]
    congr 1
    by_cases e : b = (n : Int) + 1
    · rw [e]
    · exfalso
      have : b ∈ upTo n := mem_upTo.2 (by omega)
      have := hs.2.2 b this b (by simp)
      omega
theorem nodup_of_len : ∀ {zs acc : List Int}, acc.Pairwise (· < ·) → (putAll acc zs).length = acc.length + zs.length → (acc ++ zs).Nodup
  | [], acc, h, _ => by
    rw [List.append_nil]
    exact h.imp fun {a b} h e => by omega
  | x :: t, acc, h, hl => by
    have h1 := putAll_length (zs := t) (acc := putI x acc)
    have h2 := putI_length (x := x) (l := acc)
    have hl' : (putAll (putI x acc) t).length = acc.length + (t.length + 1) := hl
    have hx : x ∉ acc := fun hm => by
      rw [putI_old h hm] at h1 hl'
      omega
    have hp : (putI x acc ++ t).Perm (acc ++ x :: t) := ((putI_fresh hx).append_right t).trans List.perm_middle.symm
    have hk : (putI x acc).length = acc.length + 1 := by omega
    exact (hp.nodup_iff).1 (nodup_of_len (zs := t) (putI_rise h) (by omega))
/-- The two tests for 'every item once' agree. -/
theorem once_iff {zs : List Int} {n : Nat} : zs.Perm (upTo n) ↔ ((∀ z ∈ zs, 1 ≤ z ∧ z ≤ n) ∧ zs.length = n ∧ (putAll [] zs).length = n) := by
  constructor
  · intro h
    have hn : zs.Nodup := (h.nodup_iff).2 ((upTo_rise n).imp fun {a b} h e => by omega)
    refine ⟨fun z hz => mem_upTo.1 (h.mem_iff.1 hz), by rw [h.length_eq, upTo_length], ?_⟩
    rw [(putAll_perm (acc := []) hn).length_eq, List.nil_append, h.length_eq, upTo_length]
  · rintro ⟨h1, h2, h3⟩
    have hm : ∀ z ∈ putAll [] zs, 1 ≤ z ∧ z ≤ n := fun z hz => by
      rcases mem_putAll.1 hz with h | h
      · simp at h
      · exact h1 z h
    have e := rise_all (putAll_rise (zs := zs) List.Pairwise.nil) hm h3
    have hn := nodup_of_len (zs := zs) (acc := []) List.Pairwise.nil (by simp; omega)
    have := putAll_perm (acc := []) (zs := zs) hn
    rw [e] at this
    exact this.symm

/-- What is valid. -/
structure Good (W : Wk) : Prop where
  len : W.r.length = 3
  n0 : 0 ≤ W.n
  n1 : W.n ≤ 100
  rows : ∀ k, k < 3 → (row W k).length ≤ 12
  perm : (W.r.flatten ++ W.d).Perm (upTo W.n.toNat)
noncomputable def goodB (W : Wk) : Bool := @decide (Good W) (Classical.propDecidable _)
theorem goodB_iff {W : Wk} : goodB W = true ↔ Good W := by unfold goodB; simp
theorem goodB_false {W : Wk} (h : ¬ Good W) : goodB W = false := by
  cases hq : goodB W with
  | false => rfl
  | true => exact absurd (goodB_iff.1 hq) h
def tot (W : Wk) : Nat := (row W 0).length + (row W 1).length + (row W 2).length + W.d.length
/-- Few enough. -/
structure Sm (W : Wk) : Prop where
  len : W.r.length = 3
  n0 : 0 ≤ W.n
  n1 : W.n ≤ 100
  rows : ∀ k, k < 3 → (row W k).length ≤ 12
  tot : tot W = W.n.toNat
theorem three {α : Type} {r : List α} (h : r.length = 3) : ∃ x y z, r = [x, y, z] := by
  match r, h with
  | [x, y, z], _ => exact ⟨x, y, z, rfl⟩
theorem Good.sm {W : Wk} (g : Good W) : Sm W := by
  refine ⟨g.len, g.n0, g.n1, g.rows, ?_⟩
  have h := g.perm.length_eq
  obtain ⟨x, y, z, e⟩ := three g.len
  rw [upTo_length, e] at h
  unfold tot row
  rw [e]
  simp at h ⊢
  omega
theorem row_set {W : Wk} {k j : Nat} (hk : k < W.r.length) (zs : List Int) (n : Int) (d : List Int) : row ⟨W.r.set k zs, n, d⟩ j = if j = k then zs else row W j := by
  unfold row
  by_cases e : j = k
  · subst e; simp [List.getD, hk]
  · have : ¬ k = j := fun h => e h.symm
    simp [List.getD, e, this]
def push (W : Wk) (k : Nat) : Wk := ⟨W.r.set k (row W k ++ [W.n + 1]), W.n + 1, W.d⟩
def pop (W : Wk) (k : Nat) : Wk := ⟨W.r.set k ((row W k).take ((row W k).length - 1)), W.n, W.d ++ [(row W k).getD ((row W k).length - 1) 0]⟩
def steal (W : Wk) (k j : Nat) : Wk := ⟨(W.r.set j ((row W j).drop 1)).set k (row W k ++ [(row W j).getD 0 0]), W.n, W.d⟩
theorem steal_row {W : Wk} (hl : W.r.length = 3) {k j i : Nat} (hk : k < 3) (hj : j < 3) : row (steal W k j) i = if i = k then row W k ++ [(row W j).getD 0 0] else if i = j then (row W j).drop 1 else row W i := by
  have h1 := row_set (W := ⟨W.r.set j ((row W j).drop 1), W.n, W.d⟩) (k := k) (j := i) (by simp; omega) (row W k ++ [(row W j).getD 0 0]) W.n W.d
  have h2 := row_set (W := W) (k := j) (j := i) (by omega) ((row W j).drop 1) W.n W.d
  rw [h2] at h1
  exact h1
theorem lt3 {k : Nat} (h : k < 3) : k = 0 ∨ k = 1 ∨ k = 2 := by omega
theorem Sm.steal {W : Wk} (s : Sm W) {k j : Nat} (hk : k < 3) (hj : j < 3) (hne : j ≠ k) (hr : 0 < (row W j).length) (hm : (row W k).length < 12) : Sm (steal W k j) := by
  have e := fun i => steal_row s.len (i := i) hk hj
  have t := s.tot
  refine ⟨by simp [Kw.steal, s.len], s.n0, s.n1, fun i hi => ?_, ?_⟩
  · rw [e]
    have := s.rows j hj
    split
    · simp; omega
    · split
      · simp; omega
      · exact s.rows i hi
  · have hd : (Kw.steal W k j).d = W.d := rfl
    have hnn : (Kw.steal W k j).n = W.n := rfl
    unfold Kw.tot at *
    rw [e, e, e, hd, hnn]
    rcases lt3 hk with rfl | rfl | rfl <;> rcases lt3 hj with rfl | rfl | rfl <;> first | exact absurd rfl hne | (simp; omega)
/-- A step: kind, worker, from. -/
abbrev S3 := Int × Int × Int
def isW (z : Int) : Bool := decide (0 ≤ z) && decide (z ≤ 2)
def enPush (W : Wk) (s : S3) : Bool := decide (s.1 = 1) && decide (s.2.2 = 0) && decide (W.n < 100) && decide ((row W s.2.1.toNat).length < 12)
def enPop (W : Wk) (s : S3) : Bool := decide (s.1 = 2) && decide (s.2.2 = 0) && decide (0 < (row W s.2.1.toNat).length)
def enSteal (W : Wk) (s : S3) : Bool := decide (s.1 = 3) && isW s.2.2 && decide (s.2.2 ≠ s.2.1) && decide (0 < (row W s.2.2.toNat).length) && decide ((row W s.2.1.toNat).length < 12)
def en (W : Wk) (s : S3) : Bool := isW s.2.1 && (enPush W s || enPop W s || enSteal W s)
def act (W : Wk) (s : S3) : Wk := if s.1 = 1 then push W s.2.1.toNat else if s.1 = 2 then pop W s.2.1.toNat else steal W s.2.1.toNat s.2.2.toNat
theorem isW_iff {z : Int} : isW z = true ↔ 0 ≤ z ∧ z ≤ 2 := by simp [isW]
def stp (W : Wk) (s : S3) : Wk := if en W s = true then act W s else W
def nilW : Wk := ⟨[], 0, []⟩
end Go.Proofs.Ytkbphmnacdpdgaa.Kw
namespace Go.Proofs.Ytkbphmnacdpdgaa.Kw

/-- The first with the fewest, the first with the most. -/
def fewTo (W : Wk) : Nat → Nat
  | 0 => 0
  | k + 1 => if (row W k).length < (row W (fewTo W k)).length then k else fewTo W k
def mostTo (W : Wk) : Nat → Nat
  | 0 => 0
  | k + 1 => if (row W (mostTo W k)).length < (row W k).length then k else mostTo W k
theorem fewTo_lt (W : Wk) : ∀ {k : Nat}, k ≤ 3 → fewTo W k < 3
  | 0, _ => by show 0 < 3; omega
  | k + 1, h => by
    have := fewTo_lt W (k := k) (by omega)
    unfold fewTo
    split <;> omega
theorem mostTo_lt (W : Wk) : ∀ {k : Nat}, k ≤ 3 → mostTo W k < 3
  | 0, _ => by show 0 < 3; omega
  | k + 1, h => by
    have := mostTo_lt W (k := k) (by omega)
    unfold mostTo
    split <;> omega
def few (W : Wk) : Nat := fewTo W 3
def most (W : Wk) : Nat := mostTo W 3
theorem few_lt (W : Wk) : few W < 3 := fewTo_lt W (Nat.le_refl 3)
theorem most_lt (W : Wk) : most W < 3 := mostTo_lt W (Nat.le_refl 3)
def fl (W : Wk) : Nat := (row W (few W)).length
def ml (W : Wk) : Nat := (row W (most W)).length
def stopB (W : Wk) : Bool := decide (ml W < fl W + 2)
def nxt (W : Wk) : Wk := steal W (few W) (most W)
def msq (W : Wk) : Nat := (row W 0).length * (row W 0).length + (row W 1).length * (row W 1).length + (row W 2).length * (row W 2).length
theorem few_ne {W : Wk} (h : stopB W = false) : most W ≠ few W := fun e => by
  unfold stopB ml fl at h
  rw [e] at h
  simp at h
theorem go_bounds {W : Wk} (s : Sm W) (h : stopB W = false) : 0 < (row W (most W)).length ∧ (row W (few W)).length < 12 := by
  have h1 := s.rows _ (most_lt W)
  unfold stopB ml fl at h
  simp at h
  exact ⟨by omega, by omega⟩
theorem sq_less (a b : Nat) (h : a + 2 ≤ b) : (a + 1) * (a + 1) + (b - 1) * (b - 1) < a * a + b * b := by
  obtain ⟨c, rfl⟩ := Nat.exists_eq_add_of_le h
  have e : a + 2 + c - 1 = a + 1 + c := by omega
  rw [e]
  simp only [Nat.mul_add, Nat.add_mul]
  omega
theorem nxt_less {W : Wk} (s : Sm W) (h : stopB W = false) : Sm (nxt W) ∧ msq (nxt W) < msq W := by
  have hf := few_lt W
  have hm := most_lt W
  have hne := few_ne h
  obtain ⟨b1, b2⟩ := go_bounds s h
  refine ⟨s.steal hf hm hne b1 b2, ?_⟩
  have e := fun i => steal_row s.len (i := i) hf hm
  have hd : fl W + 2 ≤ ml W := by unfold stopB at h; simp at h; omega
  have q := sq_less _ _ hd
  unfold fl ml at q
  unfold msq nxt
  rw [e, e, e]
  generalize few W = f at *
  generalize most W = m at *
  rcases lt3 hf with rfl | rfl | rfl <;> rcases lt3 hm with rfl | rfl | rfl <;> first | exact absurd rfl hne | (simp at q ⊢; omega)
def shareF : Nat → Wk → Wk
  | 0, W => W
  | f + 1, W => if stopB W = true then W else shareF f (nxt W)
theorem share_ind : ∀ {f f' : Nat} {W : Wk}, Sm W → msq W < f → msq W < f' → shareF f W = shareF f' W
  | 0, _, _, _, h, _ => absurd h (Nat.not_lt_zero _)
  | _ + 1, 0, _, _, _, h => absurd h (Nat.not_lt_zero _)
  | f + 1, f' + 1, W, s, h, h' => by
    unfold shareF
    split
    · rfl
    · rename_i hs
      have hs : stopB W = false := by simpa using hs
      obtain ⟨s2, hl⟩ := nxt_less s hs
      exact share_ind s2 (by omega) (by omega)
def shareR (W : Wk) : Wk := shareF (msq W + 1) W
theorem share_stop {W : Wk} (h : stopB W = true) : shareR W = W := by unfold shareR shareF; rw [if_pos h]
theorem share_go {W : Wk} (s : Sm W) (h : stopB W = false) : shareR (nxt W) = shareR W := by
  obtain ⟨s2, hl⟩ := nxt_less s h
  have e : shareR W = shareF (msq W) (nxt W) := by
    unfold shareR
    rw [shareF, if_neg (by rw [h]; decide)]
  rw [e]
  exact share_ind s2 (Nat.lt_succ_self _) (by omega)
theorem shareF_sm : ∀ {f : Nat} {W : Wk}, Sm W → Sm (shareF f W)
  | 0, _, s => s
  | f + 1, W, s => by
    unfold shareF
    split
    · exact s
    · rename_i hs
      exact shareF_sm (nxt_less s (by simpa using hs)).1
theorem share_sm {W : Wk} (s : Sm W) : Sm (shareR W) := shareF_sm s
/-- What is left, in order. -/
def leftL (W : Wk) : List Int := srt W.r.flatten
/-- The reference's test. -/
theorem good_put {W : Wk} (hl : W.r.length = 3) (h0 : 0 ≤ W.n) (h1 : W.n ≤ 100) (hr : ∀ k, k < 3 → (row W k).length ≤ 12) : Good W ↔ ((∀ z ∈ W.d ++ W.r.flatten, 1 ≤ z ∧ z ≤ W.n) ∧ ((W.d ++ W.r.flatten).length : Int) = W.n ∧ ((putAll [] (W.d ++ W.r.flatten)).length : Int) = W.n) := by
  have hp : (W.d ++ W.r.flatten).Perm (W.r.flatten ++ W.d) := List.perm_append_comm
  have hn : (W.n.toNat : Int) = W.n := Int.toNat_of_nonneg h0
  constructor
  · intro g
    obtain ⟨a, b, c⟩ := once_iff.1 (hp.trans g.perm)
    refine ⟨fun z hz => ?_, by omega, by omega⟩
    have := a z hz
    omega
  · rintro ⟨a, b, c⟩
    refine ⟨hl, h0, h1, hr, hp.symm.trans (once_iff.2 ⟨fun z hz => ?_, by omega, by omega⟩)⟩
    have := a z hz
    omega
/-- The project's test. -/
theorem good_srt {W : Wk} (hl : W.r.length = 3) (h0 : 0 ≤ W.n) (h1 : W.n ≤ 100) (hr : ∀ k, k < 3 → (row W k).length ≤ 12) : goodB W = decide (srt (leftL W ++ W.d) = upTo W.n.toNat) := by
  have hp : (leftL W ++ W.d).Perm (W.r.flatten ++ W.d) := (srt_perm _).append_right _
  by_cases g : Good W
  · rw [goodB_iff.2 g, srt_eq (hp.trans g.perm) (upTo_rise _)]
    simp
  · rw [goodB_false g]
    have : ¬ srt (leftL W ++ W.d) = upTo W.n.toNat := fun e => g ⟨hl, h0, h1, hr, by
      have := srt_perm (leftL W ++ W.d)
      rw [e] at this
      exact hp.symm.trans this.symm⟩
    simp [this]
end Go.Proofs.Ytkbphmnacdpdgaa.Kw
namespace Go.Proofs.Ytkbphmnacdpdgaa
open Go.RowKit Ph Kw

abbrev nilV : Value := .slice none 0 0
abbrev wkv (a : Value) (n : Int) (c : Value) : Value := .agg #[a, .int .i64 n, c]
abbrev wh (W : Wk) : H := ⟨W.r, [], W.d⟩
structure WorkAt (w : World) (a c : Value) (W : Wk) : Prop where
  r : RowsAt w a W.r
  d : IntsAt w c W.d
theorem WorkAt.below {w w' : World} {a c : Value} {W : Wk} (k : WorkAt w a c W) (hb : Below w.heap.size w w') : WorkAt w' a c W := ⟨k.r.below hb, k.d.below hb⟩
def OwnW (w : World) (lo hi : Nat) (a c : Value) (W : Wk) : Prop := OwnH w lo hi a nilV c (wh W)
section
variable {w w' : World} {lo hi : Nat} {a c : Value} {W : Wk}
theorem OwnW.reads (k : OwnW w lo hi a c W) : WorkAt w a c W := ⟨(OwnH.reads k).f, (OwnH.reads k).r⟩
theorem OwnW.below (k : OwnW w lo hi a c W) (hb : Below w.heap.size w w') : OwnW w' lo hi a c W := OwnH.below k hb
theorem OwnW.chg {lo' hi' : Nat} (k : OwnW w lo hi a c W) (hc : Chg lo' hi' w w') (hd : hi ≤ lo' ∨ hi' ≤ lo) : OwnW w' lo hi a c W := OwnH.chg k hc hd
theorem OwnW.wide (k : OwnW w lo hi a c W) {lo' hi' : Nat} (h1 : lo' ≤ lo) (h2 : hi ≤ hi') : OwnW w lo' hi' a c W := OwnH.wide k h1 h2
theorem OwnW.shapes (k : OwnW w lo hi a c W) : (∃ p q, a = .slice p W.r.length q) ∧ (∃ p q, c = .slice p W.d.length q) := ⟨k.reads.r.shape, k.reads.d.shape⟩
theorem OwnW.nil (w : World) (lo hi : Nat) : OwnW w lo hi nilV nilV nilW := OwnH.nil w lo hi
end
abbrev w3 (a : Value) (n : Int) (c : Value) : Array Value := #[a, .int .i64 n, c]
def RowW (w : World) (g : Nat) (a : Value) (n : Int) (c : Value) : Prop := Row w g 28 (w3 a n c)
theorem info_work : (Try.prog.info? 28).map (·.size) = some 3 := by kernel_rfl
theorem RowW.c0 {w : World} {g : Nat} {a c : Value} {n : Int} (h : RowW w g a n c) : w.cell? ⟨g, 0, none⟩ = some a := Row.cell h 0
theorem RowW.c1 {w : World} {g : Nat} {a c : Value} {n : Int} (h : RowW w g a n c) : w.cell? ⟨g, 1, none⟩ = some (.int .i64 n) := Row.cell h 1
theorem RowW.c2 {w : World} {g : Nat} {a c : Value} {n : Int} (h : RowW w g a n c) : w.cell? ⟨g, 2, none⟩ = some c := Row.cell h 2
theorem RowW.below {w w' : World} {g : Nat} {a c : Value} {n : Int} (h : RowW w g a n c) (hb : Below w.heap.size w w') : RowW w' g a n c := Row.below h hb
theorem RowW.set0 {w : World} {g : Nat} {a c : Value} {n : Int} (k : RowW w g a n c) (x : Value) : RowW (w.setCell ⟨g, 0, none⟩ x) g x n c := (Row.set k 0 x).trans rfl
theorem RowW.set1 {w : World} {g : Nat} {a c : Value} {n : Int} (k : RowW w g a n c) (x : Int) : RowW (w.setCell ⟨g, 1, none⟩ (.int .i64 x)) g a x c := (Row.set k 1 _).trans rfl
theorem RowW.set2 {w : World} {g : Nat} {a c : Value} {n : Int} (k : RowW w g a n c) (x : Value) : RowW (w.setCell ⟨g, 2, none⟩ x) g a n x := (Row.set k 2 x).trans rfl
theorem wl_loadW {ops : Array Oper} {rest : List Oper} {o : Oper} {q : Act} {w : World} {Q : Exit → Act → World → Prop} (hgd : o.guard = none) (x : Operand) (ho : o.op = .load 28 x) (g : Nat) (a : Value) (n : Int) (c : Value) (hg : RowW w g a n c)
    (hx : q.eval x = .pointer (some ⟨g, 0, none⟩)) (h : wpList Try.prog ops Q rest (q.put o.dst (wkv a n c)) w) : wpList Try.prog ops Q (o :: rest) q w :=
  wpList_load_row hgd 28 x ho g hx 28 (w3 a n c) (0, 0) _ hg Try.underlying28 rfl info_work h
theorem wl_storeW {ops : Array Oper} {rest : List Oper} {o : Oper} {q : Act} {w : World} {Q : Exit → Act → World → Prop} (hgd : o.guard = none) (x y : Operand) (ho : o.op = .store 28 x y) (g : Nat) (a : Value) (n : Int) (c a0 : Value) (n0 : Int) (c0 : Value) (hg : RowW w g a0 n0 c0)
    (hx : q.eval x = .pointer (some ⟨g, 0, none⟩)) (hy : q.eval y = wkv a n c) (h1 : a.oneCell' = true) (h3 : c.oneCell' = true) (h : wpList Try.prog ops Q rest (q.put o.dst undef) (w.setRow g (w3 a n c))) : wpList Try.prog ops Q (o :: rest) q w :=
  wpList_store_row hgd 28 x y ho g (w3 a n c) hx hy 28 (w3 a0 n0 c0) hg info_work rfl (by simp [Value.oneCell']; exact ⟨h1, h3⟩) h

/-- How much work weighs. -/
def wtW (W : Wk) : Nat := wt W.r + W.d.length
structure FitW (W : Wk) : Prop where
  rows : Fit W.r
  r : W.r.length ≤ 9223372036854775807
  d : W.d.length ≤ 9223372036854775807
set_option maxHeartbeats 1600000 in
theorem c_szWork_yes (a : Value) (n : Int) (c : Value) (W : Wk) (left : Int) (w : World) (hA : WorkAt w a c W) (h1 : left ≤ 1048576) (hw : (wtW W : Int) ≤ left) : Calls Try.prog 39 #[wkv a n c, .int .i64 left] w fun e w' => e = .returned (.int .i64 (left - wtW W)) ∧ Below w.heap.size w w' := by
  have HB := Lib.hid (below1 w (.cells (w3 a n c) 54))
  have HF := Lib.hid (hA.r.below HB.out)
  obtain ⟨ra, rc, rfl⟩ := hA.d.shape
  have e : (wtW W : Int) = (wt W.r : Int) + (W.d.length : Int) := by unfold wtW; omega
  rw [e] at hw ⊢
  clear hA e
  generalize hnr : W.d.length = nr at *
  clear hnr
  generalize hx : wt W.r = x at *
  have HX := Lib.hid hx; clear hx
  have i1 : ¬ left - (x : Int) < 0 := by omega
  have i3 : ¬ left - (x : Int) - (nr : Int) < 0 := by omega
  have J1 : Hid ((wt W.r : Int) ≤ left) := by unfold Hid; rw [HX.out]; omega
  have J3 : Hid (left - (x : Int) ≤ 1048576 ∧ (nr : Int) ≤ left - (x : Int)) := ⟨by omega, by omega⟩
  go_enter Try.func39, Try.ntmps39
  go_wp2_with (first
    | (go_at_call 75; refine (c_szIntSS_yes _ W.r left _ HF.out h1 J1.out).mono ?_; rintro e w1 ⟨rfl, rfl⟩; rw [HX.out])
    | (go_at_call 76; refine (c_szIntS_yes ra nr rc (left - x) _ J3.out.1 J3.out.2).mono ?_; rintro e w1 ⟨rfl, rfl⟩))
  go_ret
  exact ⟨r_i (by omega), HB.out⟩
set_option maxHeartbeats 1600000 in
theorem c_szWork_no (a : Value) (n : Int) (c : Value) (W : Wk) (left : Int) (w : World) (hA : WorkAt w a c W) (hf : FitW W) (h0 : 0 ≤ left) (h1 : left ≤ 1048576) (hw : left < (wtW W : Int)) : Calls Try.prog 39 #[wkv a n c, .int .i64 left] w fun e w' => e = .returned (.int .i64 (-1)) ∧ Below w.heap.size w w' := by
  have HB := Lib.hid (below1 w (.cells (w3 a n c) 54))
  have HF := Lib.hid (hA.r.below HB.out)
  obtain ⟨ra, rc, rfl⟩ := hA.d.shape
  have e : (wtW W : Int) = (wt W.r : Int) + (W.d.length : Int) := by unfold wtW; omega
  rw [e] at hw
  obtain ⟨f1, f2, f4⟩ := hf
  have F1 := Lib.hid f1; have F2 := Lib.hid f2
  clear hA e f1 f2
  generalize hnr : W.d.length = nr at *
  clear hnr
  have F4 := Lib.hid f4
  clear f4
  generalize hx : wt W.r = x at *
  have HX := Lib.hid hx; clear hx
  by_cases i1 : left < (x : Int)
  · have J1 : Hid (left < (wt W.r : Int)) := by unfold Hid; rw [HX.out]; exact i1
    clear i1
    go_enter Try.func39, Try.ntmps39
    go_wp2_with (go_at_call 75; refine (c_szIntSS_no _ W.r left _ HF.out F1.out F2.out h0 h1 J1.out).mono ?_; rintro e w1 ⟨rfl, rfl⟩)
    go_ret
    exact ⟨rfl, HB.out⟩
  · have J1 : Hid ((wt W.r : Int) ≤ left) := by unfold Hid; rw [HX.out]; omega
    have k1 : ¬ left - (x : Int) < 0 := by omega
    have J3 : Hid (0 ≤ left - (x : Int) ∧ left - (x : Int) ≤ 1048576 ∧ left - (x : Int) < (nr : Int)) := ⟨by omega, by omega, by omega⟩
    go_enter Try.func39, Try.ntmps39
    go_wp2_with (first
      | (go_at_call 75; refine (c_szIntSS_yes _ W.r left _ HF.out h1 J1.out).mono ?_; rintro e w1 ⟨rfl, rfl⟩; rw [HX.out])
      | (go_at_call 76; refine (c_szIntS_no ra nr rc (left - x) _ J3.out.1 J3.out.2.1 F4.out J3.out.2.2).mono ?_; rintro e w1 ⟨rfl, rfl⟩))
    go_ret
    exact ⟨rfl, HB.out⟩
set_option maxHeartbeats 1600000 in
theorem c_eqWork (a c a' c' : Value) (W : Wk) (w : World) (hA : WorkAt w a c W) (hB : WorkAt w a' c' W) (hm : wtW W ≤ 1048576) : Calls Try.prog 36 #[wkv a W.n c, wkv a' W.n c'] w fun e w' => e = .returned (.bool true) ∧ Below w.heap.size w w' := by
  obtain ⟨r, n, d⟩ := W
  have HB := Lib.hid ((below1 w (.cells (w3 a n c) 28)).alloc (by simp) (.cells (w3 a' n c') 28))
  have h1 := hA.below HB.out
  have h2 := hB.below HB.out
  have hm1 : wt r ≤ 1048576 ∧ d.length ≤ 9223372036854775806 := by unfold wtW at hm; simp only at hm; omega
  have HM := Lib.hid hm1
  simp only
  generalize hw0 : (w.alloc (.cells (w3 a n c) 28)).alloc (.cells (w3 a' n c') 28) = w0 at h1 h2
  have C1 : Hid (∀ n, Calls Try.prog 72 #[a, a'] (w0.drewN n) fun e w' => e = .returned (.bool true) ∧ ∃ n, w' = w0.drewN n) := fun n => Calls.quiet_of (c_eqIntSS a a' r (w0.drewN n) h1.r h2.r HM.out.1)
  have C3 : Hid (∀ n, Calls Try.prog 49 #[c, c'] (w0.drewN n) fun e w' => e = .returned (.bool true) ∧ ∃ n, w' = w0.drewN n) := fun n => Calls.quiet_of ((c_eqIntS c c' d d (w0.drewN n) h1.d h2.d HM.out.2).mono fun _ _ ⟨he, hw⟩ => ⟨he.trans (r_b (decide_eq_true rfl)), hw⟩)
  have q1 : w0.cell? ⟨w.heap.size, 0, none⟩ = some a ∧ w0.cell? ⟨w.heap.size, 1, none⟩ = some (.int .i64 n) ∧ w0.cell? ⟨w.heap.size, 2, none⟩ = some c := by
    have R : RowW w0 w.heap.size a n c := by rw [← hw0]; exact Row.alloc (Row.new w 28 (w3 a n c)) _
    exact ⟨R.c0, R.c1, R.c2⟩
  have q2 : w0.cell? ⟨w.heap.size + 1, 0, none⟩ = some a' ∧ w0.cell? ⟨w.heap.size + 1, 1, none⟩ = some (.int .i64 n) ∧ w0.cell? ⟨w.heap.size + 1, 2, none⟩ = some c' := by
    have R : RowW w0 (w.heap.size + 1) a' n c' := by rw [← hw0]; exact Row.new1 w _ 28 (w3 a' n c')
    exact ⟨R.c0, R.c1, R.c2⟩
  obtain ⟨p1, p2, p3⟩ := q1
  obtain ⟨p4, p5, p6⟩ := q2
  have hnn : (n != n) = false := by simp
  clear hA hB h1 h2 hm1
  rw [hw0] at HB
  have HW := Lib.hid hw0
  clear hw0
  go_enter Try.func36, Try.ntmps36
  go_wp2_with (first
    | (go_at_call 72; rw [HW.out]; refine (C1.out 0).mono ?_; rintro e w1 ⟨rfl, n1, rfl⟩)
    | (go_at_call 49; refine (C3.out _).mono ?_; rintro e w1 ⟨rfl, n3, rfl⟩))
  go_ret
  exact ⟨rfl, below_drewN HB.out _⟩
set_option maxHeartbeats 1600000 in
theorem c_toWork (a c : Value) (W : Wk) (w : World) (hA : WorkAt w a c W) (hm : wtW W ≤ 1048576) : Calls Try.prog 40 #[wkv a W.n c] w fun e w' => ∃ a' c', e = .returned (wkv a' W.n c') ∧ OwnW w' w.heap.size w'.heap.size a' c' W ∧ Below w.heap.size w w' := by
  obtain ⟨r, n, d⟩ := W
  have hm1 : wt r ≤ 1048576 ∧ d.length ≤ 1048576 := by unfold wtW at hm; simp only at hm; omega
  have HM := Lib.hid hm1
  simp only
  clear hm hm1
  have hb0 := (((below1 w (.cells (w3 a n c) 54)).alloc (by simp) (.cells (w3 nilV 0 nilV) 28)).alloc (by simp; omega) (.cells (w3 nilV 0 nilV) 28))
  have hA0 := hA.below hb0
  have rp : Row _ w.heap.size 54 (w3 a n c) := ((Row.new w 54 (w3 a n c)).alloc (.cells (w3 nilV 0 nilV) 28)).alloc (.cells (w3 nilV 0 nilV) 28)
  have r1 : RowW _ (w.heap.size + 1) nilV 0 nilV := (Row.new1 w (.cells (w3 a n c) 54) 28 (w3 nilV 0 nilV)).alloc (.cells (w3 nilV 0 nilV) 28)
  have r2 : RowW _ (w.heap.size + 1 + 1) nilV 0 nilV := Row.new2 w (.cells (w3 a n c) 54) (.cells (w3 nilV 0 nilV) 28) 28 (w3 nilV 0 nilV)
  have HB := Lib.hid hb0; have HA := Lib.hid hA0; have RP := Lib.hid rp; have R1 := Lib.hid r1; have R2 := Lib.hid r2
  have HAW := Lib.hid hA
  clear hb0 hA0 rp r1 r2 hA
  go_enter Try.func40, Try.ntmps40
  go_wp2_with fail
  refine (c_toIntSS a r _ HA.out.r HM.out.1).mono ?_
  rintro e w1 ⟨v1, rfl, ho1, hb1⟩
  have rp1 := RP.out.below hb1
  have r11 := R1.out.below hb1
  have r21 := R2.out.below hb1
  have hB1 := bst HB.out hb1 HB.out.size
  have hsz : ((((w.alloc (.cells (w3 a n c) 54)).alloc (.cells (w3 nilV 0 nilV) 28)).alloc (.cells (w3 nilV 0 nilV) 28))).heap.size = w.heap.size + 3 := by simp
  rw [hsz] at ho1
  have hw1 : w.heap.size + 3 ≤ w1.heap.size := by have := hb1.size; rw [hsz] at this; exact this
  clear hb1 hsz HB HA RP R1 R2
  have o2 := (ho1.cell ⟨w.heap.size + 1 + 1, 0, none⟩ (by simp) v1).cell ⟨w.heap.size + 1 + 1, 1, none⟩ (by simp) (.int .i64 n)
  have rp2 := (rp1.other ⟨w.heap.size + 1 + 1, 0, none⟩ (by simp; omega) v1).other ⟨w.heap.size + 1 + 1, 1, none⟩ (by simp; omega) (.int .i64 n)
  have r12 : RowW _ _ _ _ _ := Row.other (Row.other r11 ⟨w.heap.size + 1 + 1, 0, none⟩ (by simp) v1) ⟨w.heap.size + 1 + 1, 1, none⟩ (by simp) (.int .i64 n)
  have r22 := (r21.set0 v1).set1 n
  have B2 := (hB1.setCell (p := ⟨w.heap.size + 1 + 1, 0, none⟩) (by simp; omega) v1).setCell (p := ⟨w.heap.size + 1 + 1, 1, none⟩) (by simp; omega) (.int .i64 n)
  have f1 := Row.frozen r21 0
  have k1 := r21.c0
  have f2 := Row.frozen r21 1
  have k2 := r21.c1
  have k3 := Row.cell rp1 1
  have s2 : ((w1.setCell ⟨w.heap.size + 1 + 1, 0, none⟩ v1).setCell ⟨w.heap.size + 1 + 1, 1, none⟩ (.int .i64 n)).heap.size = w1.heap.size := by rw [World.size_setCell, World.size_setCell]
  rw [← s2] at hw1 o2
  have A2 := Lib.hid (HAW.out.d.below B2)
  obtain ⟨p1, q1, hv1⟩ := ho1.shapes.1
  simp only [] at hv1
  have kb := Row.cell rp2 2
  have kd := Row.cell rp1 2
  clear ho1 rp1 r11 r21 hB1 s2
  generalize r.length = nf at hv1
  subst hv1
  have RP := Lib.hid rp2; have R1 := Lib.hid r12; have R2 := Lib.hid r22; have HB := Lib.hid B2; have HO := Lib.hid o2; have HW := Lib.hid hw1
  clear rp2 r12 r22 B2 o2 hw1
  go_wp2_with fail
  clear kb kd k1 f1 k2 f2 k3
  generalize ((w1.setCell ⟨w.heap.size + 1 + 1, 0, none⟩ (.slice p1 nf q1)).setCell ⟨w.heap.size + 1 + 1, 1, none⟩ (.int .i64 n)) = w4 at *
  refine (c_toIntS c d _ A2.out HM.out.2).mono ?_
  rintro e w5 ⟨v3, rfl, ho5, hb5⟩
  have r15 := R1.out.below hb5
  have r25 := R2.out.below hb5
  have hB5 := bst HB.out hb5 HB.out.size
  have o5 := (HO.out.below hb5).addRoots ho5 (by have := HW.out; omega) hb5.size
  have hw5 : w.heap.size + 3 ≤ w5.heap.size := by have := HW.out; have := hb5.size; omega
  clear hb5 HB RP R1 R2 HO HW
  have o6 := o5.cell ⟨w.heap.size + 1 + 1, 2, none⟩ (by simp) v3
  have r16 : RowW _ _ _ _ _ := Row.other r15 ⟨w.heap.size + 1 + 1, 2, none⟩ (by simp) v3
  have r26 := r25.set2 v3
  have B6 := hB5.setCell (p := ⟨w.heap.size + 1 + 1, 2, none⟩) (by simp; omega) v3
  have f1 := Row.frozen r25 2
  have k1 := r25.c2
  have s6 : (w5.setCell ⟨w.heap.size + 1 + 1, 2, none⟩ v3).heap.size = w5.heap.size := World.size_setCell _ _ _
  rw [← s6] at hw5 o6
  obtain ⟨p3, q3, hv3⟩ := o5.shapes.2.2
  clear ho5 o5 r15 r25 hB5 s6
  simp only [] at hv3
  generalize d.length = nr at hv3
  subst hv3
  have R1 := Lib.hid r16; have R2 := Lib.hid r26; have HB := Lib.hid B6; have HO := Lib.hid o6; have HW := Lib.hid hw5
  clear r16 r26 B6 o6 hw5
  go_wp2_with (first
    | (refine wl_loadW rfl _ rfl (w.heap.size + 1 + 1) _ _ _ R2.out rfl ?_)
    | (refine wl_storeW rfl _ _ rfl (w.heap.size + 1) (.slice p1 nf q1) n (.slice p3 nr q3) _ _ _ R1.out rfl rfl rfl rfl ?_))
  refine bodyPost_ret (res_row Try.results40 (Row.put R1.out (w3 (.slice p1 nf q1) n (.slice p3 nr q3))) rfl Try.underlying28 rfl info_work) rfl ⟨_, _, rfl, ?_, below_setRow HB.out (by omega) _⟩
  have := HO.out.whole (w.heap.size + 1) (by omega) (w3 (.slice p1 nf q1) n (.slice p3 nr q3))
  rw [size_setRow]
  exact this.wide (by omega) (Nat.le_refl _)
def szMW (W : Wk) : Nat := sumL W.r W.r.length + W.d.length
def markW (k : Int) (W : Wk) : Wk := ⟨markF k W.r W.r.length, W.n, upFrom (k + sumL W.r W.r.length) W.d.length⟩
set_option maxHeartbeats 1600000 in
theorem c_markWork (lo hi : Nat) (a : Value) (n : Int) (c : Value) (W : Wk) (k : Int) (w : World) (hown : OwnW w lo hi a c W) (h0 : 0 ≤ k) (hm : k + szMW W ≤ 9223372036854775806) (hl : W.r.length ≤ 9223372036854775806) (hs : hi ≤ w.heap.size) :
    Calls Try.prog 37 #[wkv a n c, .int .i64 k] w fun e w' => e = .returned (.int .i64 (k + szMW W)) ∧ OwnW w' lo hi a c (markW k W) ∧ Chg lo hi w w' := by
  have hb0 := below1 w (.cells (w3 a n c) 28)
  obtain ⟨us, hfam⟩ := hown
  have F0 := Lib.hid (show FamH _ lo hi a nilV c us (wh W) from Fam.below hfam hb0)
  have C0 := Lib.hid (Chg.of_below (lo := lo) (hi := hi) hb0)
  have R0 := Lib.hid (show RowW _ _ a n c from Row.new w 28 (w3 a n c))
  have hmk : k + szMW W = k + sumL W.r W.r.length + W.d.length := by unfold szMW; omega
  rw [hmk] at hm ⊢
  have J1 : Hid (k + sumL W.r W.r.length ≤ 9223372036854775806 ∧ 0 ≤ k + sumL W.r W.r.length ∧ k + sumL W.r W.r.length + W.d.length ≤ 9223372036854775806) := ⟨by omega, by omega, by omega⟩
  have HLE := Lib.hid hl; have HS := Lib.hid hs
  clear hfam hb0 hmk hm hl hs
  have c0 := R0.out.c0
  go_enter Try.func37, Try.ntmps37
  go_wp2_with fail
  clear c0
  refine (c_markIntSS lo hi a nilV c us (wh W) k _ F0.out h0 J1.out.1 HLE.out).mono ?_
  rintro e w1 ⟨rfl, f1, ch1⟩
  have R1 : RowW _ _ a n c := Row.chg R0.out ch1 (.inr HS.out)
  have C1 := C0.out.trans ch1
  have hl1 := f1.roots
  have c1 := R1.c2
  have F1 := Lib.hid f1; have RR := Lib.hid R1; have CC := Lib.hid C1; have HR2 := Lib.hid hl1
  clear f1 ch1 R1 C1 F0 R0 C0 hl1
  go_wp2_with fail
  clear c1
  refine (c_markIntS c W.d lo (k + sumL W.r W.r.length) _ HR2.out J1.out.2.1 J1.out.2.2).mono ?_
  rintro e w3 ⟨rfl, ho3, hg3⟩
  have f3 := F1.out.setRoots hg3 ho3
  have ch3 : Chg lo hi w1 w3 := Chg.of_grown hg3 fun g' hg' => by
    have := Fam.blk F1.out (k := 2) (g := g') (by omega) hg'
    exact ⟨this.1, this.2.1⟩
  have F3 := Lib.hid f3; have C4 := Lib.hid (CC.out.trans ch3)
  clear f3 ch3 F1 CC ho3 hg3 HR2
  go_wp2
  go_ret
  exact ⟨rfl, ⟨us, F3.out⟩, C4.out⟩
set_option maxHeartbeats 1600000 in
theorem c_heldWork (a : Value) (n : Int) (c : Value) (W : Wk) (k : Int) (w : World) (hA : WorkAt w a c (markW k W)) (h0 : 0 ≤ k) (hm : k + szMW W ≤ 9223372036854775806) (hl : W.r.length ≤ 9223372036854775806) :
    Calls Try.prog 38 #[wkv a n c, .int .i64 k] w fun e w' => e = .returned (.int .i64 (k + szMW W)) ∧ Below w.heap.size w w' := by
  have HB := Lib.hid (below1 w (.cells (w3 a n c) 28))
  have hA0 := hA.below HB.out
  have H1 := Lib.hid hA0.r; have H3 := Lib.hid hA0.d
  have hmk : k + szMW W = k + sumL W.r W.r.length + W.d.length := by unfold szMW; omega
  rw [hmk] at hm ⊢
  have J1 : Hid (k + sumL W.r W.r.length ≤ 9223372036854775806 ∧ 0 ≤ k + sumL W.r W.r.length ∧ k + sumL W.r W.r.length + W.d.length ≤ 9223372036854775806) := ⟨by omega, by omega, by omega⟩
  have i1 : ¬ k + (sumL W.r W.r.length : Int) < 0 := by omega
  have i2 : ¬ k + (sumL W.r W.r.length : Int) + (W.d.length : Int) < 0 := by omega
  have HLE := Lib.hid hl
  clear hA hA0 hmk hm hl
  have K1 := Lib.hid (c_heldIntSS a W.r k _ H1.out h0 J1.out.1 HLE.out)
  have K3 := Lib.hid (c_heldIntS c W.d.length (k + sumL W.r W.r.length) _ H3.out J1.out.2.1 J1.out.2.2)
  clear H1 H3 J1
  generalize sumL W.r W.r.length = sf at *
  generalize W.d.length = sl at *
  go_enter Try.func38, Try.ntmps38
  go_wp2_with (first
    | (go_at_call 74; refine K1.out.mono ?_; rintro e w1 ⟨rfl, rfl⟩)
    | (go_at_call 51; refine K3.out.mono ?_; rintro e w1 ⟨rfl, rfl⟩))
  go_ret
  exact ⟨rfl, HB.out⟩
end Go.Proofs.Ytkbphmnacdpdgaa
namespace Go.Proofs.Ytkbphmnacdpdgaa
open Go.RowKit Ph

/-- One row moves, or changes where it lies. -/
theorem Fam.turn {w w' : World} {lo hi n : Nat} {T : Nat → TypeId} {v : Nat → Value} {cs : Nat → List Value} (h : Fam w lo hi n T v cs) {k : Nat} (hk : k < n) {u : Value} {ds : List Value} (hg : w.grownBy w' (v k).ownBlock) (ho : w'.ownsRow lo (T k) 1 u ds.length ds) {hi' : Nat} (hh : hi ≤ hi') (hu : ∀ g, u.ownBlock = some g → (hi ≤ g ∧ g < hi') ∨ (v k).ownBlock = some g) : Fam w' lo hi' n T (upd v k u) (upd cs k ds) := by
  have far : ∀ j, j < n → j ≠ k → ∀ g, u.ownBlock = some g → (v j).ownBlock ≠ some g := fun j hj e g hg hjg => by
    rcases hu g hg with h1 | h1
    · have := h.lt j hj g hjg; omega
    · rcases h.ap j k hj hk e with h2 | h2
      · rw [h2] at hjg; cases hjg
      · exact h2 (by rw [hjg, h1])
  refine ⟨fun j hj => ?_, fun j hj g hg => ?_, fun i j hi hj hij => ?_⟩
  · by_cases e : j = k
    · subst e; rw [upd_same, upd_same]; exact ho
    · rw [upd_other _ _ e, upd_other _ _ e]
      refine owns_block (h.own j hj) fun g hjg => hg.block g (owns_lt (h.own j hj) hjg).2 fun e2 => ?_
      rcases h.ap j k hj hk e with h1 | h1
      · rw [hjg] at h1; cases h1
      · exact h1 (by rw [hjg, ← e2])
  · by_cases e : j = k
    · subst e; rw [upd_same] at hg
      rcases hu g hg with h1 | h1
      · exact h1.2
      · have := h.lt j hj g h1; omega
    · rw [upd_other _ _ e] at hg; have := h.lt j hj g hg; omega
  · by_cases e : i = k
    · have e' : j ≠ k := fun h => hij (by omega)
      subst e; rw [upd_same, upd_other _ _ e']
      cases hq : u.ownBlock with
      | none => exact .inl rfl
      | some g => exact .inr fun e2 => far j hj e' g hq e2.symm
    · by_cases e' : j = k
      · subst e'; rw [upd_same, upd_other _ _ e]
        cases hq : (v i).ownBlock with
        | none => exact .inl rfl
        | some g => exact .inr fun e2 => far i hi e g e2.symm hq
      · rw [upd_other _ _ e, upd_other _ _ e']; exact h.ap i j hi hj hij
theorem FamH.turnRoots {w w' : World} {lo hi hi' : Nat} {a b c c' : Value} {us : Nat → Value} {h : H} (k : FamH w lo hi a b c us h) {zs : List Int} (hg : w.grownBy w' c.ownBlock) (ho : Own w' lo c' zs) (hh : hi ≤ hi') (hu : ∀ g, c'.ownBlock = some g → (hi ≤ g ∧ g < hi') ∨ c.ownBlock = some g) : FamH w' lo hi' a b c' us ⟨h.f, h.l, zs⟩ := by
  have := Fam.turn k (k := 2) (by omega) (u := c') (ds := zs.map (Value.int .i64)) hg (by simp only [tyH, List.length_map]; exact ho) hh hu
  refine this.congr (fun j hj => ?_) fun j hj => ?_
  · match j with
    | 0 => rw [upd_other _ _ (by omega)]; rfl
    | 1 => rw [upd_other _ _ (by omega)]; rfl
    | 2 => rw [upd_same]; rfl
    | j + 3 => rw [upd_other _ _ (by omega)]; rfl
  · match j with
    | 0 => rw [upd_other _ _ (by omega)]; rfl
    | 1 => rw [upd_other _ _ (by omega)]; rfl
    | 2 => rw [upd_same]; rfl
    | j + 3 => rw [upd_other _ _ (by omega)]; rfl
/-- One row more behind all: the outer list grows. -/
theorem FamH.growRow {w w' : World} {lo hi hi1 hi' : Nat} {a a' b c u : Value} {us : Nat → Value} {h : H} (k : FamH w lo hi a b c us h) {zs : List Int} (ho : Own w lo u zs) (hu : ∀ g, u.ownBlock = some g → hi ≤ g ∧ g < hi1) (hh : hi ≤ hi1) (hg : w.grownBy w' a.ownBlock)
    (hou : w'.ownsRow lo 26 1 a' (h.f.length + 1) ((List.range h.f.length).map us ++ [u])) (hh' : hi1 ≤ hi') (ha : ∀ g, a'.ownBlock = some g → (hi1 ≤ g ∧ g < hi') ∨ a.ownBlock = some g) :
    FamH w' lo hi' a' b c (upd us h.f.length u) ⟨h.f ++ [zs], h.l, h.r⟩ := by
  have k1 := Fam.grow k (u := u) (ds := zs.map (Value.int .i64)) (by simp only [tyH, List.length_map]; exact ho) hh hu
  have k2 := Fam.turn k1 (k := 0) (by omega) (u := a') (ds := (List.range h.f.length).map us ++ [u]) (w' := w') (by rw [upd_other _ _ (by omega)]; exact hg) (by simp only [tyH, List.length_append, List.length_map, List.length_range, List.length_singleton]; exact hou) hh' (by rw [upd_other _ _ (by omega)]; exact ha)
  unfold FamH
  have e : (h.f ++ [zs]).length + 3 = h.f.length + 3 + 1 := by simp
  rw [e]
  refine k2.congr (fun j hj => ?_) fun j hj => ?_
  · match j with
    | 0 => rw [upd_same]; rfl
    | 1 => rw [upd_other _ _ (by omega), upd_other _ _ (by omega)]; rfl
    | 2 => rw [upd_other _ _ (by omega), upd_other _ _ (by omega)]; rfl
    | j + 3 =>
      rw [upd_other _ _ (by omega)]
      by_cases e : j = h.f.length
      · subst e; rw [upd_same]; simp only [vH]; rw [upd_same]
      · rw [upd_other _ _ (by omega)]; simp only [vH]; rw [upd_other _ _ e]
  · match j with
    | 0 =>
      rw [upd_same]; simp only [cH, List.length_append, List.length_singleton]
      rw [List.range_succ, List.map_append]
      congr 1
      · exact List.map_congr_left fun x hx => by have : x < h.f.length := by simpa using hx
                                                 rw [upd_other _ _ (by omega)]
      · simp [upd]
    | 1 => rw [upd_other _ _ (by omega), upd_other _ _ (by omega)]; rfl
    | 2 => rw [upd_other _ _ (by omega), upd_other _ _ (by omega)]; rfl
    | j + 3 =>
      rw [upd_other _ _ (by omega)]
      by_cases e : j = h.f.length
      · subst e; rw [upd_same]; simp [cH]
      · rw [upd_other _ _ (by omega)]; simp only [cH]
        have : j < h.f.length := by omega
        simp [List.getD, List.getElem?_append_left this]
/-- What is appended, cell by cell. -/
def SrcAt (w : World) (x : Value) (ys : List Value) : Prop := ∃ ao c, x = .slice ao ys.length c ∧ (∀ u ∈ ys, u.oneCell' = true) ∧ (0 < ys.length → ∃ b off, ao = some ⟨b, off, none⟩ ∧ ∀ j, j < ys.length → w.cell? ⟨b, off + j, none⟩ = ys[j]?)
theorem IntsAt.src {w : World} {x : Value} {zs : List Int} (h : IntsAt w x zs) : SrcAt w x (zs.map (Value.int .i64)) := by
  obtain ⟨ao, c, rfl, hc⟩ := h
  refine ⟨ao, c, by rw [List.length_map], fun u hu => by obtain ⟨_, _, rfl⟩ := List.mem_map.1 hu; rfl, fun h0 => ?_⟩
  rw [List.length_map] at h0 ⊢
  obtain ⟨b, off, ha, hcc⟩ := hc h0
  exact ⟨b, off, ha, fun j hj => by rw [hcc j hj, List.getElem?_map, List.getElem?_eq_getElem hj]; simp [List.getD, List.getElem?_eq_getElem hj]⟩
theorem run_appOwn {P : Program} (w : World) (base : Nat) (t ty e : TypeId) (i : TypeInfo) (z : Value) (bytes : Nat) (ht : P.underlying t = some (.slice e)) (hi : P.info? e = some i) (hz : i.zero = some z) (hsize : i.size = 1) (hby : i.bytes = bytes) (hzs : z.cells.size = 1)
    (v : Value) (n : Nat) (xs : List Value) (hown : w.ownsRow base e 1 v n xs) (x : Value) (ys : List Value) (hs : SrcAt w x ys) (h63 : n + ys.length ≤ maxLen) (hbytes : (n + ys.length) * bytes ≤ 140737488355328) (hbase : base ≤ w.heap.size) :
    ∃ v' w', (Builtin.append_ #[t, t] ty #[v, x]).run P w = .ok v' w' ∧ w'.ownsRow base e 1 v' (n + ys.length) (xs ++ ys) ∧ w.grownBy w' v.ownBlock ∧ (v'.ownBlock = v.ownBlock ∨ v'.ownBlock = some w.heap.size) := by
  obtain ⟨ao, c, rfl, h1, hc⟩ := hs
  by_cases h0 : 0 < ys.length
  · obtain ⟨b, off, rfl, hcc⟩ := hc h0
    obtain ⟨v', w', hr, ho, hg, _, hb⟩ := run_append_own_at w base t ty e i z 1 bytes ht hi hz hsize hby hzs (by omega) v n xs hown ⟨b, off, none⟩ ys.length c ys (by omega) (fun j u hu => by
      have hj : j < ys.length := by obtain ⟨h1, _⟩ := List.getElem?_eq_some_iff.1 hu; exact h1
      rw [Addr.add_lit, hcc j hj, hu]) h1 h63 hbytes hbase
    exact ⟨v', w', hr, ho, hg, hb⟩
  · have hy : ys = [] := List.eq_nil_of_length_eq_zero (by omega)
    subst hy
    have hsrc : Src P i.size t (.slice ao 0 c) 0 [] w := by
      cases ao with
      | none => exact Src.ofNil w ht c
      | some ad => exact Src.ofSlice w ht ad 0 c [] (by simp) (fun j u hu => by simp at hu) (fun u hu => by simp at hu)
    have hv : ∃ base' len cap, v = .slice base' len cap ∧ len ≤ cap := by
      rcases hown.2 with ⟨rfl, _⟩ | ⟨g, cap, cur, rfl, _, _, hle, _⟩
      · exact ⟨none, 0, 0, rfl, Nat.le_refl _⟩
      · exact ⟨_, _, _, rfl, hle⟩
    obtain ⟨base', len, cap, rfl, hle⟩ := hv
    exact ⟨_, w, run_append_nothing w t t ty e i ht hi base' len cap hle _ hsrc, by simpa using hown, World.grownBy.refl _ _, .inl rfl⟩
theorem wl_appOwn {P : Program} (w : World) {ops : Array Oper} {rest : List Oper} {o : Oper} {q : Act} {Q : Exit → Act → World → Prop} (hgd : o.guard = none) (s x : Operand) (t : TypeId) (hop : o.op = Op.call { callee := Callee.builtin Builtin.append, args := #[s, x], argTypes := #[t, t] })
    (base : Nat) (e : TypeId) (i : TypeInfo) (z : Value) (bytes : Nat) (ht : P.underlying t = some (.slice e)) (hi : P.info? e = some i) (hz : i.zero = some z) (hsize : i.size = 1) (hby : i.bytes = bytes) (hzs : z.cells.size = 1)
    (v : Value) (n : Nat) (xs : List Value) (hs : q.eval s = v) (hown : w.ownsRow base e 1 v n xs) (y : Value) (ys : List Value) (hx : q.eval x = y) (hy : SrcAt w y ys) (h63 : n + ys.length ≤ maxLen) (hbytes : (n + ys.length) * bytes ≤ 140737488355328) (hbase : base ≤ w.heap.size)
    (hK : ∀ v' w', w'.ownsRow base e 1 v' (n + ys.length) (xs ++ ys) → w.grownBy w' v.ownBlock → (v'.ownBlock = v.ownBlock ∨ v'.ownBlock = some w.heap.size) → wpList P ops Q rest (q.put o.dst v') w') : wpList P ops Q (o :: rest) q w := by
  obtain ⟨v', w', hrun, h1, h2, h3⟩ := run_appOwn (P := P) w base t o.type e i z bytes ht hi hz hsize hby hzs v n xs hown y ys hy h63 hbytes hbase
  refine wpList_plain hgd fun K hK' => ?_
  unfold Oper.wp
  simp [execOp, hop, resolve, invoke, builtin, hs, hx, hrun, Result.andThen]
  exact hK' _ _ (hK v' w' h1 h2 h3)
theorem c_copyInts (v : Value) (zs : List Int) (w : World) (hA : IntsAt w v zs) (hm : zs.length ≤ 1048576) : Calls Try.prog 84 #[v] w fun e w' => ∃ v', e = .returned v' ∧ Own w' w.heap.size v' zs ∧ Below w.heap.size w w' := by
  obtain ⟨i0, hi, hz0, hz1, hz2⟩ := info_parts info_int
  have HS := Lib.hid hA.src
  have HM : Hid ((zs.map (Value.int .i64)).length ≤ 1048576) := by unfold Hid; rw [List.length_map]; exact hm
  clear hA
  go_enter Try.func84, Try.ntmps84
  go_wp2_with (at_builtin; refine wl_appOwn _ rfl _ _ 26 rfl w.heap.size 3 i0 (.int .i64 0) 8 Try.underlying26 hi hz0 hz1 hz2 rfl (.slice none 0 0) 0 [] rfl ⟨rfl, .inl ⟨rfl, rfl⟩⟩ v _ rfl HS.out (by have := HM.out; unfold maxLen; omega) (by have := HM.out; omega) (Nat.le_refl _) ?_; intro v1 w1 ho hg hbl; have O1 := Lib.hid ho; have G1 := Lib.hid hg; clear ho hg hbl)
  go_ret
  refine ⟨_, rfl, ?_, (Below.refl w.heap.size w).grown G1.out (Nat.le_refl _) (fun k hk => by cases hk)⟩
  have := O1.out
  rw [List.nil_append, Nat.zero_add, List.length_map] at this
  exact this
end Go.Proofs.Ytkbphmnacdpdgaa
namespace Go.Proofs.Ytkbphmnacdpdgaa
open Go.RowKit Ph Kw

/-- A slice that reads as zs and that may be cut. -/
def IntsC (w : World) (v : Value) (zs : List Int) : Prop := IntsAt w v zs ∧ ∀ a n c, v = .slice a n c → n ≤ c
theorem IntsC.below {w w' : World} {v : Value} {zs : List Int} (h : IntsC w v zs) (hb : Below w.heap.size w w') : IntsC w' v zs := ⟨h.1.below hb, h.2⟩
theorem IntsC.shape {w : World} {v : Value} {zs : List Int} (h : IntsC w v zs) : ∃ a c, v = .slice a zs.length c ∧ zs.length ≤ c := by
  obtain ⟨a, c, rfl⟩ := h.1.shape
  exact ⟨a, c, rfl, h.2 a _ c rfl⟩
theorem Own.intsC {w : World} {B : Nat} {v : Value} {zs : List Int} (h : Own w B v zs) : IntsC w v zs := by
  refine ⟨h.ints, fun a n c e => ?_⟩
  rcases h.2 with ⟨h1, _⟩ | ⟨g, cap, cur, h1, _, _, h2, _⟩
  · rw [h1] at e; cases e; exact Nat.le_refl _
  · rw [h1] at e; cases e; exact h2
/-- A crew by value. -/
abbrev crv (f : Nat → Value) (n : Int) (d : Value) : Value := .agg #[f 0, f 1, f 2, .int .i64 n, d]
abbrev cr5 (f : Nat → Value) (n : Int) (d : Value) : Array Value := #[f 0, f 1, f 2, .int .i64 n, d]
structure CrewAt (w : World) (f : Nat → Value) (d : Value) (W : Wk) : Prop where
  r : ∀ k, k < 3 → IntsC w (f k) (row W k)
  d : IntsC w d W.d
theorem CrewAt.below {w w' : World} {f : Nat → Value} {d : Value} {W : Wk} (h : CrewAt w f d W) (hb : Below w.heap.size w w') : CrewAt w' f d W := ⟨fun k hk => (h.r k hk).below hb, h.d.below hb⟩
def RowC (w : World) (g : Nat) (f : Nat → Value) (n : Int) (d : Value) : Prop := Row w g 76 (cr5 f n d)
section
variable {w w' : World} {g : Nat} {f : Nat → Value} {n : Int} {d : Value}
theorem RowC.row (h : RowC w g f n d) {k : Nat} (hk : k < 3) : w.cell? ⟨g, k, none⟩ = some (f k) := by
  rcases lt3 hk with rfl | rfl | rfl
  · exact Row.cell h 0
  · exact Row.cell h 1
  · exact Row.cell h 2
theorem RowC.nn (h : RowC w g f n d) : w.cell? ⟨g, 3, none⟩ = some (.int .i64 n) := Row.cell h 3
theorem RowC.dd (h : RowC w g f n d) : w.cell? ⟨g, 4, none⟩ = some d := Row.cell h 4
theorem RowC.below (h : RowC w g f n d) (hb : Below w.heap.size w w') : RowC w' g f n d := Row.below h hb
theorem RowC.setR (h : RowC w g f n d) {k : Nat} (hk : k < 3) (x : Value) : RowC (w.setCell ⟨g, k, none⟩ x) g (upd f k x) n d := by
  refine (Row.set h k x).trans ?_
  rcases lt3 hk with rfl | rfl | rfl <;> simp [upd]
end
theorem info_crew : (Try.prog.info? 76).map (·.size) = some 5 := by kernel_rfl
theorem wl_loadC {ops : Array Oper} {rest : List Oper} {o : Oper} {q : Act} {w : World} {Q : Exit → Act → World → Prop} (hgd : o.guard = none) (x : Operand) (ho : o.op = .load 76 x) (g : Nat) (f : Nat → Value) (n : Int) (d : Value) (hg : RowC w g f n d)
    (hx : q.eval x = .pointer (some ⟨g, 0, none⟩)) (h : wpList Try.prog ops Q rest (q.put o.dst (crv f n d)) w) : wpList Try.prog ops Q (o :: rest) q w :=
  wpList_load_row hgd 76 x ho g hx 76 (cr5 f n d) (0, 0) _ hg Try.underlying76 rfl info_crew h
theorem wl_storeC {ops : Array Oper} {rest : List Oper} {o : Oper} {q : Act} {w : World} {Q : Exit → Act → World → Prop} (hgd : o.guard = none) (x y : Operand) (ho : o.op = .store 76 x y) (g : Nat) (f : Nat → Value) (n : Int) (d : Value) (f0 : Nat → Value) (n0 : Int) (d0 : Value) (hg : RowC w g f0 n0 d0)
    (hx : q.eval x = .pointer (some ⟨g, 0, none⟩)) (hy : q.eval y = crv f n d) (h0 : (f 0).oneCell' = true) (h1 : (f 1).oneCell' = true) (h2 : (f 2).oneCell' = true) (h3 : d.oneCell' = true) (h : wpList Try.prog ops Q rest (q.put o.dst undef) (w.setRow g (cr5 f n d))) : wpList Try.prog ops Q (o :: rest) q w :=
  wpList_store_row hgd 76 x y ho g (cr5 f n d) hx hy 76 (cr5 f0 n0 d0) hg info_crew rfl (by simp [Value.oneCell']; exact ⟨h0, h1, h2, h3⟩) h
theorem IntsC.one {w : World} {v : Value} {zs : List Int} (h : IntsC w v zs) : v.oneCell' = true := by obtain ⟨a, c, rfl, _⟩ := h.shape; rfl
/-- A row is put into a crew. -/
theorem CrewAt.putR {w : World} {f : Nat → Value} {d : Value} {W : Wk} (h : CrewAt w f d W) (hl : W.r.length = 3) {k : Nat} (hk : k < 3) {x : Value} {zs : List Int} (hx : IntsC w x zs) (n : Int) : CrewAt w (upd f k x) d ⟨W.r.set k zs, n, W.d⟩ := by
  refine ⟨fun j hj => ?_, h.d⟩
  rw [row_set (by omega)]
  by_cases e : j = k
  · subst e; rw [upd_same, if_pos rfl]; exact hx
  · rw [upd_other _ _ e, if_neg e]; exact h.r j hj

theorem c_isWorker (z : Int) (w : World) : Calls Try.prog 82 #[.int .i64 z] w fun e w' => e = .returned (.bool (isW z)) ∧ w = w' := by
  by_cases h0 : 0 ≤ z
  · by_cases h1 : z ≤ 2
    · have h2 : z < 3 := by omega
      have HR : Hid (isW z = true) := isW_iff.2 ⟨h0, h1⟩
      go_enter Try.func82, Try.ntmps82
      go_wp2
      go_ret
      exact ⟨r_b HR.out.symm, rfl⟩
    · have h2 : ¬ z < 3 := by omega
      have HR : Hid (isW z = false) := by unfold Hid isW; simp; omega
      clear h1
      go_enter Try.func82, Try.ntmps82
      go_wp2
      go_ret
      exact ⟨r_b HR.out.symm, rfl⟩
  · have HR : Hid (isW z = false) := by unfold Hid isW; simp; omega
    go_enter Try.func82, Try.ntmps82
    go_wp2
    go_ret
    exact ⟨r_b HR.out.symm, rfl⟩
def isCnt (z : Int) : Bool := decide (0 ≤ z) && decide (z ≤ 100)
theorem isCnt_iff {z : Int} : isCnt z = true ↔ 0 ≤ z ∧ z ≤ 100 := by simp [isCnt]
theorem c_isItemCount (z : Int) (w : World) : Calls Try.prog 70 #[.int .i64 z] w fun e w' => e = .returned (.bool (isCnt z)) ∧ w = w' := by
  by_cases h0 : 0 ≤ z
  · by_cases h1 : z ≤ 100
    · have HR : Hid (isCnt z = true) := isCnt_iff.2 ⟨h0, h1⟩
      go_enter Try.func70, Try.ntmps70
      go_wp2
      go_ret
      exact ⟨r_b HR.out.symm, rfl⟩
    · have HR : Hid (isCnt z = false) := by unfold Hid isCnt; simp; omega
      go_enter Try.func70, Try.ntmps70
      go_wp2
      go_ret
      exact ⟨r_b HR.out.symm, rfl⟩
  · have HR : Hid (isCnt z = false) := by unfold Hid isCnt; simp; omega
    go_enter Try.func70, Try.ntmps70
    go_wp2
    go_ret
    exact ⟨r_b HR.out.symm, rfl⟩
set_option maxHeartbeats 800000 in
theorem c_hasRoom (f : Nat → Value) (n : Int) (d : Value) (k : Nat) (p : Option Addr) (m c : Nat) (w : World) (hk : k < 3) (hf : f k = .slice p m c) : Calls Try.prog 91 #[crv f n d, .int .i64 k] w fun e w' => e = .returned (.bool (decide (m < 12))) ∧ Below w.heap.size w w' := by
  have HB := Lib.hid (below1 w (.cells (cr5 f n d) 76))
  have R0 : RowC (w.alloc (.cells (cr5 f n d) 76)) w.heap.size f n d := Row.new w _ _
  have q := R0.row hk
  rw [hf] at q
  clear R0 hf
  have i0 : (0 : Int) ≤ (k : Int) := by omega
  have i1 : (k : Int) < 3 := by omega
  by_cases hm : m < 12
  · have j : (m : Int) < 12 := by omega
    have HR : Hid (decide (m < 12) = true) := decide_eq_true hm
    clear hm hk
    go_enter Try.func91, Try.ntmps91
    go_wp2
    go_ret
    exact ⟨r_b HR.out.symm, HB.out⟩
  · have j : ¬ (m : Int) < 12 := by omega
    have HR : Hid (decide (m < 12) = false) := decide_eq_false hm
    clear hm hk
    go_enter Try.func91, Try.ntmps91
    go_wp2
    go_ret
    exact ⟨r_b HR.out.symm, HB.out⟩
set_option maxHeartbeats 800000 in
theorem c_withLast (v : Value) (zs : List Int) (z : Int) (w : World) (hv : IntsC w v zs) (hl : zs.length ≤ 1048576) : Calls Try.prog 90 #[v, .int .i64 z] w fun e w' => ∃ v', e = .returned v' ∧ Own w' w.heap.size v' (zs ++ [z]) ∧ Below w.heap.size w w' := by
  obtain ⟨i, hi, hz0, hz1, hz2⟩ := info_parts info_int
  obtain ⟨a, c, rfl, hc⟩ := hv.shape
  have hb0 := below1 w (.cells #[.int .i64 z] 3)
  have HA := Lib.hid (hv.1.below hb0)
  have HB := Lib.hid hb0
  have HL := Lib.hid hl
  clear hv hb0
  generalize hn : zs.length = n at *
  have HN := Lib.hid hn; clear hn
  have h63 : (n : Int) ≤ 9223372036854775807 := by omega
  go_enter Try.func90, Try.ntmps90
  go_wp2_with (at_builtin; refine wpList_append_grows (w.alloc (.cells #[.int .i64 z] 3)) rfl _ _ 26 rfl 3 i (.int .i64 0) 1 8 Try.underlying26 hi hz0 hz1 hz2 rfl (by omega) a n n (zs.map (Value.int .i64)) rfl ?h1 (by simp [HN.out]) ?h2 ⟨w.heap.size, 0, none⟩ 1 1 [.int .i64 z] rfl rfl ?h3 (fun u hu => by simp at hu; subst hu; rfl) (by omega) (by unfold maxLen; omega) (by omega) ?h4)
  case h1 =>
    intro e
    have := HA.out
    subst e
    obtain ⟨a', c', hv, hc'⟩ := this
    cases hv
    by_cases h0 : 0 < zs.length
    · obtain ⟨_, _, hx, _⟩ := hc' h0
      cases hx
    · have := HN.out; omega
  case h2 =>
    intro b hb j u hu
    have hj : j < zs.length := by
      obtain ⟨h1, _⟩ := List.getElem?_eq_some_iff.1 hu
      simpa using h1
    obtain ⟨b', off, ha, hcc⟩ := IntsAt.at' HA.out (by have := HN.out; omega)
    subst hb
    cases ha
    have := hcc j (by have := HN.out; omega)
    rw [Addr.add_lit, this]
    rw [List.getElem?_map, List.getElem?_eq_getElem hj] at hu
    simp only [Option.map_some, Option.some.injEq] at hu
    rw [← hu]; simp [List.getD, List.getElem?_eq_getElem hj]
  case h3 =>
    intro j u hu
    match j, hu with
    | 0, hu => simp at hu; subst hu; simp [Addr.add]
  case h4 =>
    intro v1 w1 ho hg
    have O1 := Lib.hid ho; have G1 := Lib.hid hg; clear ho hg
    go_wp2
    go_ret
    refine ⟨_, rfl, ?_, HB.out.grown G1.out (by simp) (fun k hk => by cases hk)⟩
    have h := O1.out
    have e : (zs ++ [z]).length = n + 1 := by simp [HN.out]
    unfold Own
    rw [e, List.map_append]
    exact owns_mono h fun g hg => Nat.le_of_succ_le (owns_lt h hg).1
theorem cutFirst {w : World} {b off n c : Nat} {zs : List Int} (hv : IntsC w (.slice (some ⟨b, off, none⟩) n c) zs) (hn : zs.length = n) (h0 : 0 < n) : IntsC w (.slice (some ⟨b, off + 1, none⟩) (n - 1) (c - 1)) (zs.drop 1) := by
  have hl : (zs.drop 1).length = n - 1 := by rw [List.length_drop, hn]
  have hc := hv.2 _ _ _ rfl
  refine ⟨⟨some ⟨b, off + 1, none⟩, c - 1, by rw [hl], fun _ => ⟨b, off + 1, rfl, fun i hi => ?_⟩⟩, fun _ _ _ e => by cases e; omega⟩
  obtain ⟨b', off', e, hcc⟩ := IntsAt.at' hv.1 h0
  cases e
  rw [hl] at hi
  rw [show off + 1 + i = off + (i + 1) by omega, hcc (i + 1) (by omega)]
  have e : (zs.drop 1).getD i 0 = zs.getD (i + 1) 0 := by simp [List.getD]
  rw [e]
theorem cutFirst0 {w : World} {b off n : Nat} {zs : List Int} (hn : zs.length = n) (h0 : n = 1) : IntsC w (.slice (some ⟨b, off, none⟩) 0 0) (zs.drop 1) := by
  have hl : (zs.drop 1).length = 0 := by rw [List.length_drop, hn]; omega
  exact ⟨⟨some ⟨b, off, none⟩, 0, by rw [hl], fun h => by rw [hl] at h; omega⟩, fun _ _ _ e => by cases e; omega⟩
set_option maxHeartbeats 800000 in
theorem c_takeFirst (v : Value) (zs : List Int) (w : World) (hv : IntsC w v zs) (h0 : 0 < zs.length) (hm : zs.length ≤ 1048576) : Calls Try.prog 92 #[v] w fun e w' => ∃ v', e = .returned (.tuple #[v', .int .i64 (zs.getD 0 0)]) ∧ (∃ p q, v' = .slice p (zs.length - 1) q) ∧ (∀ w0, IntsC w0 v zs → IntsC w0 v' (zs.drop 1)) ∧ ∃ n, w' = w.drewN n := by
  obtain ⟨a, c, rfl, hc⟩ := hv.shape
  obtain ⟨b, off, rfl, hcc⟩ := IntsAt.at' hv.1 h0
  generalize hn : zs.length = n at *
  have q := hcc 0 (by omega)
  rw [Nat.add_zero] at q
  by_cases hc1 : c = 1
  · subst hc1
    obtain rfl : n = 1 := by omega
    have HV : Hid (∀ w0, IntsC w0 (.slice (some ⟨b, off, none⟩) 1 1) zs → IntsC w0 (.slice (some ⟨b, off, none⟩) 0 0) (zs.drop 1)) := fun w0 _ => cutFirst0 hn rfl
    generalize zs.getD 0 0 = z at *
    clear hcc hv hn h0 hc
    go_enter Try.func92, Try.ntmps92
    go_wp2
    go_quiet (fail)
    go_wp2
    go_ret2
    exact ⟨_, rfl, ⟨_, _, rfl⟩, HV.out, _, rfl⟩
  · have HV : Hid (∀ w0, IntsC w0 (.slice (some ⟨b, off, none⟩) n c) zs → IntsC w0 (.slice (some ⟨b, off + 1, none⟩) (n - 1) (c - 1)) (zs.drop 1)) := fun w0 h => cutFirst h hn h0
    generalize zs.getD 0 0 = z at *
    have i1 : (0 : Int) < (n : Int) := by omega
    have i2 : 1 ≤ n := by omega
    have i3 : ¬ c = 1 := hc1
    clear hcc hv hn h0 hc1
    go_enter Try.func92, Try.ntmps92
    go_wp2
    go_quiet (fail)
    go_wp2
    go_ret2
    exact ⟨_, rfl, ⟨_, _, rfl⟩, HV.out, _, rfl⟩
theorem Own.cell {w : World} {B : Nat} {v : Value} {zs : List Int} (h : Own w B v zs) (p : Addr) (hp : p.block < B) (x : Value) : Own (w.setCell p x) B v zs := owns_block h fun g hg => heap_setCell_other w p g _ (by have := (owns_lt h hg).1; omega)
theorem Own.whole {w : World} {B : Nat} {v : Value} {zs : List Int} (h : Own w B v zs) (g : Nat) (hp : g < B) (cs : Array Value) : Own (w.setRow g cs) B v zs := owns_block h fun g' hg => setRow_other w g g' cs (by have := (owns_lt h hg).1; omega)
abbrev nF : Nat → Value := fun _ => nilV
/-- A crew reads so in each world that has what w0 has and, in the blocks of which P holds, what w has. -/
def Sep (w0 : World) (P : Nat → Prop) (w : World) (f : Nat → Value) (d : Value) (W : Wk) : Prop := ∀ w2, Below w0.heap.size w0 w2 → (∀ i, P i → i < w.heap.size → w2.heap[i]? = w.heap[i]?) → CrewAt w2 f d W
section
variable {w0 w w' : World} {P : Nat → Prop} {f : Nat → Value} {d : Value} {W : Wk}
theorem Sep.now (h : Sep w0 P w f d W) (hb : Below w0.heap.size w0 w) : CrewAt w f d W := h w hb fun _ _ _ => rfl
theorem Sep.keep (h : Sep w0 P w f d W) (hs : w.heap.size ≤ w'.heap.size) (hk : ∀ i, P i → i < w.heap.size → w'.heap[i]? = w.heap[i]?) : Sep w0 P w' f d W := fun w2 h1 h2 => h w2 h1 fun i hi hl => (h2 i hi (by omega)).trans (hk i hi hl)
theorem Sep.below (h : Sep w0 P w f d W) (hb : Below w.heap.size w w') : Sep w0 P w' f d W := h.keep hb.size fun i _ hl => hb.block i hl
theorem Sep.turn {Q : Nat → Prop} (h : Sep w0 P w f d W) (hb : Below w.heap.size w w') (hq : ∀ i, i < w.heap.size → P i → Q i) : Sep w0 Q w' f d W := fun w2 h1 h2 => h w2 h1 fun i hi hl => (h2 i (hq i hl hi) (Nat.lt_of_lt_of_le hl hb.size)).trans (hb.block i hl)
theorem Sep.start (h : CrewAt w0 f d W) (w : World) (P : Nat → Prop) : Sep w0 P w f d W := fun _ h1 _ => h.below h1
theorem Sep.whole (h : Sep w0 P w f d W) (g : Nat) (hp : ¬ P g) (cs : Array Value) : Sep w0 P (w.setRow g cs) f d W := h.keep (by rw [size_setRow]; exact Nat.le_refl _) fun i hi _ => setRow_other w g i cs (fun e => hp (e ▸ hi))
end
/-- How a call on crews ends. -/
def EndC (w0 : World) (P : Nat → Prop) (W : Wk) (ok : Bool) (w : World) (e : Ending) (w' : World) : Prop :=
  ∃ f n d, e = .returned (.tuple #[crv f n d, .bool ok]) ∧ ((f 0).oneCell' = true ∧ (f 1).oneCell' = true ∧ (f 2).oneCell' = true ∧ d.oneCell' = true) ∧ (ok = true → n = W.n ∧ Sep w0 P w' f d W) ∧ Below w.heap.size w w'
theorem endC_no {w0 : World} {P : Nat → Prop} {W : Wk} {w w' : World} (hb : Below w.heap.size w w') : EndC w0 P W false w (.returned (.tuple #[crv nF 0 nilV, .bool false])) w' := ⟨nF, 0, nilV, rfl, ⟨rfl, rfl, rfl, rfl⟩, fun h => absurd h (by decide), hb⟩
theorem endC_yes {w0 : World} {P : Nat → Prop} {W : Wk} {w w' : World} {f : Nat → Value} {d : Value} (ho : (f 0).oneCell' = true ∧ (f 1).oneCell' = true ∧ (f 2).oneCell' = true ∧ d.oneCell' = true) (hc : Sep w0 P w' f d W) (hb : Below w.heap.size w w') : EndC w0 P W true w (.returned (.tuple #[crv f W.n d, .bool true])) w' :=
  ⟨f, W.n, d, rfl, ho, fun _ => ⟨rfl, hc⟩, hb⟩
theorem EndC.mono {w0 : World} {P : Nat → Prop} {W W' : Wk} {ok ok' : Bool} {w w' : World} {e : Ending} (h : EndC w0 P W ok w e w') (h1 : ok = ok') (h2 : ok = true → W = W') : EndC w0 P W' ok' w e w' := by
  subst h1
  obtain ⟨f, n, d, he, ho, hc, hb⟩ := h
  exact ⟨f, n, d, he, ho, fun h => by have := hc h; rw [h2 h] at this; exact this, hb⟩
section
variable {w0 w w' : World} {P : Nat → Prop} {B : Nat} {f : Nat → Value} {d x y : Value} {W : Wk} {k j : Nat}
theorem Sep.old (h : Sep w0 P w f d W) (hb : Below w.heap.size w w') {w2 : World} (h1 : Below w0.heap.size w0 w2) (h2 : ∀ i, P i → i < w'.heap.size → w2.heap[i]? = w'.heap[i]?) : CrewAt w2 f d W := (h.below hb) w2 h1 h2
theorem own_sep {zs : List Int} (h : Own w' B y zs) (hB : ∀ i, B ≤ i → P i) {w2 : World} (h2 : ∀ i, P i → i < w'.heap.size → w2.heap[i]? = w'.heap[i]?) : IntsC w2 y zs :=
  (show Own w2 B y zs from owns_block h fun g hg => h2 g (hB g (owns_lt h hg).1) (owns_lt h hg).2).intsC
theorem sepSteal {z : Int} (h : Sep w0 P w f d W) (hb : Below w.heap.size w w') (hl : W.r.length = 3) (hk : k < 3) (hj : j < 3) (hz : (row W j).getD 0 0 = z) (hx : ∀ w2, IntsC w2 (f j) (row W j) → IntsC w2 x ((row W j).drop 1)) (ho : Own w' B y (row W k ++ [z])) (hB : ∀ i, B ≤ i → P i) : Sep w0 P w' (upd (upd f j x) k y) d (steal W k j) := by
  intro w2 h1 h2
  have hc := h.old hb h1 h2
  have h3 := hc.putR hl hj (hx w2 (hc.r j hj)) W.n
  subst hz
  exact h3.putR (W := ⟨W.r.set j ((row W j).drop 1), W.n, W.d⟩) (by simp [hl]) hk (own_sep ho hB h2) W.n
end
end Go.Proofs.Ytkbphmnacdpdgaa
namespace Go.Proofs.Ytkbphmnacdpdgaa
open Go.RowKit Ph Kw

theorem RowC.other {w : World} {g : Nat} {f : Nat → Value} {n : Int} {d : Value} (h : RowC w g f n d) (p : Addr) (hp : p.block ≠ g) (x : Value) : RowC (w.setCell p x) g f n d := Row.other h p (fun e => hp e.symm) x
end Go.Proofs.Ytkbphmnacdpdgaa
namespace Go.Proofs.Ytkbphmnacdpdgaa
open Go.RowKit Ph Kw
set_option maxHeartbeats 3200000 in
set_option maxRecDepth 100000 in
theorem c_steal_yes (f : Nat → Value) (d : Value) (W : Wk) (k j : Nat) (w : World) (hA : CrewAt w f d W) (w0 : World) (P : Nat → Prop) (hSp : Sep w0 P w f d W) (hLL : ∀ i, w.heap.size ≤ i → P i) (hs : Sm W) (hk : k < 3) (hj : j < 3) (hjk : j ≠ k) (h : 0 < (row W j).length) (h12 : (row W k).length < 12) : Calls Try.prog 68 #[crv f W.n d, .int .i64 k, .int .i64 j] w (EndC w0 P (steal W k j) true w) := by
  have hb0 := (below1 w (.cells (cr5 f W.n d) 76)).alloc (by simp) (.cells (cr5 nF 0 nilV) 76)
  have rc0 : RowC ((w.alloc (.cells (cr5 f W.n d) 76)).alloc (.cells (cr5 nF 0 nilV) 76)) w.heap.size f W.n d := Row.alloc (Row.new w 76 (cr5 f W.n d)) _
  have rr0 : RowC ((w.alloc (.cells (cr5 f W.n d) 76)).alloc (.cells (cr5 nF 0 nilV) 76)) (w.heap.size + 1) nF 0 nilV := Row.new1 w _ 76 (cr5 nF 0 nilV)
  have hsz : ((w.alloc (.cells (cr5 f W.n d) 76)).alloc (.cells (cr5 nF 0 nilV) 76)).heap.size = w.heap.size + 2 := by simp
  have RR := Lib.hid rr0; have RC := Lib.hid rc0; have HB := Lib.hid hb0
  have HSP := Lib.hid hSp; have HLV := Lib.hid hLL; clear hSp hLL
  obtain ⟨p, c, hf, hc⟩ := (hA.r k hk).shape
  obtain ⟨p2, c2, hf2, hc2⟩ := (hA.r j hj).shape
  have HK := Lib.hid hk; have HF := Lib.hid hf; have HKJ := Lib.hid hj; have HF2 := Lib.hid hf2; have HNE := Lib.hid hjk
  have HJ : Hid (isW (j : Int) = true) := isW_iff.2 ⟨by omega, by omega⟩
  have e : ((j : Int) == (k : Int)) = false := by simp; omega
  have q := rc0.row hj
  rw [hf2] at q
  have i0 : (0 : Int) ≤ (j : Int) := by omega
  have i1 : (j : Int) < 3 := by omega
  have i2 : (0 : Int) ≤ (k : Int) := by omega
  have i3 : (k : Int) < 3 := by omega
  have h1 : (((row W j).length : Int) == 0) = false := by rw [beq_eq_false_iff_ne]; omega
  have HM : Hid (decide ((row W k).length < 12) = true) := decide_eq_true h12
  have HL := Lib.hid (hs.rows j hj); have HLK := Lib.hid h12
  have HS := Lib.hid hs; have HW := Lib.hid hA; have H0 := Lib.hid h
  clear rc0 rr0 hb0 hA hc h hf hk hj hsz hf2 hc2 hjk hs h12
  generalize hm : (row W j).length = m at *
  have HMM := Lib.hid hm; clear hm
  go_enter Try.func68, Try.ntmps68
  go_upto_region 3 with (first
    | (refine wl_loadC rfl _ rfl w.heap.size f W.n d RC.out rfl ?_)
    | (go_at_call 82; refine (c_isWorker _ _).mono ?_; rintro e w1 ⟨rfl, rfl⟩; rw [HJ.out])
    | (go_at_call 91; refine (c_hasRoom f W.n d k p _ c _ HK.out HF.out).mono ?_; rintro e w1 ⟨rfl, hb1⟩; rw [HM.out]; replace RR := Lib.hid (RowC.below RR.out hb1); replace RC := Lib.hid (RowC.below RC.out hb1); replace HB := Lib.hid (bst HB.out hb1 HB.out.size); clear hb1 q; have q := RowC.row RC.out HKJ.out; rw [HF2.out] at q))
  have HX := (HW.out.r j HKJ.out).below HB.out
  rw [HF2.out] at HX
  replace HX := Lib.hid HX
  go_wp2_with fail
  refine (c_takeFirst _ (row W j) _ HX.out (by rw [HMM.out]; exact H0.out) (by have := HL.out; rw [HMM.out]; omega)).mono ?_
  rintro e w1 ⟨v1, rfl, ⟨p1, c1, hv1⟩, htr, nd, hw2⟩
  rw [HMM.out] at hv1
  subst hv1
  have TR := Lib.hid htr; clear htr
  generalize hz : (row W j).getD 0 0 = z
  have HZ := Lib.hid hz; clear hz
  replace RC : Hid (RowC w1 w.heap.size f W.n d) := by rw [hw2]; exact RC
  replace RR : Hid (RowC w1 (w.heap.size + 1) nF 0 nilV) := by rw [hw2]; exact RR
  replace HB : Hid (Below w.heap.size w w1) := by rw [hw2]; exact below_drewN HB.out nd
  clear q h1 HX hw2
  generalize w1 = w2 at *
  have q := RowC.row RC.out HKJ.out
  rw [HF2.out] at q
  have fr := Row.frozen RC.out j
  go_upto_region 5 with fail
  replace RC := Lib.hid (RowC.setR RC.out HKJ.out (.slice p1 (m - 1) c1))
  replace RR := Lib.hid (RowC.other RR.out ⟨w.heap.size, j, none⟩ (by simp) (.slice p1 (m - 1) c1))
  replace HB := Lib.hid (HB.out.setCell (p := ⟨w.heap.size, j, none⟩) (Nat.le_refl _) (.slice p1 (m - 1) c1))
  generalize w2.setCell ⟨w.heap.size, j, none⟩ (.slice p1 (m - 1) c1) = w3 at *
  clear q fr
  have HGE : Hid (w.heap.size + 2 ≤ w3.heap.size) := by unfold Hid; have := Row.lt RR.out; omega
  have q := RowC.row RC.out HK.out
  rw [upd_other _ _ (show k ≠ j from fun e => HNE.out e.symm), HF.out] at q
  have HX := (HW.out.r k HK.out).below HB.out
  rw [HF.out] at HX
  replace HX := Lib.hid HX
  go_wp2_with fail
  refine (c_withLast _ (row W k) z _ HX.out (by have := HLK.out; omega)).mono ?_
  rintro e w4 ⟨v4, rfl, ho4, hb4⟩
  clear q HX
  replace RC := Lib.hid (RowC.below RC.out hb4)
  replace RR := Lib.hid (RowC.below RR.out hb4)
  replace HB := Lib.hid (bst HB.out hb4 HB.out.size)
  have O4 := Lib.hid ho4
  obtain ⟨p4, x4, hv4⟩ := ho4.ints.shape
  generalize (row W k ++ [z]).length = m4 at hv4
  subst hv4
  have q := RowC.row RC.out HK.out
  have fr := Row.frozen RC.out k
  clear hb4 ho4
  go_upto_region 6 with fail
  replace RC := Lib.hid (RowC.setR RC.out HK.out (.slice p4 m4 x4))
  replace RR := Lib.hid (RowC.other RR.out ⟨w.heap.size, k, none⟩ (by simp) (.slice p4 m4 x4))
  replace HB := Lib.hid (HB.out.setCell (p := ⟨w.heap.size, k, none⟩) (Nat.le_refl _) (.slice p4 m4 x4))
  replace O4 := Lib.hid (Own.cell O4.out ⟨w.heap.size, k, none⟩ (show w.heap.size < w3.heap.size by have := HGE.out; omega) (.slice p4 m4 x4))
  generalize w4.setCell ⟨w.heap.size, k, none⟩ (.slice p4 m4 x4) = w5 at *
  clear q fr
  have ON : Hid (∀ i, i < 3 → (upd (upd f j (.slice p1 (m - 1) c1)) k (.slice p4 m4 x4) i).oneCell' = true) := fun i hi => by
    by_cases e : i = k
    · subst e; rw [upd_same]; rfl
    · rw [upd_other _ _ e]
      by_cases e : i = j
      · subst e; rw [upd_same]; rfl
      · rw [upd_other _ _ e]; exact (HW.out.r i hi).one
  have ONE : Hid ((upd (upd f j (.slice p1 (m - 1) c1)) k (.slice p4 m4 x4) 0).oneCell' = true ∧ (upd (upd f j (.slice p1 (m - 1) c1)) k (.slice p4 m4 x4) 1).oneCell' = true ∧ (upd (upd f j (.slice p1 (m - 1) c1)) k (.slice p4 m4 x4) 2).oneCell' = true ∧ d.oneCell' = true) := ⟨ON.out 0 (by omega), ON.out 1 (by omega), ON.out 2 (by omega), HW.out.d.one⟩
  clear ON
  go_wp2_with (first
    | (refine wl_loadC rfl _ rfl w.heap.size (upd (upd f j (.slice p1 (m - 1) c1)) k (.slice p4 m4 x4)) W.n d RC.out rfl ?_)
    | (refine wl_storeC rfl _ _ rfl (w.heap.size + 1) (upd (upd f j (.slice p1 (m - 1) c1)) k (.slice p4 m4 x4)) W.n d _ _ _ RR.out rfl rfl ONE.out.1 ONE.out.2.1 ONE.out.2.2.1 ONE.out.2.2.2 ?_))
  have BE := below_setRow HB.out (show w.heap.size ≤ w.heap.size + 1 by omega) (cr5 (upd (upd f j (.slice p1 (m - 1) c1)) k (.slice p4 m4 x4)) W.n d)
  refine bodyPost_ret (res_row_slot Try.results68 (Row.put RR.out (cr5 (upd (upd f j (.slice p1 (m - 1) c1)) k (.slice p4 m4 x4)) W.n d)) rfl rfl Try.underlying76 rfl info_crew) rfl (endC_yes (W := steal W k j) ONE.out (sepSteal HSP.out BE HS.out.len HK.out HKJ.out HZ.out (fun w2 h => TR.out w2 (by rw [HF2.out] at h; exact h)) (Own.whole O4.out (w.heap.size + 1) (show w.heap.size + 1 < w3.heap.size by have := HGE.out; omega) _) (fun i (hi : w3.heap.size ≤ i) => HLV.out i (by have := HGE.out; omega))) BE)
end Go.Proofs.Ytkbphmnacdpdgaa
namespace Go.Proofs.Ytkbphmnacdpdgaa
open Go.RowKit Ph Kw

abbrev stv (k a b : Int) : Value := .agg #[.int .i64 k, .int .i64 a, .int .i64 b]
abbrev s3c (k a b : Int) : Array Value := #[.int .i64 k, .int .i64 a, .int .i64 b]
theorem en_push {W : Wk} {s : S3} (h : isW s.2.1 = true) (h1 : s.1 = 1) (h2 : s.2.2 = 0) : en W s = (decide (W.n < 100) && decide ((row W s.2.1.toNat).length < 12)) := by
  unfold en enPush enPop enSteal; rw [h, h1, h2]; simp
theorem en_pop {W : Wk} {s : S3} (h : isW s.2.1 = true) (h1 : s.1 = 2) (h2 : s.2.2 = 0) : en W s = decide (0 < (row W s.2.1.toNat).length) := by
  unfold en enPush enPop enSteal; rw [h, h1, h2]; simp
theorem en_steal {W : Wk} {s : S3} (h : isW s.2.1 = true) (h1 : s.1 = 3) : en W s = (isW s.2.2 && (decide (s.2.2 ≠ s.2.1) && (decide (0 < (row W s.2.2.toNat).length) && decide ((row W s.2.1.toNat).length < 12)))) := by
  unfold en enPush enPop enSteal; rw [h, h1]; simp [Bool.and_assoc]
theorem en_none {W : Wk} {s : S3} (h1 : ¬ (s.1 = 1 ∧ s.2.2 = 0)) (h2 : ¬ (s.1 = 2 ∧ s.2.2 = 0)) (h3 : s.1 ≠ 3) : en W s = false := by
  unfold en enPush enPop enSteal
  have a : (decide (s.1 = 1) && decide (s.2.2 = 0)) = false := by simpa using h1
  have b : (decide (s.1 = 2) && decide (s.2.2 = 0)) = false := by simpa using h2
  rw [a, b]; simp [h3]
end Go.Proofs.Ytkbphmnacdpdgaa
namespace Go.Proofs
open Go.Shelf
def Try.lays189_ren : Go.Shelf.Ren := ⟨fun | 189 => 86 | 125 => 95 | 257 => 94 | 128 => 106 | 129 => 107 | 294 => 97 | 295 => 98 | 296 => 99 | 297 => 100 | 298 => 101 | 299 => 102 | 216 => 103 | 300 => 104 | 301 => 105 | 328 => 108 | 329 => 109 | 330 => 110 | 331 => 111 | 332 => 112 | 215 => 113 | 343 => 114 | n => n, fun | 28 => 26 | 3 => 3 | 46 => 104 | 0 => 0 | 51 => 115 | 53 => 70 | 4 => 4 | 183 => 107 | 182 => 106 | 131 => 112 | 5 => 5 | 9 => 9 | 218 => 117 | 222 => 121 | 228 => 123 | 229 => 124 | n => n, fun | n => n⟩
theorem Try.lays189 : Go.Proofs.Lays.n189 Try.prog Try.lays189_ren := {
  mixed := by kernel_rfl
  f125 := Try.func95.trans (congrArg some (by kernel_rfl))
  f128 := Try.func106.trans (congrArg some (by kernel_rfl))
  f129 := Try.func107.trans (congrArg some (by kernel_rfl))
  f189 := Try.func86.trans (congrArg some (by kernel_rfl))
  f215 := Try.func113.trans (congrArg some (by kernel_rfl))
  f216 := Try.func103.trans (congrArg some (by kernel_rfl))
  f257 := Try.func94.trans (congrArg some (by kernel_rfl))
  f294 := Try.func97.trans (congrArg some (by kernel_rfl))
  f295 := Try.func98.trans (congrArg some (by kernel_rfl))
  f296 := Try.func99.trans (congrArg some (by kernel_rfl))
  f297 := Try.func100.trans (congrArg some (by kernel_rfl))
  f298 := Try.func101.trans (congrArg some (by kernel_rfl))
  f299 := Try.func102.trans (congrArg some (by kernel_rfl))
  f300 := Try.func104.trans (congrArg some (by kernel_rfl))
  f301 := Try.func105.trans (congrArg some (by kernel_rfl))
  f328 := Try.func108.trans (congrArg some (by kernel_rfl))
  f329 := Try.func109.trans (congrArg some (by kernel_rfl))
  f330 := Try.func110.trans (congrArg some (by kernel_rfl))
  f331 := Try.func111.trans (congrArg some (by kernel_rfl))
  f332 := Try.func112.trans (congrArg some (by kernel_rfl))
  f343 := Try.func114.trans (congrArg some (by kernel_rfl))
  t0 := Try.underlying0
  a0 := Try.isAgg0
  z0 := Try.sizeOf0
  v0 := Try.zeroValue0
  t3 := Try.underlying3
  a3 := Try.isAgg3
  z3 := Try.sizeOf3
  v3 := Try.zeroValue3
  t4 := Try.underlying4
  a4 := Try.isAgg4
  z4 := Try.sizeOf4
  v4 := Try.zeroValue4
  t5 := Try.underlying5
  a5 := Try.isAgg5
  z5 := Try.sizeOf5
  v5 := Try.zeroValue5
  t9 := Try.underlying9
  a9 := Try.isAgg9
  z9 := Try.sizeOf9
  v9 := Try.zeroValue9
  t28 := Try.underlying26
  a28 := Try.isAgg26
  z28 := Try.sizeOf26
  v28 := Try.zeroValue26
  t46 := Try.underlying104
  a46 := Try.isAgg104
  z46 := Try.sizeOf104
  v46 := Try.zeroValue104
  t51 := Try.underlying115
  a51 := Try.isAgg115
  z51 := Try.sizeOf115
  v51 := Try.zeroValue115
  t53 := Try.underlying70
  a53 := Try.isAgg70
  z53 := Try.sizeOf70
  v53 := Try.zeroValue70
  t131 := Try.underlying112
  a131 := Try.isAgg112
  z131 := Try.sizeOf112
  v131 := Try.zeroValue112
  t182 := Try.underlying106
  a182 := Try.isAgg106
  z182 := Try.sizeOf106
  v182 := Try.zeroValue106
  t183 := Try.underlying107
  a183 := Try.isAgg107
  z183 := Try.sizeOf107
  v183 := Try.zeroValue107
  t218 := Try.underlying117
  a218 := Try.isAgg117
  z218 := Try.sizeOf117
  v218 := Try.zeroValue117
  t222 := Try.underlying121
  a222 := Try.isAgg121
  z222 := Try.sizeOf121
  v222 := Try.zeroValue121
  t228 := Try.underlying123
  a228 := Try.isAgg123
  z228 := Try.sizeOf123
  v228 := Try.zeroValue123
  t229 := Try.underlying124
  a229 := Try.isAgg124
  z229 := Try.sizeOf124
  v229 := Try.zeroValue124 }
open Go.Sort Go.RowKit in
theorem Try.slices_Sort_int (blk off cap : Nat) (zs : List Int) (w : World) (hH : Holds (Value.int .i64) w blk off zs.toArray) (hblk : blk < w.heap.size) (hsz : zs.length < 4611686018427387904) :
    Calls Try.prog 86 #[.slice (some ⟨blk, off, none⟩) zs.length cap] w fun e w' =>
      e = .returned (.tuple #[]) ∧ ∃ n os, w' = grow (putRow (Value.int .i64) (Sort.ahead w n) blk off (zs.mergeSort fun x y => decide (x ≤ y)).toArray) os := Any.slices_Sort_int Try.lays189 blk off cap zs w hH hblk hsz
end Go.Proofs
