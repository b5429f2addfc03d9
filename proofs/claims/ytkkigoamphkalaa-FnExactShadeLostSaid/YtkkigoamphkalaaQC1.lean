/- What the laws rest on, part 1. -/
import Derived.Test.YtkkigoamphkalaaProg
import Derived.WalkKit
import Derived.WalkSpells
import Derived.WalkLawsBesides
import Derived.Lib.Hide
import Derived.Deep.QuietTactic
import Derived.BigQuiet
import Derived.Deep.RegionHeld3
import Derived.RegionTactic
import Derived.Deep.AppendSrc
import Derived.ArgAppend
namespace Go.Proofs.Ytkkigoamphkalaa
open Go.RowKit

theorem r_i {a a' : Int} (h : a = a') : Ending.returned (.int .i64 a) = .returned (.int .i64 a') := by rw [h]
theorem r_b {a a' : Bool} (h : a = a') : Ending.returned (.bool a) = .returned (.bool a') := by rw [h]
/-- The slice value v reads, in the world w, as the list zs of ints. -/
def IntsAt (w : World) (v : Value) (zs : List Int) : Prop :=
  ∃ a cap, v = .slice a zs.length cap ∧ (0 < zs.length → ∃ b off, a = some ⟨b, off, none⟩ ∧ ∀ i, i < zs.length → w.cell? ⟨b, off + i, none⟩ = some (.int .i64 (zs.getD i 0)))
theorem IntsAt.below {w w' : World} {v : Value} {zs : List Int} (h : IntsAt w v zs) (hb : Below w.heap.size w w') : IntsAt w' v zs := by
  obtain ⟨a, cap, hv, hc⟩ := h
  refine ⟨a, cap, hv, fun h0 => ?_⟩
  obtain ⟨b, off, ha, hc⟩ := hc h0
  refine ⟨b, off, ha, fun i hi => ?_⟩
  have h1 := hc i hi
  rw [hb.cell (p := ⟨b, off + i, none⟩) (block_lt_of_cell h1)]
  exact h1
theorem IntsAt.drewN {w : World} {v : Value} {zs : List Int} (h : IntsAt w v zs) (n : Nat) : IntsAt (w.drewN n) v zs := h
/-- A row of ints that the call itself has made. -/
def Own (w : World) (B : Nat) (v : Value) (zs : List Int) : Prop := w.ownsRow B 3 1 v zs.length (zs.map (Value.int .i64))
theorem Own.ints {w : World} {B : Nat} {v : Value} {zs : List Int} (h : Own w B v zs) : IntsAt w v zs := by
  have h' := h
  obtain ⟨h1, h2⟩ := h
  rcases h2 with ⟨rfl, h2⟩ | ⟨g, cap, cur, rfl, hg, hh, _⟩
  · exact ⟨none, 0, by rw [h2], fun h => by omega⟩
  · refine ⟨_, cap, rfl, fun _ => ⟨g, 0, rfl, fun i hi => ?_⟩⟩
    rw [Nat.zero_add, World.ownsRow.cellAt h' i (by omega), List.getElem?_map, List.getElem?_eq_getElem hi]
    simp [List.getD, List.getElem?_eq_getElem hi]
theorem Own.below {w w' : World} {B : Nat} {v : Value} {zs : List Int} (h : Own w B v zs) (hb : Below w.heap.size w w') : Own w' B v zs := by
  obtain ⟨h1, h2⟩ := h
  refine ⟨h1, ?_⟩
  rcases h2 with h2 | ⟨g, cap, cur, hv, hg, hh, r⟩
  · exact .inl h2
  · have hlt : g < w.heap.size := by
      by_cases e : g < w.heap.size
      · exact e
      · have hn : w.heap[g]? = none := by simp; omega
        simp [hn] at hh
    exact .inr ⟨g, cap, cur, hv, hg, by rw [hb.block g hlt]; exact hh, r⟩
theorem Own.mono {w : World} {B B' : Nat} {v : Value} {zs : List Int} (h : Own w B v zs) (hB : B' ≤ B) : Own w B' v zs := by
  obtain ⟨h1, h2⟩ := h
  refine ⟨h1, ?_⟩
  rcases h2 with h2 | ⟨g, cap, cur, hv, hg, r⟩
  · exact .inl h2
  · exact .inr ⟨g, cap, cur, hv, by omega, r⟩
theorem below_drewN {B : Nat} {a w : World} (h : Below B a w) (n : Nat) : Below B a (w.drewN n) := h.trans ⟨rfl, rfl, rfl, Nat.le_refl _, fun _ _ => rfl⟩
theorem drewN_refl (w : World) : ∃ n, w = w.drewN n := ⟨0, rfl⟩
theorem take_eq_succ {za zb : List Int} {k : Nat} (h : za.take k = zb.take k) (ha : k < za.length) (hb : k < zb.length) (e : za.getD k 0 = zb.getD k 0) : za.take (k + 1) = zb.take (k + 1) := by
  rw [List.take_succ_eq_append_getElem ha, List.take_succ_eq_append_getElem hb, h]
  simp only [List.getD, List.getElem?_eq_getElem ha, List.getElem?_eq_getElem hb, Option.getD_some] at e
  rw [e]
theorem ne_of_getD {za zb : List Int} {k : Nat} (e : ¬ za.getD k 0 = zb.getD k 0) : ¬ za = zb := fun h => e (by rw [h])

theorem take_all_eq {za zb : List Int} {n : Nat} (ha : za.length = n) (hb : zb.length = n) (h : za.take n = zb.take n) : za = zb := by
  rwa [List.take_of_length_le (by omega), List.take_of_length_le (by omega)] at h


set_option maxHeartbeats 400000 in
theorem c_eqIntS (va vb : Value) (za zb : List Int) (w : World) (hA : IntsAt w va za) (hB : IntsAt w vb zb) (hm : za.length ≤ 9223372036854775806) :
    Calls Try.prog 26 #[va, vb] w fun e w' => e = .returned (.bool (decide (za = zb))) ∧ ∃ n, w' = w.drewN n := by
  obtain ⟨a, ca, rfl, hA⟩ := hA
  obtain ⟨b, cb, rfl, hB⟩ := hB
  by_cases hl : za.length = zb.length
  · rw [← hl] at hB ⊢
    generalize hn : za.length = n at *
    have HN := Lib.hid hn; have HL := Lib.hid hl; clear hn hl
    have hbq : ((n : Int) != (n : Int)) = false := by simp
    by_cases h0 : n = 0
    · subst h0
      obtain rfl : za = [] := List.eq_nil_of_length_eq_zero HN.out
      obtain rfl : zb = [] := List.eq_nil_of_length_eq_zero HL.out.symm
      clear hA hB
      go_enter Try.func26, Try.ntmps26
      go_wp2
      refine wp_loop_rounds 1 ?_
      rw [rounds_succ]
      go_wp2
      go_ret
      exact ⟨rfl, drewN_refl _⟩
    · obtain ⟨ba, oa, rfl, hca⟩ := hA (by omega)
      obtain ⟨bb, ob, rfl, hcb⟩ := hB (by omega)
      clear hA hB
      have HCA := Lib.hid hca; have HCB := Lib.hid hcb; clear hca hcb
      go_enter Try.func26, Try.ntmps26
      go_wp2
      go_loopw [5] (fun i wr => ∃ k : Nat, k ≤ n ∧ i = .int .i64 k ∧ Hid (za.take k = zb.take k) ∧ ∃ n, wr = w.drewN n) (fun i _ => n - (intOf i).toNat)
      case atStart => exact ⟨0, Nat.zero_le _, rfl, by simp [Hid], drewN_refl _⟩
      case round =>
        obtain ⟨k, hk, rfl, ht, nd, rfl⟩ := hrel
        by_cases hlt : k < n
        · have q1 := HCA.out k hlt
          have q2 := HCB.out k hlt
          have i1 : (k : Int) < (n : Int) := by omega
          generalize hx : za.getD k 0 = x at q1
          generalize hy : zb.getD k 0 = y at q2
          have HX := Lib.hid hx; have HY := Lib.hid hy; clear hx hy
          by_cases exy : x = y
          · subst exy
            go_wp2
            go_quiet (fail)
            go_wp2
            go_roundw
            case rel => exact ⟨k + 1, by omega, by go_num, take_eq_succ ht.out (by rw [HN.out]; exact hlt) (by rw [← HL.out]; exact hlt) (HX.out.trans HY.out.symm), nd + nq, by simp⟩
            case measure => simp [intOf]; omega
          · have hne : (x != y) = true := by rw [bne_iff_ne]; exact exy
            have HNE : Hid (decide (za = zb) = false) := decide_eq_false (ne_of_getD (k := k) (by rw [HX.out, HY.out]; exact exy))
            clear exy
            go_wp2
            go_quiet (fail)
            go_wp2
            go_ret
            exact ⟨r_b HNE.out.symm, nd + nq, by simp⟩
        · have HE : Hid (decide (za = zb) = true) := decide_eq_true (take_all_eq (n := k) (by rw [HN.out]; omega) (by rw [← HL.out]; omega) ht.out)
          go_wp2
          go_ret
          exact ⟨r_b HE.out.symm, _, rfl⟩
  · generalize hna : za.length = na at *
    generalize hnb : zb.length = nb at *
    have hbq : ((na : Int) != (nb : Int)) = true := by rw [bne_iff_ne]; omega
    have HN : Hid (decide (za = zb) = false) := decide_eq_false (fun h => hl (by rw [← hna, ← hnb, h]))
    clear hl hA hB hna hnb
    go_enter Try.func26, Try.ntmps26
    go_wp2
    go_ret
    exact ⟨r_b HN.out.symm, drewN_refl _⟩

theorem grownBy_trans {a b c : World} {r : Option Nat} (h : a.grownBy b r) (k : b.grownBy c r) : a.grownBy c r :=
  ⟨k.os.trans h.os, k.tape.trans h.tape, k.output.trans h.output, Nat.le_trans h.size k.size, fun i hi hr => (k.block i (Nat.lt_of_lt_of_le hi h.size) hr).trans (h.block i hi hr)⟩
/-- n numbers, from k on. -/
def upFrom (k : Int) (n : Nat) : List Int := (List.range n).map (fun i : Nat => k + (i : Int))
theorem upFrom_length (k : Int) (n : Nat) : (upFrom k n).length = n := by simp [upFrom]
theorem upFrom_getD (k : Int) {n i : Nat} (h : i < n) : (upFrom k n).getD i 0 = k + i := by simp [upFrom, List.getD, h]
/-- What lies in a row of which the first j have been marked. -/
def markTo (k : Int) (zs : List Int) (j : Nat) : List Int := upFrom k j ++ zs.drop j
theorem markTo_length (k : Int) (zs : List Int) {j : Nat} (h : j ≤ zs.length) : (markTo k zs j).length = zs.length := by simp [markTo, upFrom_length]; omega
theorem markTo_zero (k : Int) (zs : List Int) : markTo k zs 0 = zs := by simp [markTo, upFrom]
theorem markTo_all (k : Int) (zs : List Int) : markTo k zs zs.length = upFrom k zs.length := by simp [markTo]
theorem markTo_set (k : Int) (zs : List Int) {j : Nat} (h : j < zs.length) : (markTo k zs j).set j (k + j) = markTo k zs (j + 1) := by
  unfold markTo
  have e : zs.drop j = zs[j] :: zs.drop (j + 1) := (List.drop_eq_getElem_cons h)
  rw [e, List.set_append_right _ _ (by rw [upFrom_length]; omega), upFrom_length, Nat.sub_self, List.set_cons_zero]
  simp [upFrom, List.range_succ]


set_option maxHeartbeats 400000 in
theorem c_markIntS (v : Value) (zs : List Int) (B : Nat) (k : Int) (w : World) (hown : Own w B v zs) (h0 : 0 ≤ k) (hm : k + zs.length ≤ 9223372036854775806) :
    Calls Try.prog 27 #[v, .int .i64 k] w fun e w' => e = .returned (.int .i64 (k + zs.length)) ∧ Own w' B v (upFrom k zs.length) ∧ w.grownBy w' v.ownBlock := by
  have hv : (v = .slice none 0 0 ∧ zs = []) ∨ ∃ g cap, v = .slice (some ⟨g, 0, none⟩) zs.length cap := by
    rcases hown.2 with ⟨h1, h2⟩ | ⟨g, cap, cur, h1, _⟩
    · exact .inl ⟨h1, List.eq_nil_of_length_eq_zero h2⟩
    · exact .inr ⟨g, cap, h1⟩
  rcases hv with ⟨rfl, rfl⟩ | ⟨g, cap, rfl⟩
  · go_enter Try.func27, Try.ntmps27
    go_wp2
    refine wp_loop_rounds 1 ?_
    rw [rounds_succ]
    go_wp2
    go_ret
    exact ⟨r_i (by simp), hown, World.grownBy.refl _ _⟩
  · have HO := Lib.hid hown; clear hown
    generalize hn : zs.length = n at *
    have HN := Lib.hid hn; clear hn
    go_enter Try.func27, Try.ntmps27
    go_wp2
    go_loopw [1, 5] (fun kk i wr => ∃ j : Nat, j ≤ n ∧ i = .int .i64 j ∧ kk = .int .i64 (k + j) ∧ Own wr B (.slice (some ⟨g, 0, none⟩) n cap) (markTo k zs j) ∧ w.grownBy wr (some g)) (fun _ i _ => n - (intOf i).toNat)
    case atStart => exact ⟨0, Nat.zero_le _, rfl, by simp, by rw [markTo_zero]; exact HO.out, World.grownBy.refl _ _⟩
    case round =>
      obtain ⟨j, hj, rfl, rfl, hown, hg⟩ := hrel
      by_cases hlt : j < n
      · have hlen := markTo_length k zs (j := j) (by rw [HN.out]; exact hj)
        have hown' : wr.ownsRow B 3 1 (.slice (some ⟨g, 0, none⟩) n cap) n ((markTo k zs j).map (Value.int .i64)) := by
          have := hown; unfold Own at this; rwa [hlen, HN.out] at this
        have hfr := hown'.frozenAt j
        obtain ⟨x, hx⟩ : ∃ x, wr.cell? ⟨g, j, none⟩ = some x := by
          rw [hown'.cellAt j (by omega), List.getElem?_map, List.getElem?_eq_getElem (by rw [hlen, HN.out]; exact hlt)]
          exact ⟨_, rfl⟩
        obtain ⟨s1, s2⟩ := hown'.stored j (.int .i64 (k + j))
        have S1 : Hid (Own (wr.setCell ⟨g, j, none⟩ (.int .i64 (k + j))) B (.slice (some ⟨g, 0, none⟩) n cap) (markTo k zs (j + 1))) := by
          unfold Hid Own
          rw [markTo_length k zs (by rw [HN.out]; omega), HN.out, ← markTo_set k zs (by rw [HN.out]; exact hlt), List.map_set]
          exact s1
        have S2 := Lib.hid s2
        clear s1 s2 hown hown' hlen
        go_wp2
        go_roundw
        case rel => exact ⟨j + 1, by omega, by go_num, by go_num, S1.out, grownBy_trans hg S2.out⟩
        case measure => simp [intOf]; omega
      · obtain rfl : j = n := by omega
        go_wp2
        go_ret
        exact ⟨rfl, by rw [← HN.out, ← markTo_all, HN.out]; exact hown, hg⟩


set_option maxHeartbeats 400000 in
theorem c_heldIntS (v : Value) (n : Nat) (k : Int) (w : World) (hA : IntsAt w v (upFrom k n)) (h0 : 0 ≤ k) (hm : k + n ≤ 9223372036854775806) :
    Calls Try.prog 35 #[v, .int .i64 k] w fun e w' => e = .returned (.int .i64 (k + n)) ∧ w = w' := by
  obtain ⟨a, ca, rfl, hA⟩ := hA
  rw [upFrom_length] at hA ⊢
  by_cases hz : n = 0
  · subst hz
    clear hA
    go_enter Try.func35, Try.ntmps35
    go_wp2
    refine wp_loop_rounds 1 ?_
    rw [rounds_succ]
    go_wp2
    go_ret
    exact ⟨r_i (by simp), rfl⟩
  · obtain ⟨b, off, rfl, hc⟩ := hA (by omega)
    clear hA
    have HC := Lib.hid hc; clear hc
    go_enter Try.func35, Try.ntmps35
    go_wp2
    go_loop [1, 5] (fun kk i => ∃ j : Nat, j ≤ n ∧ i = .int .i64 j ∧ kk = .int .i64 (k + j)) (fun _ i => n - (intOf i).toNat)
    case atStart => exact ⟨0, Nat.zero_le _, rfl, by simp⟩
    case round =>
      obtain ⟨j, hj, rfl, rfl⟩ := hrel
      by_cases hlt : j < n
      · have q := HC.out j hlt
        rw [upFrom_getD k hlt] at q
        go_wp2
        go_round
        case rel => exact ⟨j + 1, by omega, by go_num, by go_num⟩
        case measure => simp [intOf]; omega
      · obtain rfl : j = n := by omega
        go_wp2
        go_ret
        exact ⟨rfl, rfl⟩

/-- What lies in a row of zeros of which the first j have been filled. -/
def fillTo (zs : List Int) (j : Nat) : List Int := zs.take j ++ List.replicate (zs.length - j) 0
theorem fillTo_length (zs : List Int) {j : Nat} (h : j ≤ zs.length) : (fillTo zs j).length = zs.length := by simp [fillTo]; omega
theorem fillTo_zero (zs : List Int) : fillTo zs 0 = List.replicate zs.length 0 := by simp [fillTo]
theorem fillTo_all (zs : List Int) : fillTo zs zs.length = zs := by simp [fillTo]
theorem fillTo_set (zs : List Int) {j : Nat} (h : j < zs.length) : (fillTo zs j).set j (zs.getD j 0) = fillTo zs (j + 1) := by
  unfold fillTo
  have e : List.replicate (zs.length - j) (0 : Int) = 0 :: List.replicate (zs.length - (j + 1)) 0 := by
    rw [show zs.length - j = (zs.length - (j + 1)) + 1 by omega, List.replicate_succ]
  rw [e, List.set_append_right _ _ (by simp; omega), List.length_take, Nat.min_eq_left (by omega), Nat.sub_self, List.set_cons_zero, List.take_succ_eq_append_getElem h]
  have e2 : zs.getD j 0 = zs[j] := by simp [List.getD, List.getElem?_eq_getElem h]
  rw [e2, List.append_assoc]
  rfl

theorem info_int : (Try.prog.info? 3).map (fun i => (i.zero, i.size, i.bytes)) = some (some (.int .i64 0), 1, 8) := by kernel_rfl

set_option maxHeartbeats 400000 in
theorem c_toIntS (v : Value) (zs : List Int) (w : World) (hA : IntsAt w v zs) (hm : zs.length ≤ 1048576) :
    Calls Try.prog 24 #[v] w fun e w' => ∃ v', e = .returned v' ∧ Own w' w.heap.size v' zs ∧ Below w.heap.size w w' := by
  obtain ⟨i0, hi, hz0, hz1, hz2⟩ := info_parts info_int
  obtain ⟨a, ca, rfl, hA⟩ := hA
  generalize hn : zs.length = n at *
  have HN := Lib.hid hn; clear hn
  have HA := Lib.hid hA; clear hA
  go_enter Try.func24, Try.ntmps24
  go_wp2_with (refine wpList_make_full _ rfl _ _ 24 rfl w.heap.size 3 i0 (.int .i64 0) 1 Try.underlying24 hi hz0 hz1 .i64 .i64 _ _ n rfl rfl rfl rfl (by rw [hz2]; omega) (by unfold maxLen; omega) (Nat.le_refl _) ?_; intro w1 hown hgr; rw [Nat.mul_one, show (Value.int .i64 0).cells = #[.int .i64 0] from rfl, toList_madeCells_one] at hown; have hb := (Below.refl w.heap.size w).grown hgr (Nat.le_refl _) (fun k hk => by cases hk); have HO := Lib.hid hown; clear hown hgr)
  go_loopw [4] (fun i wr => ∃ j : Nat, j ≤ n ∧ i = .int .i64 j ∧ Own wr w.heap.size (.slice (some ⟨w.heap.size, 0, none⟩) n n) (fillTo zs j) ∧ Below w.heap.size w wr) (fun i _ => n - (intOf i).toNat)
  case atStart =>
    refine ⟨0, Nat.zero_le _, rfl, ?_, hb⟩
    unfold Own
    rw [fillTo_length zs (Nat.zero_le _), HN.out, fillTo_zero, HN.out, List.map_replicate]
    exact HO.out
  case round =>
    obtain ⟨j, hj, rfl, hown, hbr⟩ := hrel
    by_cases hlt : j < n
    · obtain ⟨b, off, ha, hc⟩ := HA.out (by omega)
      have hq := hc j hlt
      have q : wr.cell? ⟨b, off + j, none⟩ = some (.int .i64 (zs.getD j 0)) := (hbr.cell (p := ⟨b, off + j, none⟩) (block_lt_of_cell hq)).trans hq
      clear hq hc
      have hlen := fillTo_length zs (j := j) (by rw [HN.out]; exact hj)
      have hown' : wr.ownsRow w.heap.size 3 1 (.slice (some ⟨w.heap.size, 0, none⟩) n n) n ((fillTo zs j).map (Value.int .i64)) := by
        have := hown; unfold Own at this; rwa [hlen, HN.out] at this
      have hfr := hown'.frozenAt j
      obtain ⟨x, hx⟩ : ∃ x, wr.cell? ⟨w.heap.size, j, none⟩ = some x := by
        rw [hown'.cellAt j (by omega), List.getElem?_map, List.getElem?_eq_getElem (by rw [hlen, HN.out]; exact hlt)]
        exact ⟨_, rfl⟩
      obtain ⟨s1, s2⟩ := hown'.stored j (.int .i64 (zs.getD j 0))
      have S1 : Hid (Own (wr.setCell ⟨w.heap.size, j, none⟩ (.int .i64 (zs.getD j 0))) w.heap.size (.slice (some ⟨w.heap.size, 0, none⟩) n n) (fillTo zs (j + 1))) := by
        unfold Hid Own
        rw [fillTo_length zs (by rw [HN.out]; omega), HN.out, ← fillTo_set zs (by rw [HN.out]; exact hlt), List.map_set]
        exact s1
      have S2 := Lib.hid (hbr.setCell (p := ⟨w.heap.size, j, none⟩) (Nat.le_refl _) (.int .i64 (zs.getD j 0)))
      clear s1 s2 hown hown' hlen
      generalize hz : zs.getD j 0 = z at *
      clear hz
      subst ha
      go_wp2
      go_roundw
      case rel => exact ⟨j + 1, by omega, by go_num, S1.out, S2.out⟩
      case measure => simp [intOf]; omega
    · obtain rfl : j = n := by omega
      go_wp2
      go_ret
      refine ⟨_, rfl, ?_, hbr⟩
      have := hown
      rw [← HN.out, fillTo_all, HN.out] at this
      exact this
end Go.Proofs.Ytkkigoamphkalaa
namespace Go.Proofs.Ytkkigoamphkalaa
open Go.RowKit

/-- The block g, of type T, holds the cells cs. -/
def Row (w : World) (g : Nat) (T : TypeId) (cs : Array Value) : Prop := w.heap[g]? = some (.cells cs T (0, 0))
theorem Row.cell {w : World} {g : Nat} {T : TypeId} {cs : Array Value} (h : Row w g T cs) (k : Nat) : w.cell? ⟨g, k, none⟩ = cs[k]? := cell_of_row w g k _ _ _ h
theorem Row.frozen {w : World} {g : Nat} {T : TypeId} {cs : Array Value} (h : Row w g T cs) (k : Nat) : w.frozen? ⟨g, k, none⟩ = false := frozen_of_row w g k _ _ h
theorem Row.lt {w : World} {g : Nat} {T : TypeId} {cs : Array Value} (h : Row w g T cs) : g < w.heap.size := by
  by_cases e : g < w.heap.size
  · exact e
  · have hn : w.heap[g]? = none := by simp; omega
    rw [Row, hn] at h; cases h
theorem Row.below {w w' : World} {g : Nat} {T : TypeId} {cs : Array Value} (h : Row w g T cs) (hb : Below w.heap.size w w') : Row w' g T cs := by
  unfold Row; rw [hb.block g h.lt]; exact h
theorem Row.alloc {w : World} {g : Nat} {T : TypeId} {cs : Array Value} (h : Row w g T cs) (o : Obj) : Row (w.alloc o) g T cs := by
  unfold Row; rw [Below.heap_alloc w o g h.lt]; exact h
theorem Row.new (w : World) (T : TypeId) (cs : Array Value) : Row (w.alloc (.cells cs T)) w.heap.size T cs := heap_alloc_new _ _
theorem Row.new1 (w : World) (o : Obj) (T : TypeId) (cs : Array Value) : Row ((w.alloc o).alloc (.cells cs T)) (w.heap.size + 1) T cs := by
  have := Row.new (w.alloc o) T cs; simpa using this
theorem Row.new2 (w : World) (o o' : Obj) (T : TypeId) (cs : Array Value) : Row (((w.alloc o).alloc o').alloc (.cells cs T)) (w.heap.size + 1 + 1) T cs := by
  have := Row.new ((w.alloc o).alloc o') T cs; simpa using this
theorem Row.other {w : World} {g : Nat} {T : TypeId} {cs : Array Value} (h : Row w g T cs) (a : Addr) (ha : g ≠ a.block) (x : Value) : Row (w.setCell a x) g T cs := by
  unfold Row; rw [heap_setCell_other w a g _ ha]; exact h
theorem Row.set {w : World} {g : Nat} {T : TypeId} {cs : Array Value} (h : Row w g T cs) (k : Nat) (x : Value) : Row (w.setCell ⟨g, k, none⟩ x) g T (cs.setIfInBounds k x) := heap_setCell_same w g k _ _ _ h
theorem Row.put {w : World} {g : Nat} {T : TypeId} {cs : Array Value} (h : Row w g T cs) (ds : Array Value) : Row (w.setRow g ds) g T ds := setRow_heap w g cs ds T (0, 0) h
theorem Row.putOther {w : World} {g g' : Nat} {T : TypeId} {cs : Array Value} (h : Row w g T cs) (ds : Array Value) (hn : g ≠ g') : Row (w.setRow g' ds) g T cs := by
  unfold Row; rw [setRow_other w g' g ds hn]; exact h
theorem below_setRow {B g : Nat} {w0 w : World} (hb : Below B w0 w) (hBg : B ≤ g) (cs : Array Value) : Below B w0 (w.setRow g cs) :=
  ⟨hb.os, hb.tape, hb.output, by rw [size_setRow]; exact hb.size, fun i hi => (setRow_other w g i cs (by omega)).trans (hb.block i hi)⟩
theorem below_drew {B : Nat} {w0 w : World} (hb : Below B w0 w) : Below B w0 w.drew := hb.trans ⟨rfl, rfl, rfl, Nat.le_refl _, fun _ _ => rfl⟩
theorem res_row {P : Program} {fn : Func} {p : Tmp} {ty : TypeId} (h : fn.results = #[.cell p ty]) {tmps : Array Value} {w : World} {g : Nat} {t : TypeId} {cs : Array Value} {d : TypeDesc} (hg : Row w g t cs)
    (hp : tmps.getD p undef = .pointer (some ⟨g, 0, none⟩)) (hu : P.underlying ty = some d) (hd : (match d with | .struct _ | .array _ _ => true | _ => false) = true) (hi : (P.info? ty).map (·.size) = some cs.size) :
    (results fn tmps).run P w = .ok (.agg cs) w := results_cell_row h tmps w g t cs (0, 0) d hp hg hu hd hi
theorem Row.grown {w w1 : World} {g : Nat} {T : TypeId} {cs : Array Value} (h : Row w g T cs) (hg : w.grownBy w1 none) : Row w1 g T cs := (hg.block g h.lt (by simp)).trans h
theorem Row.grownBy {w w1 : World} {g : Nat} {T : TypeId} {cs : Array Value} {c : Option Nat} (h : Row w g T cs) (hg : w.grownBy w1 c) (hn : c ≠ some g) : Row w1 g T cs := (hg.block g h.lt (fun e => hn e.symm)).trans h
theorem bst {B : Nat} {w w1 w2 : World} (h : Below B w w1) (k : Below w1.heap.size w1 w2) (hB : B ≤ w1.heap.size) : Below B w w2 := h.trans (k.mono hB)
end Go.Proofs.Ytkkigoamphkalaa
namespace Go.Proofs.Ytkkigoamphkalaa.Ph

structure H where
  f : List (List Int)
  l : List Bool
  r : List Int

def liveB (l : List Bool) (z : Int) : Bool := decide (0 ≤ z) && l.getD z.toNat false
def refB (l : List Bool) (z : Int) : Bool := decide (z = -1) || liveB l z
def refsB (l : List Bool) (zs : List Int) : Bool := zs.all (refB l)
def rowB (l : List Bool) (on : Bool) (zs : List Int) : Bool := decide (zs.length ≤ 3) && (on || zs.isEmpty) && refsB l zs
def rowsB (l : List Bool) (fs : List (List Int)) (n : Nat) : Bool := (List.range n).all fun i => rowB l (l.getD i false) (fs.getD i [])
def good (h : H) : Bool := decide (h.f.length ≤ 12) && decide (h.l.length = h.f.length) && rowsB h.l h.f h.f.length && decide (h.r.length ≤ 4) && refsB h.l h.r

theorem getD_lt {l : List Bool} {k : Nat} (h : l.getD k false = true) : k < l.length := by
  by_cases e : k < l.length
  · exact e
  · simp [List.getD, List.getElem?_eq_none (Nat.le_of_not_lt e)] at h
theorem liveB_iff {l : List Bool} {z : Int} : liveB l z = true ↔ 0 ≤ z ∧ l.getD z.toNat false = true := by simp [liveB]
theorem liveB_lt {l : List Bool} {z : Int} (h : liveB l z = true) : 0 ≤ z ∧ z < l.length := by
  obtain ⟨h1, h2⟩ := liveB_iff.1 h
  have := getD_lt h2
  omega
theorem refB_iff {l : List Bool} {z : Int} : refB l z = true ↔ z = -1 ∨ liveB l z = true := by simp [refB]
theorem refsB_iff {l : List Bool} {zs : List Int} : refsB l zs = true ↔ ∀ z ∈ zs, refB l z = true := by simp [refsB]
theorem refsB_take_succ {l : List Bool} {zs : List Int} {k : Nat} (h : k < zs.length) : refsB l (zs.take (k + 1)) = (refsB l (zs.take k) && refB l (zs.getD k 0)) := by
  have e : zs.getD k 0 = zs[k] := by simp [List.getD, List.getElem?_eq_getElem h]
  unfold refsB
  rw [List.take_succ_eq_append_getElem h, List.all_append, e]; simp
theorem refsB_false {l : List Bool} {zs : List Int} {k : Nat} (h : k < zs.length) (hn : refB l (zs.getD k 0) = false) : refsB l zs = false := by
  cases hq : refsB l zs with
  | false => rfl
  | true =>
    have e : zs.getD k 0 = zs[k] := by simp [List.getD, List.getElem?_eq_getElem h]
    have := refsB_iff.1 hq zs[k] (List.getElem_mem h)
    rw [e] at hn; rw [hn] at this; cases this
theorem rowsB_succ {l : List Bool} {fs : List (List Int)} {n : Nat} : rowsB l fs (n + 1) = (rowsB l fs n && rowB l (l.getD n false) (fs.getD n [])) := by
  simp [rowsB, List.range_succ]
theorem rowsB_iff {l : List Bool} {fs : List (List Int)} {n : Nat} : rowsB l fs n = true ↔ ∀ i, i < n → rowB l (l.getD i false) (fs.getD i []) = true := by simp [rowsB]
theorem rowsB_false {l : List Bool} {fs : List (List Int)} {n k : Nat} (h : k < n) (hn : rowB l (l.getD k false) (fs.getD k []) = false) : rowsB l fs n = false := by
  cases hq : rowsB l fs n with
  | false => rfl
  | true => have := rowsB_iff.1 hq k h; rw [hn] at this; cases this
theorem rowB_iff {l : List Bool} {on : Bool} {zs : List Int} : rowB l on zs = true ↔ zs.length ≤ 3 ∧ (on = true ∨ zs = []) ∧ refsB l zs = true := by simp [rowB, and_assoc]
structure Good (h : H) : Prop where
  n : h.f.length ≤ 12
  ll : h.l.length = h.f.length
  row : ∀ i, i < h.f.length → (h.f.getD i []).length ≤ 3 ∧ (h.l.getD i false = true ∨ h.f.getD i [] = []) ∧ refsB h.l (h.f.getD i []) = true
  rn : h.r.length ≤ 4
  rr : refsB h.l h.r = true
theorem good_iff {h : H} : good h = true ↔ Good h := by
  unfold good
  simp only [Bool.and_eq_true, decide_eq_true_eq, rowsB_iff, rowB_iff]
  constructor
  · rintro ⟨⟨⟨⟨a, b⟩, c⟩, d⟩, e⟩; exact ⟨a, b, c, d, e⟩
  · rintro ⟨a, b, c, d, e⟩; exact ⟨⟨⟨⟨a, b⟩, c⟩, d⟩, e⟩
/-- A field of a valid heap is no object or one that there is. -/
theorem Good.field {h : H} (g : Good h) {i : Nat} {z : Int} (hz : z ∈ h.f.getD i []) : z = -1 ∨ (0 ≤ z ∧ z < h.f.length ∧ h.l.getD z.toNat false = true) := by
  by_cases hi : i < h.f.length
  · have := refsB_iff.1 (g.row i hi).2.2 z hz
    rcases refB_iff.1 this with h1 | h1
    · exact .inl h1
    · have h2 := liveB_lt h1
      rw [g.ll] at h2
      exact .inr ⟨h2.1, h2.2, (liveB_iff.1 h1).2⟩
  · rw [List.getD, List.getElem?_eq_none (by omega)] at hz
    simp at hz
theorem refs_bound {h : H} (g : Good h) {zs : List Int} (hr : refsB h.l zs = true) : ∀ z ∈ zs, z = -1 ∨ (0 ≤ z ∧ z < h.f.length ∧ h.l.getD z.toNat false = true) := by
  intro z hz
  rcases refB_iff.1 (refsB_iff.1 hr z hz) with h1 | h1
  · exact .inl h1
  · have h2 := liveB_lt h1
    rw [g.ll] at h2
    exact .inr ⟨h2.1, h2.2, (liveB_iff.1 h1).2⟩

/-- The object k is reached from the references zs over the fields fs. -/
inductive Reach (fs : List (List Int)) (zs : List Int) : Nat → Prop
  | root {k : Nat} : (k : Int) ∈ zs → Reach fs zs k
  | step {y k : Nat} : Reach fs zs y → (k : Int) ∈ fs.getD y [] → Reach fs zs k
/-- What is reached, object for object. -/
noncomputable def reachL (fs : List (List Int)) (zs : List Int) : List Bool := (List.range fs.length).map fun k => @decide (Reach fs zs k) (Classical.propDecidable _)
theorem reachL_length (fs : List (List Int)) (zs : List Int) : (reachL fs zs).length = fs.length := by simp [reachL]
theorem reachL_getD {fs : List (List Int)} {zs : List Int} {k : Nat} : (reachL fs zs).getD k false = true ↔ k < fs.length ∧ Reach fs zs k := by
  unfold reachL
  by_cases hk : k < fs.length
  · simp [List.getD, hk]
  · simp [List.getD, hk]
theorem eq_reachL {fs : List (List Int)} {zs : List Int} {S : List Bool} (hl : S.length = fs.length) (h : ∀ k, S.getD k false = true ↔ k < fs.length ∧ Reach fs zs k) : S = reachL fs zs := by
  apply List.ext_getElem?
  intro k
  by_cases hk : k < fs.length
  · have h1 := h k
    have h2 := reachL_getD (fs := fs) (zs := zs) (k := k)
    have e1 : S[k]? = some (S.getD k false) := by simp [List.getD, List.getElem?_eq_getElem (show k < S.length by omega)]
    have e2 : (reachL fs zs)[k]? = some ((reachL fs zs).getD k false) := by simp [List.getD, List.getElem?_eq_getElem (show k < (reachL fs zs).length by rw [reachL_length]; exact hk)]
    rw [e1, e2]
    congr 1
    rw [Bool.eq_iff_iff, h1, h2]
  · rw [List.getElem?_eq_none (by omega), List.getElem?_eq_none (by rw [reachL_length]; omega)]

/-- The object k is reached from the references zs over the fields of objects that are not in S. -/
inductive ReachS (fs : List (List Int)) (S : List Bool) (zs : List Int) : Nat → Prop
  | root {k : Nat} : (k : Int) ∈ zs → ReachS fs S zs k
  | step {y k : Nat} : ReachS fs S zs y → S.getD y false = false → (k : Int) ∈ fs.getD y [] → ReachS fs S zs k
theorem ReachS.mono {fs : List (List Int)} {S T : List Bool} {zs zs' : List Int} {k : Nat} (h : ReachS fs T zs k) (hT : ∀ k, S.getD k false = true → T.getD k false = true) (hs : ∀ k : Nat, (k : Int) ∈ zs → ReachS fs S zs' k) : ReachS fs S zs' k := by
  induction h with
  | root hz => exact hs _ hz
  | @step y k _ hy hk ih =>
    refine .step ih ?_ hk
    cases e : S.getD y false
    · rfl
    · rw [hT y e] at hy; cases hy
theorem ReachS.reach {fs : List (List Int)} {S : List Bool} {zs : List Int} {k : Nat} (h : ReachS fs S zs k) : Reach fs zs k := by
  induction h with
  | root hz => exact .root hz
  | step _ _ hk ih => exact .step ih hk
/-- What one visit of the references zs makes of the marks S. -/
structure Vis (fs : List (List Int)) (zs : List Int) (S S' : List Bool) : Prop where
  len : S'.length = S.length
  sub : ∀ k, S.getD k false = true → S'.getD k false = true
  has : ∀ k : Nat, (k : Int) ∈ zs → S'.getD k false = true
  cl : ∀ k, S'.getD k false = true → S.getD k false = true ∨ ∀ j : Nat, (j : Int) ∈ fs.getD k [] → S'.getD j false = true
  src : ∀ k, S'.getD k false = true → S.getD k false = true ∨ ReachS fs S zs k
theorem Vis.start (fs : List (List Int)) (zs : List Int) (S : List Bool) : Vis fs (zs.take 0) S S := ⟨rfl, fun _ h => h, fun _ h => by simp at h, fun _ h => .inl h, fun _ h => .inl h⟩
theorem mem_take_succ {zs : List Int} {i : Nat} (hi : i < zs.length) (z : Int) : z ∈ zs.take (i + 1) ↔ z ∈ zs.take i ∨ z = zs.getD i 0 := by
  have e : zs.getD i 0 = zs[i] := by simp [List.getD, List.getElem?_eq_getElem hi]
  rw [List.take_succ_eq_append_getElem hi, e, List.mem_append, List.mem_singleton]
theorem ReachS.take {fs : List (List Int)} {S : List Bool} {zs : List Int} {i k : Nat} (hi : i < zs.length) (h : ReachS fs S (zs.take i) k) : ReachS fs S (zs.take (i + 1)) k := h.mono (fun _ q => q) fun _ hz => .root ((mem_take_succ hi _).2 (.inl hz))
theorem Vis.skip {fs : List (List Int)} {zs : List Int} {S S' : List Bool} {i : Nat} (h : Vis fs (zs.take i) S S') (hi : i < zs.length) (hz : zs.getD i 0 = -1 ∨ S'.getD (zs.getD i 0).toNat false = true) : Vis fs (zs.take (i + 1)) S S' := by
  refine ⟨h.len, h.sub, fun k hk => ?_, h.cl, fun k hk => (h.src k hk).imp id (ReachS.take hi)⟩
  rcases (mem_take_succ hi _).1 hk with h1 | h1
  · exact h.has k h1
  · rcases hz with h2 | h2
    · omega
    · rw [← h1] at h2; simpa using h2
theorem getD_set {S : List Bool} {z k : Nat} {b : Bool} (hz : z < S.length) : (S.set z b).getD k false = if k = z then b else S.getD k false := by
  by_cases e : k = z
  · subst e; simp [List.getD, hz]
  · have : ¬ z = k := fun h => e h.symm
    simp [List.getD, e, this]
theorem Vis.down {fs : List (List Int)} {zs : List Int} {S S' S2 : List Bool} {i z : Nat} (h : Vis fs (zs.take i) S S') (hi : i < zs.length) (hz : zs.getD i 0 = (z : Int)) (hn : z < S'.length) (hx : S'.getD z false = false) (hv : Vis fs (fs.getD z []) (S'.set z true) S2) : Vis fs (zs.take (i + 1)) S S2 := by
  have key : ∀ k, (S'.set z true).getD k false = true ↔ k = z ∨ S'.getD k false = true := fun k => by
    rw [getD_set hn]; by_cases e : k = z <;> simp [e]
  have hzm : ReachS fs S (zs.take (i + 1)) z := .root ((mem_take_succ hi _).2 (.inr hz.symm))
  have hz0 : S.getD z false = false := by
    cases e : S.getD z false
    · rfl
    · rw [h.sub z e] at hx; cases hx
  refine ⟨by rw [hv.len, List.length_set, h.len], fun k hk => hv.sub k ((key k).2 (.inr (h.sub k hk))), fun k hk => ?_, fun k hk => ?_, fun k hk => ?_⟩
  · rcases (mem_take_succ hi _).1 hk with h1 | h1
    · exact hv.sub k ((key k).2 (.inr (h.has k h1)))
    · exact hv.sub k ((key k).2 (.inl (by omega)))
  · rcases hv.cl k hk with h1 | h1
    · rcases (key k).1 h1 with rfl | h2
      · exact .inr hv.has
      · rcases h.cl k h2 with h3 | h3
        · exact .inl h3
        · exact .inr fun j hj => hv.sub j ((key j).2 (.inr (h3 j hj)))
    · exact .inr h1
  · rcases hv.src k hk with h1 | h1
    · rcases (key k).1 h1 with rfl | h2
      · exact .inr hzm
      · exact (h.src k h2).imp id (ReachS.take hi)
    · exact .inr (h1.mono (fun j hj => (key j).2 (.inr (h.sub j hj))) fun j hj => .step hzm hz0 hj)
theorem Vis.done {fs : List (List Int)} {zs : List Int} {S : List Bool} (h : Vis fs zs (List.replicate fs.length false) S) : S = reachL fs zs := by
  have hf : ∀ k, ¬ (List.replicate fs.length false).getD k false = true := fun k hk => by
    by_cases e : k < fs.length
    · simp [List.getD, e] at hk
    · simp [List.getD, e] at hk
  have hl : S.length = fs.length := by rw [h.len]; simp
  have up : ∀ k, Reach fs zs k → S.getD k false = true := fun k hr => by
    induction hr with
    | root hz => exact h.has _ hz
    | step hy hk ih => exact ((h.cl _ ih).resolve_left (hf _)) _ hk
  exact eq_reachL hl fun k => ⟨fun hk => ⟨by have := getD_lt hk; omega, ((h.src k hk).resolve_left (hf k)).reach⟩, fun ⟨_, hr⟩ => up k hr⟩
/-- How many are not marked yet. -/
def left (S : List Bool) : Nat := S.count false
theorem left_set {S : List Bool} {z : Nat} (hz : z < S.length) (h : S.getD z false = false) : left (S.set z true) + 1 = left S := by
  unfold left
  induction S generalizing z with
  | nil => simp at hz
  | cons b S ih =>
    cases z with
    | zero =>
      have hb : b = false := by simpa using h
      subst hb
      simp
    | succ z =>
      have h1 := ih (z := z) (by simpa using hz) (by simpa using h)
      cases b <;> simp <;> omega
/-- A queue's round. -/
structure Bfs (fs : List (List Int)) (zs q : List Int) (S : List Bool) : Prop where
  len : S.length = fs.length
  has : ∀ k : Nat, (k : Int) ∈ zs → S.getD k false = true ∨ (k : Int) ∈ q
  cl : ∀ k, S.getD k false = true → ∀ j : Nat, (j : Int) ∈ fs.getD k [] → S.getD j false = true ∨ (j : Int) ∈ q
  src : ∀ k, S.getD k false = true → Reach fs zs k
  srq : ∀ k : Nat, (k : Int) ∈ q → Reach fs zs k
theorem Bfs.start (fs : List (List Int)) (zs : List Int) : Bfs fs zs zs (List.replicate fs.length false) := by
  have hf : ∀ k, ¬ (List.replicate fs.length false).getD k false = true := fun k hk => by
    by_cases e : k < fs.length
    · simp [List.getD, e] at hk
    · simp [List.getD, e] at hk
  exact ⟨by simp, fun k h => .inr h, fun k h => absurd h (hf k), fun k h => absurd h (hf k), fun k h => .root h⟩
theorem Bfs.skip {fs : List (List Int)} {zs q : List Int} {S : List Bool} {z : Int} (h : Bfs fs zs (z :: q) S) (hz : z < 0 ∨ S.getD z.toNat false = true) : Bfs fs zs q S := by
  have key : ∀ k : Nat, (S.getD k false = true ∨ (k : Int) ∈ z :: q) → (S.getD k false = true ∨ (k : Int) ∈ q) := fun k hk => by
    rcases hk with hk | hk
    · exact .inl hk
    · rcases List.mem_cons.1 hk with e | e
      · rcases hz with h1 | h1
        · omega
        · rw [← e] at h1; exact .inl (by simpa using h1)
      · exact .inr e
  exact ⟨h.len, fun k hk => key k (h.has k hk), fun k hk j hj => key j (h.cl k hk j hj), h.src, fun k hk => h.srq k (List.mem_cons_of_mem _ hk)⟩
theorem Bfs.take {fs : List (List Int)} {zs q : List Int} {S : List Bool} {z : Nat} (h : Bfs fs zs ((z : Int) :: q) S) (hz : z < fs.length) : Bfs fs zs (q ++ fs.getD z []) (S.set z true) := by
  have hzs : z < S.length := by rw [h.len]; exact hz
  have key : ∀ k, (S.set z true).getD k false = true ↔ k = z ∨ S.getD k false = true := fun k => by
    rw [getD_set hzs]; by_cases e : k = z <;> simp [e]
  have hrz : Reach fs zs z := h.srq z (by simp)
  have mv : ∀ k : Nat, (S.getD k false = true ∨ (k : Int) ∈ (z : Int) :: q) → ((S.set z true).getD k false = true ∨ (k : Int) ∈ q ++ fs.getD z []) := fun k hk => by
    rcases hk with hk | hk
    · exact .inl ((key k).2 (.inr hk))
    · rcases List.mem_cons.1 hk with e | e
      · exact .inl ((key k).2 (.inl (by omega)))
      · exact .inr (List.mem_append.2 (.inl e))
  refine ⟨by rw [List.length_set, h.len], fun k hk => mv k (h.has k hk), fun k hk j hj => ?_, fun k hk => ?_, fun k hk => ?_⟩
  · rcases (key k).1 hk with rfl | h1
    · exact .inr (List.mem_append.2 (.inr hj))
    · exact mv j (h.cl k h1 j hj)
  · rcases (key k).1 hk with rfl | h1
    · exact hrz
    · exact h.src k h1
  · rcases List.mem_append.1 hk with h1 | h1
    · exact h.srq k (List.mem_cons_of_mem _ h1)
    · exact .step hrz h1
theorem Bfs.done {fs : List (List Int)} {zs : List Int} {S : List Bool} (h : Bfs fs zs [] S) : S = reachL fs zs := by
  have up : ∀ k, Reach fs zs k → S.getD k false = true := fun k hr => by
    induction hr with
    | root hz => rcases h.has _ hz with h1 | h1; exact h1; simp at h1
    | step hy hk ih => rcases h.cl _ ih _ hk with h1 | h1; exact h1; simp at h1
  exact eq_reachL h.len fun k => ⟨fun hk => ⟨by have := getD_lt hk; have := h.len; omega, h.src k hk⟩, fun ⟨_, hr⟩ => up k hr⟩
end Go.Proofs.Ytkkigoamphkalaa.Ph
namespace Go.Proofs.Ytkkigoamphkalaa
open Go.RowKit Ph

/-- The slice value v reads, in the world w, as the list bs of bools. -/
def BoolsAt (w : World) (v : Value) (bs : List Bool) : Prop :=
  ∃ a cap, v = .slice a bs.length cap ∧ (0 < bs.length → ∃ b off, a = some ⟨b, off, none⟩ ∧ ∀ i, i < bs.length → w.cell? ⟨b, off + i, none⟩ = some (.bool (bs.getD i false)))
/-- The slice value v reads, in the world w, as the list fs of lists of ints. -/
def RowsAt (w : World) (v : Value) (fs : List (List Int)) : Prop :=
  ∃ a cap, v = .slice a fs.length cap ∧ (0 < fs.length → ∃ b off, a = some ⟨b, off, none⟩ ∧ ∀ i, i < fs.length → ∃ u, w.cell? ⟨b, off + i, none⟩ = some u ∧ IntsAt w u (fs.getD i []))
theorem BoolsAt.below {w w' : World} {v : Value} {bs : List Bool} (h : BoolsAt w v bs) (hb : Below w.heap.size w w') : BoolsAt w' v bs := by
  obtain ⟨a, cap, hv, hc⟩ := h
  refine ⟨a, cap, hv, fun h0 => ?_⟩
  obtain ⟨b, off, ha, hc⟩ := hc h0
  refine ⟨b, off, ha, fun i hi => ?_⟩
  have h1 := hc i hi
  rw [hb.cell (p := ⟨b, off + i, none⟩) (block_lt_of_cell h1)]
  exact h1
theorem RowsAt.below {w w' : World} {v : Value} {fs : List (List Int)} (h : RowsAt w v fs) (hb : Below w.heap.size w w') : RowsAt w' v fs := by
  obtain ⟨a, cap, hv, hc⟩ := h
  refine ⟨a, cap, hv, fun h0 => ?_⟩
  obtain ⟨b, off, ha, hc⟩ := hc h0
  refine ⟨b, off, ha, fun i hi => ?_⟩
  obtain ⟨u, h1, h2⟩ := hc i hi
  rw [hb.cell (p := ⟨b, off + i, none⟩) (block_lt_of_cell h1)]
  exact ⟨u, h1, h2.below hb⟩
theorem IntsAt.shape {w : World} {v : Value} {zs : List Int} (h : IntsAt w v zs) : ∃ a c, v = .slice a zs.length c := by obtain ⟨a, c, h, _⟩ := h; exact ⟨a, c, h⟩
theorem BoolsAt.shape {w : World} {v : Value} {zs : List Bool} (h : BoolsAt w v zs) : ∃ a c, v = .slice a zs.length c := by obtain ⟨a, c, h, _⟩ := h; exact ⟨a, c, h⟩
theorem RowsAt.shape {w : World} {v : Value} {zs : List (List Int)} (h : RowsAt w v zs) : ∃ a c, v = .slice a zs.length c := by obtain ⟨a, c, h, _⟩ := h; exact ⟨a, c, h⟩
theorem IntsAt.at' {w : World} {a : Option Addr} {n c : Nat} {zs : List Int} (h : IntsAt w (.slice a n c) zs) (h0 : 0 < n) : ∃ b off, a = some ⟨b, off, none⟩ ∧ ∀ i, i < n → w.cell? ⟨b, off + i, none⟩ = some (.int .i64 (zs.getD i 0)) := by
  obtain ⟨a', c', hv, hc⟩ := h
  cases hv
  exact hc h0
theorem BoolsAt.at' {w : World} {a : Option Addr} {n c : Nat} {zs : List Bool} (h : BoolsAt w (.slice a n c) zs) (h0 : 0 < n) : ∃ b off, a = some ⟨b, off, none⟩ ∧ ∀ i, i < n → w.cell? ⟨b, off + i, none⟩ = some (.bool (zs.getD i false)) := by
  obtain ⟨a', c', hv, hc⟩ := h
  cases hv
  exact hc h0
theorem RowsAt.at' {w : World} {a : Option Addr} {n c : Nat} {zs : List (List Int)} (h : RowsAt w (.slice a n c) zs) (h0 : 0 < n) : ∃ b off, a = some ⟨b, off, none⟩ ∧ ∀ i, i < n → ∃ u, w.cell? ⟨b, off + i, none⟩ = some u ∧ IntsAt w u (zs.getD i []) := by
  obtain ⟨a', c', hv, hc⟩ := h
  cases hv
  exact hc h0
/-- A heap by value. -/
abbrev hv (a b c : Value) : Value := .agg #[a, b, c]
abbrev c3 (a b c : Value) : Array Value := #[a, b, c]
structure HeapAt (w : World) (a b c : Value) (h : H) : Prop where
  f : RowsAt w a h.f
  l : BoolsAt w b h.l
  r : IntsAt w c h.r
theorem HeapAt.below {w w' : World} {a b c : Value} {h : H} (k : HeapAt w a b c h) (hb : Below w.heap.size w w') : HeapAt w' a b c h := ⟨k.f.below hb, k.l.below hb, k.r.below hb⟩
theorem cellBelow {w w' : World} {p : Addr} {x : Value} {B : Nat} (hb : Below B w w') (hB : w.heap.size ≤ B) (h : w.cell? p = some x) : w'.cell? p = some x := (hb.cell (Nat.lt_of_lt_of_le (block_lt_of_cell h) hB)).trans h
theorem below1 (w : World) (o : Obj) : Below w.heap.size w (w.alloc o) := (Below.refl w.heap.size w).alloc (Nat.le_refl _) o
def RowH (w : World) (g : Nat) (a b c : Value) : Prop := Row w g 30 (c3 a b c)
theorem info_heap : (Try.prog.info? 30).map (·.size) = some 3 := by kernel_rfl
theorem RowH.c0 {w : World} {g : Nat} {a b c : Value} (h : RowH w g a b c) : w.cell? ⟨g, 0, none⟩ = some a := Row.cell h 0
theorem RowH.c1 {w : World} {g : Nat} {a b c : Value} (h : RowH w g a b c) : w.cell? ⟨g, 1, none⟩ = some b := Row.cell h 1
theorem RowH.c2 {w : World} {g : Nat} {a b c : Value} (h : RowH w g a b c) : w.cell? ⟨g, 2, none⟩ = some c := Row.cell h 2
theorem RowH.below {w w' : World} {g : Nat} {a b c : Value} (h : RowH w g a b c) (hb : Below w.heap.size w w') : RowH w' g a b c := Row.below h hb
theorem wl_loadH {ops : Array Oper} {rest : List Oper} {o : Oper} {q : Act} {w : World} {Q : Exit → Act → World → Prop} (hgd : o.guard = none) (x : Operand) (ho : o.op = .load 30 x) (g : Nat) (a b c : Value) (hg : RowH w g a b c)
    (hx : q.eval x = .pointer (some ⟨g, 0, none⟩)) (h : wpList Try.prog ops Q rest (q.put o.dst (hv a b c)) w) : wpList Try.prog ops Q (o :: rest) q w :=
  wpList_load_row hgd 30 x ho g hx 30 (c3 a b c) (0, 0) _ hg Try.underlying30 rfl info_heap h
/-- What a call owns: n rows of cells, each in a block of its own, all blocks between lo and hi. -/
structure Fam (w : World) (lo hi n : Nat) (T : Nat → TypeId) (v : Nat → Value) (cs : Nat → List Value) : Prop where
  own : ∀ k, k < n → w.ownsRow lo (T k) 1 (v k) (cs k).length (cs k)
  lt : ∀ k, k < n → ∀ g, (v k).ownBlock = some g → g < hi
  ap : ∀ j k, j < n → k < n → j ≠ k → (v j).ownBlock = none ∨ (v j).ownBlock ≠ (v k).ownBlock
theorem owns_lt {w : World} {B : Nat} {T : TypeId} {v : Value} {n : Nat} {xs : List Value} (h : w.ownsRow B T 1 v n xs) {g : Nat} (hg : v.ownBlock = some g) : B ≤ g ∧ g < w.heap.size := by
  rcases h.2 with ⟨rfl, _⟩ | ⟨g', cap, cur, rfl, h1, h2, _⟩
  · cases hg
  · cases hg
    refine ⟨h1, ?_⟩
    by_cases e : g' < w.heap.size
    · exact e
    · have hn : w.heap[g']? = none := by simp; omega
      rw [hn] at h2; cases h2
/-- Blocks beyond lo .. hi are as they were. -/
structure Chg (lo hi : Nat) (w w' : World) : Prop where
  os : w'.os = w.os
  tape : w'.tape = w.tape
  output : w'.output = w.output
  size : w.heap.size ≤ w'.heap.size
  block : ∀ i, i < w.heap.size → (i < lo ∨ hi ≤ i) → w'.heap[i]? = w.heap[i]?
theorem Chg.refl (lo hi : Nat) (w : World) : Chg lo hi w w := ⟨rfl, rfl, rfl, Nat.le_refl _, fun _ _ _ => rfl⟩
theorem Chg.trans {lo hi : Nat} {a b c : World} (h : Chg lo hi a b) (k : Chg lo hi b c) : Chg lo hi a c := ⟨k.os.trans h.os, k.tape.trans h.tape, k.output.trans h.output, Nat.le_trans h.size k.size, fun i hi hr => (k.block i (Nat.lt_of_lt_of_le hi h.size) hr).trans (h.block i hi hr)⟩
theorem Chg.of_below {lo hi : Nat} {w w' : World} (h : Below w.heap.size w w') : Chg lo hi w w' := ⟨h.os, h.tape, h.output, h.size, fun i hi _ => h.block i hi⟩
theorem Chg.of_grown {lo hi : Nat} {w w' : World} {row : Option Nat} (h : w.grownBy w' row) (hr : ∀ g, row = some g → lo ≤ g ∧ g < hi) : Chg lo hi w w' := ⟨h.os, h.tape, h.output, h.size, fun i hi hx => h.block i hi (fun e => by have := hr i e.symm; omega)⟩
theorem owns_block {w w' : World} {B : Nat} {T : TypeId} {v : Value} {n : Nat} {xs : List Value} (h : w.ownsRow B T 1 v n xs) (hb : ∀ g, v.ownBlock = some g → w'.heap[g]? = w.heap[g]?) : w'.ownsRow B T 1 v n xs := by
  refine ⟨h.1, ?_⟩
  rcases h.2 with h2 | ⟨g, cap, cur, hv, hg, hh, r⟩
  · exact .inl h2
  · exact .inr ⟨g, cap, cur, hv, hg, by rw [hb g (by rw [hv]; rfl)]; exact hh, r⟩
theorem owns_mono {w : World} {B B' : Nat} {T : TypeId} {v : Value} {n : Nat} {xs : List Value} (h : w.ownsRow B T 1 v n xs) (hB : ∀ g, v.ownBlock = some g → B' ≤ g) : w.ownsRow B' T 1 v n xs := by
  refine ⟨h.1, ?_⟩
  rcases h.2 with h2 | ⟨g, cap, cur, hv, hg, hh, r⟩
  · exact .inl h2
  · exact .inr ⟨g, cap, cur, hv, hB g (by rw [hv]; rfl), hh, r⟩
section
variable {w w' : World} {lo hi n : Nat} {T : Nat → TypeId} {v : Nat → Value} {cs : Nat → List Value}
theorem Fam.blk (h : Fam w lo hi n T v cs) {k g : Nat} (hk : k < n) (hg : (v k).ownBlock = some g) : lo ≤ g ∧ g < hi ∧ g < w.heap.size := ⟨(owns_lt (h.own k hk) hg).1, h.lt k hk g hg, (owns_lt (h.own k hk) hg).2⟩
theorem Fam.keep (h : Fam w lo hi n T v cs) (hb : ∀ g, lo ≤ g → g < hi → g < w.heap.size → w'.heap[g]? = w.heap[g]?) : Fam w' lo hi n T v cs :=
  ⟨fun k hk => owns_block (h.own k hk) fun g hg => by obtain ⟨a, b, c⟩ := h.blk hk hg; exact hb g a b c, h.lt, h.ap⟩
theorem Fam.below (h : Fam w lo hi n T v cs) (hb : Below w.heap.size w w') : Fam w' lo hi n T v cs := h.keep fun g _ _ hg => hb.block g hg
theorem Fam.chg {lo' hi' : Nat} (h : Fam w lo hi n T v cs) (hc : Chg lo' hi' w w') (hd : hi ≤ lo' ∨ hi' ≤ lo) : Fam w' lo hi n T v cs := h.keep fun g h1 h2 h3 => hc.block g h3 (by omega)
theorem Fam.wide (h : Fam w lo hi n T v cs) {lo' hi' : Nat} (h1 : lo' ≤ lo) (h2 : hi ≤ hi') : Fam w lo' hi' n T v cs :=
  ⟨fun k hk => owns_mono (h.own k hk) fun g hg => by have := h.blk hk hg; omega, fun k hk g hg => by have := h.lt k hk g hg; omega, h.ap⟩
def upd {α : Type} (f : Nat → α) (k : Nat) (x : α) : Nat → α := fun i => if i = k then x else f i
theorem upd_same {α : Type} (f : Nat → α) (k : Nat) (x : α) : upd f k x k = x := by simp [upd]
theorem upd_other {α : Type} (f : Nat → α) {k i : Nat} (x : α) (h : i ≠ k) : upd f k x i = f i := by simp [upd, h]
/-- One row's content changes in its own block. -/
theorem Fam.set (h : Fam w lo hi n T v cs) {k : Nat} (hk : k < n) {ds : List Value} (hg : w.grownBy w' (v k).ownBlock) (ho : w'.ownsRow lo (T k) 1 (v k) ds.length ds) : Fam w' lo hi n T v (upd cs k ds) := by
  refine ⟨fun j hj => ?_, h.lt, h.ap⟩
  by_cases e : j = k
  · subst e; rw [upd_same]; exact ho
  · rw [upd_other _ _ e]
    refine owns_block (h.own j hj) fun g hjg => hg.block g (owns_lt (h.own j hj) hjg).2 fun e2 => ?_
    rcases h.ap j k hj hk e with h1 | h1
    · rw [hjg] at h1; cases h1
    · exact h1 (by rw [hjg, ← e2])
/-- A row is put in another's place: nothing's, or a block of its own. -/
theorem Fam.put (h : Fam w lo hi n T v cs) {k : Nat} {u : Value} {ds : List Value} (ho : w.ownsRow lo (T k) 1 u ds.length ds) {hi' : Nat} (hh : hi ≤ hi') (hu : ∀ g, u.ownBlock = some g → (hi ≤ g ∧ g < hi') ∨ (v k).ownBlock = some g) (hk : k < n) : Fam w lo hi' n T (upd v k u) (upd cs k ds) := by
  have far : ∀ j, j < n → j ≠ k → ∀ g, u.ownBlock = some g → (v j).ownBlock ≠ some g := fun j hj e g hg hjg => by
    rcases hu g hg with h1 | h1
    · have := h.lt j hj g hjg; omega
    · rcases h.ap j k hj hk e with h2 | h2
      · rw [h2] at hjg; cases hjg
      · exact h2 (by rw [hjg, h1])
  refine ⟨fun j hj => ?_, fun j hj g hg => ?_, fun i j hi hj hij => ?_⟩
  · by_cases e : j = k
    · subst e; rw [upd_same, upd_same]; exact ho
    · rw [upd_other _ _ e, upd_other _ _ e]; exact h.own j hj
  · by_cases e : j = k
    · subst e; rw [upd_same] at hg
      rcases hu g hg with h1 | h1
      · exact h1.2
      · have := h.lt j hj g h1; omega
    · rw [upd_other _ _ e] at hg; have := h.lt j hj g hg; omega
  · by_cases e : i = k
    · have e' : j ≠ k := fun h => hij (by omega)
      subst e; rw [upd_same, upd_other _ _ e']
      cases hq : u.ownBlock with
      | none => exact .inl rfl
      | some g => exact .inr fun e2 => far j hj e' g hq e2.symm
    · by_cases e' : j = k
      · subst e'; rw [upd_same, upd_other _ _ e]
        cases hq : (v i).ownBlock with
        | none => exact .inl rfl
        | some g => exact .inr fun e2 => far i hi e g e2.symm hq
      · rw [upd_other _ _ e, upd_other _ _ e']; exact h.ap i j hi hj hij
end
end Go.Proofs.Ytkkigoamphkalaa
namespace Go.Proofs.Ytkkigoamphkalaa
open Go.RowKit Ph

theorem c_szIntS_yes (a : Option Addr) (n c : Nat) (left : Int) (w : World) (h1 : left ≤ 1048576) (h : (n : Int) ≤ left) : Calls Try.prog 79 #[.slice a n c, .int .i64 left] w fun e w' => e = .returned (.int .i64 (left - n)) ∧ w = w' := by
  have h2 : ¬ left - (n : Int) < 0 := by omega
  go_enter Try.func79, Try.ntmps79
  go_wp2
  go_ret
  exact ⟨rfl, rfl⟩
theorem c_szIntS_no (a : Option Addr) (n c : Nat) (left : Int) (w : World) (h0 : 0 ≤ left) (h1 : left ≤ 1048576) (hn : n ≤ 9223372036854775807) (h : left < (n : Int)) : Calls Try.prog 79 #[.slice a n c, .int .i64 left] w fun e w' => e = .returned (.int .i64 (-1)) ∧ w = w' := by
  have h2 : left - (n : Int) < 0 := by omega
  go_enter Try.func79, Try.ntmps79
  go_wp2
  go_ret
  exact ⟨rfl, rfl⟩
theorem c_szBoolS_yes (a : Option Addr) (n c : Nat) (left : Int) (w : World) (h1 : left ≤ 1048576) (h : (n : Int) ≤ left) : Calls Try.prog 78 #[.slice a n c, .int .i64 left] w fun e w' => e = .returned (.int .i64 (left - n)) ∧ w = w' := by
  have h2 : ¬ left - (n : Int) < 0 := by omega
  go_enter Try.func78, Try.ntmps78
  go_wp2
  go_ret
  exact ⟨rfl, rfl⟩
theorem c_szBoolS_no (a : Option Addr) (n c : Nat) (left : Int) (w : World) (h0 : 0 ≤ left) (h1 : left ≤ 1048576) (hn : n ≤ 9223372036854775807) (h : left < (n : Int)) : Calls Try.prog 78 #[.slice a n c, .int .i64 left] w fun e w' => e = .returned (.int .i64 (-1)) ∧ w = w' := by
  have h2 : left - (n : Int) < 0 := by omega
  go_enter Try.func78, Try.ntmps78
  go_wp2
  go_ret
  exact ⟨rfl, rfl⟩
/-- How many numbers the first k rows hold. -/
def sumL (fs : List (List Int)) (k : Nat) : Nat := ((fs.take k).map List.length).sum
theorem sumL_succ {fs : List (List Int)} {k : Nat} (h : k < fs.length) : sumL fs (k + 1) = sumL fs k + (fs.getD k []).length := by
  have e : fs.getD k [] = fs[k] := by simp [List.getD, List.getElem?_eq_getElem h]
  unfold sumL
  rw [List.take_succ_eq_append_getElem h, List.map_append, List.sum_append, e]; simp
theorem sumL_zero (fs : List (List Int)) : sumL fs 0 = 0 := by simp [sumL]
theorem sumL_mono (fs : List (List Int)) {j k : Nat} (h : j ≤ k) : sumL fs j ≤ sumL fs k := by
  induction k with
  | zero => obtain rfl : j = 0 := by omega
            exact Nat.le_refl _
  | succ k ih =>
    by_cases e : j = k + 1
    · subst e; exact Nat.le_refl _
    · have := ih (by omega)
      by_cases hk : k < fs.length
      · rw [sumL_succ hk]; omega
      · have : sumL fs (k + 1) = sumL fs k := by unfold sumL; rw [List.take_of_length_le (by omega), List.take_of_length_le (by omega)]
        omega
theorem sumL_le (fs : List (List Int)) (j : Nat) : sumL fs j ≤ sumL fs fs.length := by
  by_cases h : j ≤ fs.length
  · exact sumL_mono fs h
  · unfold sumL; rw [List.take_of_length_le (by omega), List.take_of_length_le (by omega)]; exact Nat.le_refl _
/-- How much a list of lists weighs. -/
def wt (fs : List (List Int)) : Nat := fs.length + sumL fs fs.length
/-- The rows' lengths fit. -/
def Fit (fs : List (List Int)) : Prop := ∀ k, k < fs.length → (fs.getD k []).length ≤ 9223372036854775807
set_option maxHeartbeats 1600000 in
theorem c_szIntSS_yes (v : Value) (fs : List (List Int)) (left : Int) (w : World) (hA : RowsAt w v fs) (h1 : left ≤ 1048576) (h : (wt fs : Int) ≤ left) : Calls Try.prog 77 #[v, .int .i64 left] w fun e w' => e = .returned (.int .i64 (left - wt fs)) ∧ w = w' := by
  have HA := Lib.hid hA
  obtain ⟨fa, fc, rfl⟩ := hA.shape
  clear hA
  have hsl := sumL_le fs
  have hw : (wt fs : Int) = (fs.length : Int) + (sumL fs fs.length : Int) := by unfold wt; omega
  have hss : ∀ k, k < fs.length → sumL fs (k + 1) = sumL fs k + (fs.getD k []).length := fun k hk => sumL_succ hk
  rw [hw] at h ⊢
  generalize hn : fs.length = n at *
  have HN := Lib.hid hn; have HSL := Lib.hid hsl; have HSS := Lib.hid hss
  clear hn hsl hw hss
  generalize hT : sumL fs n = Tt at *
  have HT := Lib.hid hT
  clear hT
  have i0 : ¬ left - (n : Int) < 0 := by omega
  go_enter Try.func77, Try.ntmps77
  go_wp2
  go_loop [1, 5] (fun l i => ∃ k : Nat, k ≤ n ∧ i = .int .i64 k ∧ ∃ s : Nat, Hid (sumL fs k = s) ∧ s ≤ Tt ∧ l = .int .i64 (left - n - s)) (fun _ i => n - (intOf i).toNat)
  case atStart => exact ⟨0, Nat.zero_le _, rfl, 0, sumL_zero fs, Nat.zero_le _, by simp⟩
  case round =>
    obtain ⟨k, hk, rfl, s, hs, hsT, rfl⟩ := hrel
    by_cases hlt : k < n
    · obtain ⟨gf, of, rfl, hcf⟩ := HA.out.at' (by omega)
      obtain ⟨u, qf, hu⟩ := hcf k hlt
      obtain ⟨ua, uc, rfl⟩ := hu.shape
      have e1 := HSS.out k hlt
      have e2 := HSL.out (k + 1)
      have i1 : (k : Int) < (n : Int) := by omega
      rw [hs.out] at e1
      rw [e1] at e2
      have E1 := Lib.hid e1
      clear hcf hu e1
      generalize (fs.getD k []).length = m at *
      have i2 : ¬ left - (n : Int) - (s : Int) - (m : Int) < 0 := by omega
      have J : Hid ((m : Int) ≤ left - (n : Int) - (s : Int)) := by unfold Hid; omega
      have J1 : Hid (left - (n : Int) - (s : Int) ≤ 1048576) := by unfold Hid; omega
      go_wp2_with (go_at_call 79; refine (c_szIntS_yes ua m uc (left - n - s) _ J1.out J.out).mono ?_; rintro e w1 ⟨rfl, rfl⟩)
      go_round
      case rel => exact ⟨k + 1, by omega, by go_num, s + m, E1.out, by omega, by congr 1; omega⟩
      case measure => simp [intOf]; omega
    · obtain rfl : k = n := by omega
      obtain rfl : Tt = s := HT.out.symm.trans hs.out
      go_wp2
      go_ret
      exact ⟨r_i (by omega), rfl⟩
set_option maxHeartbeats 1600000 in
theorem c_szIntSS_no (v : Value) (fs : List (List Int)) (left : Int) (w : World) (hA : RowsAt w v fs) (hf : Fit fs) (hl : fs.length ≤ 9223372036854775807) (h0 : 0 ≤ left) (h1 : left ≤ 1048576) (h : left < (wt fs : Int)) : Calls Try.prog 77 #[v, .int .i64 left] w fun e w' => e = .returned (.int .i64 (-1)) ∧ w = w' := by
  have HA := Lib.hid hA
  obtain ⟨fa, fc, rfl⟩ := hA.shape
  clear hA
  have hw : (wt fs : Int) = (fs.length : Int) + (sumL fs fs.length : Int) := by unfold wt; omega
  have hss : ∀ k, k < fs.length → sumL fs (k + 1) = sumL fs k + (fs.getD k []).length := fun k hk => sumL_succ hk
  have HF : Hid (∀ k, k < fs.length → (fs.getD k []).length ≤ 9223372036854775807) := hf
  rw [hw] at h
  clear hf hw
  generalize hn : fs.length = n at *
  have HN := Lib.hid hn; have HSS := Lib.hid hss
  clear hn hss
  generalize hT : sumL fs n = Tt at *
  have HT := Lib.hid hT
  clear hT
  by_cases i0 : left - (n : Int) < 0
  · clear HA HN HSS HT HF
    go_enter Try.func77, Try.ntmps77
    go_wp2
    go_ret
    exact ⟨rfl, rfl⟩
  · go_enter Try.func77, Try.ntmps77
    go_wp2
    go_loop [1, 5] (fun l i => ∃ k : Nat, k ≤ n ∧ i = .int .i64 k ∧ ∃ s : Nat, Hid (sumL fs k = s) ∧ (s : Int) ≤ left - n ∧ l = .int .i64 (left - n - s)) (fun _ i => n - (intOf i).toNat)
    case atStart => exact ⟨0, Nat.zero_le _, rfl, 0, sumL_zero fs, by omega, by simp⟩
    case round =>
      obtain ⟨k, hk, rfl, s, hs, hsT, rfl⟩ := hrel
      by_cases hlt : k < n
      · obtain ⟨gf, of, rfl, hcf⟩ := HA.out.at' (by omega)
        obtain ⟨u, qf, hu⟩ := hcf k hlt
        obtain ⟨ua, uc, rfl⟩ := hu.shape
        have e1 := HSS.out k hlt
        have e2 := HF.out k hlt
        have i1 : (k : Int) < (n : Int) := by omega
        rw [hs.out] at e1
        have E1 := Lib.hid e1
        clear hcf hu e1
        generalize (fs.getD k []).length = m at *
        have J1 : Hid (left - (n : Int) - (s : Int) ≤ 1048576) := by unfold Hid; omega
        have J2 : Hid (0 ≤ left - (n : Int) - (s : Int)) := by unfold Hid; omega
        have E2 := Lib.hid e2
        by_cases i2 : left - (n : Int) - (s : Int) - (m : Int) < 0
        · have J : Hid (left - (n : Int) - (s : Int) < (m : Int)) := by unfold Hid; omega
          clear e2
          go_wp2_with (go_at_call 79; refine (c_szIntS_no ua m uc (left - n - s) _ J2.out J1.out E2.out J.out).mono ?_; rintro e w1 ⟨rfl, rfl⟩)
          go_ret
          exact ⟨rfl, rfl⟩
        · have J : Hid ((m : Int) ≤ left - (n : Int) - (s : Int)) := by unfold Hid; omega
          go_wp2_with (go_at_call 79; refine (c_szIntS_yes ua m uc (left - n - s) _ J1.out J.out).mono ?_; rintro e w1 ⟨rfl, rfl⟩)
          go_round
          case rel => exact ⟨k + 1, by omega, by go_num, s + m, E1.out, by omega, by congr 1; omega⟩
          case measure => simp [intOf]; omega
      · obtain rfl : k = n := by omega
        obtain rfl : Tt = s := HT.out.symm.trans hs.out
        exfalso
        omega
end Go.Proofs.Ytkkigoamphkalaa
namespace Go.Proofs.Ytkkigoamphkalaa
open Go.RowKit Ph

theorem Fam.congr {w : World} {lo hi n : Nat} {T : Nat → TypeId} {v v' : Nat → Value} {cs cs' : Nat → List Value} (h : Fam w lo hi n T v cs) (hv : ∀ k, k < n → v' k = v k) (hc : ∀ k, k < n → cs' k = cs k) : Fam w lo hi n T v' cs' :=
  ⟨fun k hk => by rw [hv k hk, hc k hk]; exact h.own k hk, fun k hk => by rw [hv k hk]; exact h.lt k hk, fun j k hj hk => by rw [hv j hj, hv k hk]; exact h.ap j k hj hk⟩
/-- A row of bools that the call itself has made. -/
def OwnBs (w : World) (B : Nat) (v : Value) (bs : List Bool) : Prop := w.ownsRow B 4 1 v bs.length (bs.map Value.bool)
theorem owns_bools {w : World} {B : Nat} {v : Value} {bs : List Bool} (h : OwnBs w B v bs) : BoolsAt w v bs := by
  have h' := h
  obtain ⟨h1, h2⟩ := h
  rcases h2 with ⟨rfl, h2⟩ | ⟨g, cap, cur, rfl, hg, hh, _⟩
  · exact ⟨none, 0, by rw [h2], fun h => by omega⟩
  · refine ⟨_, cap, rfl, fun _ => ⟨g, 0, rfl, fun i hi => ?_⟩⟩
    rw [Nat.zero_add, World.ownsRow.cellAt h' i (by omega), List.getElem?_map, List.getElem?_eq_getElem hi]
    simp [List.getD, List.getElem?_eq_getElem hi]
theorem OwnBs.below {w w' : World} {B : Nat} {v : Value} {bs : List Bool} (h : OwnBs w B v bs) (hb : Below w.heap.size w w') : OwnBs w' B v bs := owns_block h fun g hg => hb.block g (owns_lt h hg).2
theorem Own.nil (w : World) (B : Nat) : Own w B (.slice none 0 0) [] := ⟨rfl, .inl ⟨rfl, rfl⟩⟩
theorem OwnBs.shape {w : World} {B : Nat} {v : Value} {bs : List Bool} (h : OwnBs w B v bs) : (v = .slice none 0 0 ∧ bs = []) ∨ ∃ g c, v = .slice (some ⟨g, 0, none⟩) bs.length c := by
  rcases h.2 with ⟨h1, h2⟩ | ⟨g, cap, cur, h1, _⟩
  · exact .inl ⟨h1, List.eq_nil_of_length_eq_zero h2⟩
  · exact .inr ⟨g, cap, h1⟩
theorem Own.shape' {w : World} {B : Nat} {v : Value} {bs : List Int} (h : Own w B v bs) : (v = .slice none 0 0 ∧ bs = []) ∨ ∃ g c, v = .slice (some ⟨g, 0, none⟩) bs.length c := by
  rcases h.2 with ⟨h1, h2⟩ | ⟨g, cap, cur, h1, _⟩
  · exact .inl ⟨h1, List.eq_nil_of_length_eq_zero h2⟩
  · exact .inr ⟨g, cap, h1⟩

def tyH : Nat → TypeId
  | 0 => 24
  | 1 => 4
  | _ + 2 => 3
def vH (a b c : Value) (us : Nat → Value) : Nat → Value
  | 0 => a
  | 1 => b
  | 2 => c
  | i + 3 => us i
def cH (us : Nat → Value) (h : H) : Nat → List Value
  | 0 => (List.range h.f.length).map us
  | 1 => h.l.map Value.bool
  | 2 => h.r.map (Value.int .i64)
  | i + 3 => (h.f.getD i []).map (Value.int .i64)
def FamH (w : World) (lo hi : Nat) (a b c : Value) (us : Nat → Value) (h : H) : Prop := Fam w lo hi (h.f.length + 3) tyH (vH a b c us) (cH us h)
def OwnH (w : World) (lo hi : Nat) (a b c : Value) (h : H) : Prop := ∃ us, FamH w lo hi a b c us h
section
variable {w w' : World} {lo hi : Nat} {a b c : Value} {us : Nat → Value} {h : H}
theorem FamH.outer (k : FamH w lo hi a b c us h) : w.ownsRow lo 24 1 a h.f.length ((List.range h.f.length).map us) := by
  have := k.own 0 (by omega)
  simp only [tyH, vH, cH, List.length_map, List.length_range] at this
  exact this
theorem FamH.live (k : FamH w lo hi a b c us h) : OwnBs w lo b h.l := by
  have := k.own 1 (by omega)
  simp only [tyH, vH, cH, List.length_map] at this
  exact this
theorem FamH.roots (k : FamH w lo hi a b c us h) : Own w lo c h.r := by
  have := k.own 2 (by omega)
  simp only [tyH, vH, cH, List.length_map] at this
  exact this
theorem FamH.row (k : FamH w lo hi a b c us h) {i : Nat} (hi : i < h.f.length) : Own w lo (us i) (h.f.getD i []) := by
  have := k.own (i + 3) (by omega)
  simp only [tyH, vH, cH, List.length_map] at this
  exact this
theorem FamH.cell (k : FamH w lo hi a b c us h) {g cap i : Nat} (ha : a = .slice (some ⟨g, 0, none⟩) h.f.length cap) (hi : i < h.f.length) : w.cell? ⟨g, i, none⟩ = some (us i) ∧ w.frozen? ⟨g, i, none⟩ = false := by
  have o := k.outer
  subst ha
  refine ⟨?_, o.frozenAt i⟩
  rw [o.cellAt i (by omega)]
  simp [hi]
theorem FamH.shape (k : FamH w lo hi a b c us h) : (a = .slice none 0 0 ∧ h.f = []) ∨ ∃ g cap, a = .slice (some ⟨g, 0, none⟩) h.f.length cap := by
  rcases k.outer.2 with ⟨h1, h2⟩ | ⟨g, cap, cur, h1, _⟩
  · exact .inl ⟨h1, List.eq_nil_of_length_eq_zero h2⟩
  · exact .inr ⟨g, cap, h1⟩
theorem FamH.reads (k : FamH w lo hi a b c us h) : HeapAt w a b c h := by
  refine ⟨?_, owns_bools k.live, k.roots.ints⟩
  rcases k.shape with ⟨h1, h2⟩ | ⟨g, cap, h1⟩
  · exact ⟨none, 0, by rw [h1, h2]; rfl, fun h => by rw [h2] at h; simp at h⟩
  · exact ⟨_, cap, h1, fun _ => ⟨g, 0, rfl, fun i hi => ⟨us i, by rw [Nat.zero_add]; exact (k.cell h1 hi).1, (k.row hi).ints⟩⟩⟩
theorem OwnH.reads (k : OwnH w lo hi a b c h) : HeapAt w a b c h := by obtain ⟨us, k⟩ := k; exact k.reads
theorem OwnH.below (k : OwnH w lo hi a b c h) (hb : Below w.heap.size w w') : OwnH w' lo hi a b c h := by obtain ⟨us, k⟩ := k; exact ⟨us, Fam.below k hb⟩
theorem OwnH.chg {lo' hi' : Nat} (k : OwnH w lo hi a b c h) (hc : Chg lo' hi' w w') (hd : hi ≤ lo' ∨ hi' ≤ lo) : OwnH w' lo hi a b c h := by obtain ⟨us, k⟩ := k; exact ⟨us, Fam.chg k hc hd⟩
theorem OwnH.wide (k : OwnH w lo hi a b c h) {lo' hi' : Nat} (h1 : lo' ≤ lo) (h2 : hi ≤ hi') : OwnH w lo' hi' a b c h := by obtain ⟨us, k⟩ := k; exact ⟨us, Fam.wide k h1 h2⟩
theorem OwnH.nil (w : World) (lo hi : Nat) : OwnH w lo hi (.slice none 0 0) (.slice none 0 0) (.slice none 0 0) ⟨[], [], []⟩ := by
  refine ⟨fun _ => .slice none 0 0, fun k hk => ?_, fun k hk g hg => ?_, fun j k hj _ _ => ?_⟩
  · match k, hk with
    | 0, _ => exact ⟨rfl, .inl ⟨rfl, rfl⟩⟩
    | 1, _ => exact ⟨rfl, .inl ⟨rfl, rfl⟩⟩
    | 2, _ => exact ⟨rfl, .inl ⟨rfl, rfl⟩⟩
  · match k, hk with
    | 0, _ => cases hg
    | 1, _ => cases hg
    | 2, _ => cases hg
  · match j, hj with
    | 0, _ => exact .inl rfl
    | 1, _ => exact .inl rfl
    | 2, _ => exact .inl rfl
theorem getD_setL {fs : List (List Int)} {i j : Nat} {zs : List Int} (hi : i < fs.length) : (fs.set i zs).getD j [] = if j = i then zs else fs.getD j [] := by
  by_cases e : j = i
  · subst e; simp [List.getD, hi]
  · have : ¬ i = j := fun h => e h.symm
    simp [List.getD, e, this]
/-- A row's content changes where it lies. -/
theorem FamH.setRow (k : FamH w lo hi a b c us h) {i : Nat} (hi0 : i < h.f.length) {zs : List Int} (hg : w.grownBy w' (us i).ownBlock) (ho : Own w' lo (us i) zs) : FamH w' lo hi a b c us ⟨h.f.set i zs, h.l, h.r⟩ := by
  have := Fam.set k (k := i + 3) (by omega) (ds := zs.map (Value.int .i64)) hg (by simp only [tyH, vH, List.length_map]; exact ho)
  unfold FamH
  rw [List.length_set]
  refine this.congr (fun _ _ => rfl) fun j hj => ?_
  match j with
  | 0 => rw [upd_other _ _ (by omega)]; simp [cH]
  | 1 => rw [upd_other _ _ (by omega)]; rfl
  | 2 => rw [upd_other _ _ (by omega)]; rfl
  | j + 3 =>
    by_cases e : j = i
    · subst e; rw [upd_same]; simp only [cH]; rw [getD_setL hi0, if_pos rfl]
    · rw [upd_other _ _ (by omega)]; simp only [cH]; rw [getD_setL hi0, if_neg e]
theorem FamH.setLive (k : FamH w lo hi a b c us h) {bs : List Bool} (hg : w.grownBy w' b.ownBlock) (ho : OwnBs w' lo b bs) : FamH w' lo hi a b c us ⟨h.f, bs, h.r⟩ := by
  have := Fam.set k (k := 1) (by omega) (ds := bs.map Value.bool) hg (by simp only [tyH, vH, List.length_map]; exact ho)
  refine this.congr (fun _ _ => rfl) fun j hj => ?_
  match j with
  | 0 => rw [upd_other _ _ (by omega)]; rfl
  | 1 => rw [upd_same]; rfl
  | 2 => rw [upd_other _ _ (by omega)]; rfl
  | j + 3 => rw [upd_other _ _ (by omega)]; rfl
theorem FamH.setRoots (k : FamH w lo hi a b c us h) {zs : List Int} (hg : w.grownBy w' c.ownBlock) (ho : Own w' lo c zs) : FamH w' lo hi a b c us ⟨h.f, h.l, zs⟩ := by
  have := Fam.set k (k := 2) (by omega) (ds := zs.map (Value.int .i64)) hg (by simp only [tyH, vH, List.length_map]; exact ho)
  refine this.congr (fun _ _ => rfl) fun j hj => ?_
  match j with
  | 0 => rw [upd_other _ _ (by omega)]; rfl
  | 1 => rw [upd_other _ _ (by omega)]; rfl
  | 2 => rw [upd_same]; rfl
  | j + 3 => rw [upd_other _ _ (by omega)]; rfl
/-- Another list for what is live. -/
theorem FamH.putLive (k : FamH w lo hi a b c us h) {b' : Value} {bs : List Bool} (ho : OwnBs w lo b' bs) {hi' : Nat} (hh : hi ≤ hi') (hu : ∀ g, b'.ownBlock = some g → (hi ≤ g ∧ g < hi') ∨ b.ownBlock = some g) : FamH w lo hi' a b' c us ⟨h.f, bs, h.r⟩ := by
  have := Fam.put k (k := 1) (u := b') (ds := bs.map Value.bool) (by simp only [tyH, List.length_map]; exact ho) hh hu (by omega)
  refine this.congr (fun j hj => ?_) fun j hj => ?_
  · match j with
    | 0 => rw [upd_other _ _ (by omega)]; rfl
    | 1 => rw [upd_same]; rfl
    | 2 => rw [upd_other _ _ (by omega)]; rfl
    | j + 3 => rw [upd_other _ _ (by omega)]; rfl
  · match j with
    | 0 => rw [upd_other _ _ (by omega)]; rfl
    | 1 => rw [upd_same]; rfl
    | 2 => rw [upd_other _ _ (by omega)]; rfl
    | j + 3 => rw [upd_other _ _ (by omega)]; rfl
theorem FamH.putRoots (k : FamH w lo hi a b c us h) {c' : Value} {zs : List Int} (ho : Own w lo c' zs) {hi' : Nat} (hh : hi ≤ hi') (hu : ∀ g, c'.ownBlock = some g → (hi ≤ g ∧ g < hi') ∨ c.ownBlock = some g) : FamH w lo hi' a b c' us ⟨h.f, h.l, zs⟩ := by
  have := Fam.put k (k := 2) (u := c') (ds := zs.map (Value.int .i64)) (by simp only [tyH, List.length_map]; exact ho) hh hu (by omega)
  refine this.congr (fun j hj => ?_) fun j hj => ?_
  · match j with
    | 0 => rw [upd_other _ _ (by omega)]; rfl
    | 1 => rw [upd_other _ _ (by omega)]; rfl
    | 2 => rw [upd_same]; rfl
    | j + 3 => rw [upd_other _ _ (by omega)]; rfl
  · match j with
    | 0 => rw [upd_other _ _ (by omega)]; rfl
    | 1 => rw [upd_other _ _ (by omega)]; rfl
    | 2 => rw [upd_same]; rfl
    | j + 3 => rw [upd_other _ _ (by omega)]; rfl
theorem range_set (us : Nat → Value) (n i : Nat) (u : Value) : ((List.range n).map us).set i u = (List.range n).map (upd us i u) := by
  apply List.ext_getElem?
  intro j
  rw [List.getElem?_set]
  by_cases hj : j < n
  · by_cases e : i = j
    · subst e; simp [hj, upd]
    · have : ¬ j = i := fun h => e h.symm
      simp [hj, e, upd, this]
  · have h1 : ((List.range n).map (upd us i u))[j]? = none := by simp; omega
    have h2 : ((List.range n).map us)[j]? = none := by simp; omega
    rw [h1, h2]
    split
    · split
      · rename_i p q; simp at q; omega
      · rfl
    · rfl
/-- Another list for a row: the outer list's cell is stored. -/
theorem FamH.putRow (k : FamH w lo hi a b c us h) {i : Nat} (hi0 : i < h.f.length) {u : Value} {zs : List Int} (ho : Own w lo u zs) {hi' : Nat} (hh : hi ≤ hi') (hu : ∀ g, u.ownBlock = some g → (hi ≤ g ∧ g < hi') ∨ (us i).ownBlock = some g) {g cap : Nat} (ha : a = .slice (some ⟨g, 0, none⟩) h.f.length cap) :
    FamH (w.setCell ⟨g, i, none⟩ u) lo hi' a b c (upd us i u) ⟨h.f.set i zs, h.l, h.r⟩ ∧ w.grownBy (w.setCell ⟨g, i, none⟩ u) (some g) := by
  subst ha
  obtain ⟨s1, s2⟩ := k.outer.stored i u
  refine ⟨?_, s2⟩
  have k1 := Fam.put k (k := i + 3) (u := u) (ds := zs.map (Value.int .i64)) (by simp only [tyH, List.length_map]; exact ho) hh hu (by omega)
  have k2 := Fam.set k1 (k := 0) (by omega) (ds := (List.range h.f.length).map (upd us i u)) (w' := w.setCell ⟨g, i, none⟩ u) (by rw [upd_other _ _ (by omega)]; exact s2) (by rw [upd_other _ _ (by omega)]; simp only [tyH, vH, List.length_map, List.length_range]; rw [← range_set]; exact s1)
  unfold FamH
  rw [List.length_set]
  refine k2.congr (fun j hj => ?_) fun j hj => ?_
  · match j with
    | 0 => rw [upd_other _ _ (by omega)]; rfl
    | 1 => rw [upd_other _ _ (by omega)]; rfl
    | 2 => rw [upd_other _ _ (by omega)]; rfl
    | j + 3 =>
      by_cases e : j = i
      · subst e; rw [upd_same]; simp only [vH]; rw [upd_same]
      · rw [upd_other _ _ (by omega)]; simp only [vH]; rw [upd_other _ _ e]
  · match j with
    | 0 => rw [upd_same]; simp [cH]
    | 1 => rw [upd_other _ _ (by omega), upd_other _ _ (by omega)]; rfl
    | 2 => rw [upd_other _ _ (by omega), upd_other _ _ (by omega)]; rfl
    | j + 3 =>
      rw [upd_other _ _ (by omega)]
      by_cases e : j = i
      · subst e; rw [upd_same]; simp only [cH]; rw [getD_setL hi0, if_pos rfl]
      · rw [upd_other _ _ (by omega)]; simp only [cH]; rw [getD_setL hi0, if_neg e]
end
end Go.Proofs.Ytkkigoamphkalaa
namespace Go.Proofs.Ytkkigoamphkalaa
open Go.RowKit Ph

/-- What lies in a row of zeros of which the first j have been filled. -/
def fillB (zs : List Bool) (j : Nat) : List Bool := zs.take j ++ List.replicate (zs.length - j) false
theorem fillB_length (zs : List Bool) {j : Nat} (h : j ≤ zs.length) : (fillB zs j).length = zs.length := by simp [fillB]; omega
theorem fillB_zero (zs : List Bool) : fillB zs 0 = List.replicate zs.length false := by simp [fillB]
theorem fillB_all (zs : List Bool) : fillB zs zs.length = zs := by simp [fillB]
theorem fillB_set (zs : List Bool) {j : Nat} (h : j < zs.length) : (fillB zs j).set j (zs.getD j false) = fillB zs (j + 1) := by
  unfold fillB
  have e : List.replicate (zs.length - j) false = false :: List.replicate (zs.length - (j + 1)) false := by
    rw [show zs.length - j = (zs.length - (j + 1)) + 1 by omega, List.replicate_succ]
  rw [e, List.set_append_right _ _ (by simp; omega), List.length_take, Nat.min_eq_left (by omega), Nat.sub_self, List.set_cons_zero, List.take_succ_eq_append_getElem h]
  have e2 : zs.getD j false = zs[j] := by simp [List.getD, List.getElem?_eq_getElem h]
  rw [e2, List.append_assoc]
  rfl

theorem info_boolz : (Try.prog.info? 4).map (fun i => (i.zero, i.size, i.bytes)) = some (some (.bool false), 1, 1) := by kernel_rfl
theorem info_ints : (Try.prog.info? 24).map (fun i => (i.zero, i.size, i.bytes)) = some (some (.slice none 0 0), 1, 24) := by kernel_rfl
set_option maxHeartbeats 400000 in
theorem c_toBoolS (v : Value) (zs : List Bool) (w : World) (hA : BoolsAt w v zs) (hm : zs.length ≤ 1048576) :
    Calls Try.prog 83 #[v] w fun e w' => ∃ v', e = .returned v' ∧ OwnBs w' w.heap.size v' zs ∧ Below w.heap.size w w' := by
  obtain ⟨i0, hi, hz0, hz1, hz2⟩ := info_parts info_boolz
  obtain ⟨a, ca, rfl, hA⟩ := hA
  generalize hn : zs.length = n at *
  have HN := Lib.hid hn; clear hn
  have HA := Lib.hid hA; clear hA
  go_enter Try.func83, Try.ntmps83
  go_wp2_with (refine wpList_make_full _ rfl _ _ 23 rfl w.heap.size 4 i0 (.bool false) 1 Try.underlying23 hi hz0 hz1 .i64 .i64 _ _ n rfl rfl rfl rfl (by rw [hz2]; omega) (by unfold maxLen; omega) (Nat.le_refl _) ?_; intro w1 hown hgr; rw [Nat.mul_one, show (Value.bool false).cells = #[.bool false] from rfl, toList_madeCells_one] at hown; have hb := (Below.refl w.heap.size w).grown hgr (Nat.le_refl _) (fun k hk => by cases hk); have HO := Lib.hid hown; clear hown hgr)
  go_loopw [4] (fun i wr => ∃ j : Nat, j ≤ n ∧ i = .int .i64 j ∧ OwnBs wr w.heap.size (.slice (some ⟨w.heap.size, 0, none⟩) n n) (fillB zs j) ∧ Below w.heap.size w wr) (fun i _ => n - (intOf i).toNat)
  case atStart =>
    refine ⟨0, Nat.zero_le _, rfl, ?_, hb⟩
    unfold OwnBs
    rw [fillB_length zs (Nat.zero_le _), HN.out, fillB_zero, HN.out, List.map_replicate]
    exact HO.out
  case round =>
    obtain ⟨j, hj, rfl, hown, hbr⟩ := hrel
    by_cases hlt : j < n
    · obtain ⟨b, off, ha, hc⟩ := HA.out (by omega)
      have hq := hc j hlt
      have q : wr.cell? ⟨b, off + j, none⟩ = some (.bool (zs.getD j false)) := (hbr.cell (p := ⟨b, off + j, none⟩) (block_lt_of_cell hq)).trans hq
      clear hq hc
      have hlen := fillB_length zs (j := j) (by rw [HN.out]; exact hj)
      have hown' : wr.ownsRow w.heap.size 4 1 (.slice (some ⟨w.heap.size, 0, none⟩) n n) n ((fillB zs j).map (Value.bool)) := by
        have := hown; unfold OwnBs at this; rwa [hlen, HN.out] at this
      have hfr := hown'.frozenAt j
      obtain ⟨x, hx⟩ : ∃ x, wr.cell? ⟨w.heap.size, j, none⟩ = some x := by
        rw [hown'.cellAt j (by omega), List.getElem?_map, List.getElem?_eq_getElem (by rw [hlen, HN.out]; exact hlt)]
        exact ⟨_, rfl⟩
      obtain ⟨s1, s2⟩ := hown'.stored j (.bool (zs.getD j false))
      have S1 : Hid (OwnBs (wr.setCell ⟨w.heap.size, j, none⟩ (.bool (zs.getD j false))) w.heap.size (.slice (some ⟨w.heap.size, 0, none⟩) n n) (fillB zs (j + 1))) := by
        unfold Hid OwnBs
        rw [fillB_length zs (by rw [HN.out]; omega), HN.out, ← fillB_set zs (by rw [HN.out]; exact hlt), List.map_set]
        exact s1
      have S2 := Lib.hid (hbr.setCell (p := ⟨w.heap.size, j, none⟩) (Nat.le_refl _) (.bool (zs.getD j false)))
      clear s1 s2 hown hown' hlen
      generalize hz : zs.getD j false = z at *
      clear hz
      subst ha
      go_wp2
      go_roundw
      case rel => exact ⟨j + 1, by omega, by go_num, S1.out, S2.out⟩
      case measure => simp [intOf]; omega
    · obtain rfl : j = n := by omega
      go_wp2
      go_ret
      refine ⟨_, rfl, ?_, hbr⟩
      have := hown
      rw [← HN.out, fillB_all, HN.out] at this
      exact this

/-- What lies in a list of empty rows of which the first j have been filled. -/
def fillF (zs : List (List Int)) (j : Nat) : List (List Int) := zs.take j ++ List.replicate (zs.length - j) []
theorem fillF_length (zs : List (List Int)) {j : Nat} (h : j ≤ zs.length) : (fillF zs j).length = zs.length := by simp [fillF]; omega
theorem fillF_zero (zs : List (List Int)) : fillF zs 0 = List.replicate zs.length [] := by simp [fillF]
theorem fillF_all (zs : List (List Int)) : fillF zs zs.length = zs := by simp [fillF]
theorem fillF_set (zs : List (List Int)) {j : Nat} (h : j < zs.length) : (fillF zs j).set j (zs.getD j []) = fillF zs (j + 1) := by
  unfold fillF
  have e : List.replicate (zs.length - j) ([] : List Int) = [] :: List.replicate (zs.length - (j + 1)) [] := by
    rw [show zs.length - j = (zs.length - (j + 1)) + 1 by omega, List.replicate_succ]
  rw [e, List.set_append_right _ _ (by simp; omega), List.length_take, Nat.min_eq_left (by omega), Nat.sub_self, List.set_cons_zero, List.take_succ_eq_append_getElem h]
  have e2 : zs.getD j [] = zs[j] := by simp [List.getD, List.getElem?_eq_getElem h]
  rw [e2, List.append_assoc]
  rfl
theorem getD_rep (n i : Nat) : (List.replicate n ([] : List Int)).getD i [] = [] := by
  by_cases h : i < n
  · simp [List.getD, h]
  · simp [List.getD, h]
theorem FamH.made {w : World} {lo hi g n : Nat} (ho : w.ownsRow lo 24 1 (.slice (some ⟨g, 0, none⟩) n n) n (List.replicate n (.slice none 0 0))) (hg : g < hi) : FamH w lo hi (.slice (some ⟨g, 0, none⟩) n n) (.slice none 0 0) (.slice none 0 0) (fun _ => .slice none 0 0) ⟨List.replicate n [], [], []⟩ := by
  have e0 : (List.range n).map (fun _ : Nat => Value.slice none 0 0) = List.replicate n (.slice none 0 0) := by
    apply List.ext_getElem?
    intro j
    by_cases h : j < n <;> simp [h]
  refine ⟨fun k hk => ?_, fun k hk g' hg' => ?_, fun j k hj hk hjk => ?_⟩
  · match k with
    | 0 => simp only [tyH, vH, cH, List.length_map, List.length_range, List.length_replicate]; rw [e0]; exact ho
    | 1 => exact ⟨rfl, .inl ⟨rfl, rfl⟩⟩
    | 2 => exact ⟨rfl, .inl ⟨rfl, rfl⟩⟩
    | k + 3 => simp only [tyH, vH, cH]; rw [getD_rep]; exact ⟨rfl, .inl ⟨rfl, rfl⟩⟩
  · match k with
    | 0 => simp only [vH, Value.ownBlock, Option.some.injEq] at hg'; omega
    | 1 => cases hg'
    | 2 => cases hg'
    | k + 3 => cases hg'
  · match j, k with
    | 0, 0 => exact absurd rfl hjk
    | 0, 1 => exact .inr (by simp [vH, Value.ownBlock])
    | 0, 2 => exact .inr (by simp [vH, Value.ownBlock])
    | 0, k + 3 => exact .inr (by simp [vH, Value.ownBlock])
    | 1, _ => exact .inl rfl
    | 2, _ => exact .inl rfl
    | j + 3, _ => exact .inl rfl
set_option maxHeartbeats 1600000 in
theorem c_toIntSS (v : Value) (fs : List (List Int)) (w : World) (hA : RowsAt w v fs) (hm : wt fs ≤ 1048576) :
    Calls Try.prog 82 #[v] w fun e w' => ∃ v', e = .returned v' ∧ OwnH w' w.heap.size w'.heap.size v' (.slice none 0 0) (.slice none 0 0) ⟨fs, [], []⟩ ∧ Below w.heap.size w w' := by
  obtain ⟨i0, hi, hz0, hz1, hz2⟩ := info_parts info_ints
  obtain ⟨a, ca, rfl⟩ := hA.shape
  have HM : Hid (∀ j, j < fs.length → (fs.getD j []).length ≤ 1048576) := fun j hj => by
    have h1 := sumL_succ hj
    have h2 := sumL_le fs (j + 1)
    unfold wt at hm
    omega
  have hm' : fs.length ≤ 1048576 := by unfold wt at hm; omega
  clear hm
  generalize hn : fs.length = n at *
  have HN := Lib.hid hn; clear hn
  have HA := Lib.hid hA; clear hA
  go_enter Try.func82, Try.ntmps82
  go_wp2_with (refine wpList_make_full _ rfl _ _ 22 rfl w.heap.size 24 i0 (.slice none 0 0) 1 Try.underlying22 hi hz0 hz1 .i64 .i64 _ _ n rfl rfl rfl rfl (by rw [hz2]; omega) (by unfold maxLen; omega) (Nat.le_refl _) ?_; intro w1 hown hgr; rw [Nat.mul_one, show (Value.slice none 0 0).cells = #[.slice none 0 0] from rfl, toList_madeCells_one] at hown; have hb := (Below.refl w.heap.size w).grown hgr (Nat.le_refl _) (fun k hk => by cases hk); have HO := Lib.hid hown; clear hown hgr)
  go_loopw [4] (fun i wr => ∃ j : Nat, j ≤ n ∧ i = .int .i64 j ∧ (∃ us, FamH wr w.heap.size wr.heap.size (.slice (some ⟨w.heap.size, 0, none⟩) n n) (.slice none 0 0) (.slice none 0 0) us ⟨fillF fs j, [], []⟩) ∧ Below w.heap.size w wr) (fun i _ => n - (intOf i).toNat)
  case atStart =>
    refine ⟨0, Nat.zero_le _, rfl, ⟨fun _ => .slice none 0 0, ?_⟩, hb⟩
    rw [fillF_zero, HN.out]
    exact FamH.made HO.out (owns_lt HO.out rfl).2
  case round =>
    obtain ⟨j, hj, rfl, ⟨us, hfam⟩, hbr⟩ := hrel
    by_cases hlt : j < n
    · obtain ⟨b, off, ha, hc⟩ := HA.out.at' (by omega)
      obtain ⟨u, hq, hu⟩ := hc j hlt
      have q := cellBelow hbr (Nat.le_refl _) hq
      have hu' := Lib.hid (hu.below hbr)
      have hlu := Lib.hid (HM.out j hlt)
      have hjl : j < fs.length := by rw [HN.out]; exact hlt
      have hfl : (fillF fs j).length = n := by rw [fillF_length fs (by omega), HN.out]
      have hfs := Lib.hid (fillF_set fs hjl)
      have HF := Lib.hid hfam; have HBR := Lib.hid hbr; have HFL := Lib.hid hfl
      clear hc hq hu hfam hbr hjl hfl
      generalize fs.getD j [] = zs at *
      subst ha
      go_wp2_with fail
      refine (c_toIntS u zs _ hu'.out hlu.out).mono ?_
      rintro e w2 ⟨u2, rfl, ho2, hb2⟩
      have F2 := Fam.below HF.out hb2
      have F2' : FamH w2 w.heap.size wr.heap.size (.slice (some ⟨w.heap.size, 0, none⟩) n n) (.slice none 0 0) (.slice none 0 0) us ⟨fillF fs j, [], []⟩ := F2
      have hsz : w.heap.size ≤ wr.heap.size := HBR.out.size
      obtain ⟨c1, f1⟩ := F2'.cell (g := w.heap.size) (cap := n) (i := j) (by simp only [HFL.out]) (by simp only [HFL.out]; exact hlt)
      obtain ⟨s1, s2⟩ := F2'.putRow (i := j) (by simp only [HFL.out]; exact hlt) (ho2.mono hsz) (hi' := w2.heap.size) hb2.size (fun g hg => .inl (owns_lt ho2 hg)) (g := w.heap.size) (cap := n) (by simp only [HFL.out])
      simp only [hfs.out] at s1
      have hszs : (w2.setCell ⟨w.heap.size, j, none⟩ u2).heap.size = w2.heap.size := World.size_setCell _ _ _
      rw [← hszs] at s1
      have S1 := Lib.hid s1
      have S2 := Lib.hid ((bst HBR.out hb2 HBR.out.size).setCell (p := ⟨w.heap.size, j, none⟩) (Nat.le_refl _) u2)
      obtain ⟨ua, uc, rfl⟩ := ho2.ints.shape
      clear s1 s2 F2 F2' ho2 hb2 hszs q
      generalize us j = x at *
      generalize zs.length = m at *
      go_wp2
      go_roundw
      case rel => exact ⟨j + 1, by omega, by go_num, ⟨_, S1.out⟩, S2.out⟩
      case measure => simp [intOf]; omega
    · obtain rfl : j = n := by omega
      go_wp2
      go_ret
      refine ⟨_, rfl, ⟨us, ?_⟩, hbr⟩
      have := hfam
      rw [← HN.out, fillF_all, HN.out] at this
      exact this
end Go.Proofs.Ytkkigoamphkalaa
namespace Go.Proofs.Ytkkigoamphkalaa
open Go.RowKit Ph

/-- How much a heap weighs. -/
def wtH (h : H) : Nat := wt h.f + h.l.length + h.r.length
structure FitH (h : H) : Prop where
  rows : Fit h.f
  f : h.f.length ≤ 9223372036854775807
  l : h.l.length ≤ 9223372036854775807
  r : h.r.length ≤ 9223372036854775807
set_option maxHeartbeats 1600000 in
theorem c_szHeap_yes (a b c : Value) (h : H) (left : Int) (w : World) (hA : HeapAt w a b c h) (h1 : left ≤ 1048576) (hw : (wtH h : Int) ≤ left) : Calls Try.prog 14 #[hv a b c, .int .i64 left] w fun e w' => e = .returned (.int .i64 (left - wtH h)) ∧ Below w.heap.size w w' := by
  have HB := Lib.hid (below1 w (.cells (c3 a b c) 26))
  have HF := Lib.hid (hA.f.below HB.out)
  obtain ⟨la, lc, rfl⟩ := hA.l.shape
  obtain ⟨ra, rc, rfl⟩ := hA.r.shape
  have e : (wtH h : Int) = (wt h.f : Int) + (h.l.length : Int) + (h.r.length : Int) := by unfold wtH; omega
  rw [e] at hw ⊢
  clear hA e
  generalize hnl : h.l.length = nl at *
  generalize hnr : h.r.length = nr at *
  clear hnl hnr
  generalize hx : wt h.f = x at *
  have HX := Lib.hid hx; clear hx
  have i1 : ¬ left - (x : Int) < 0 := by omega
  have i2 : ¬ left - (x : Int) - (nl : Int) < 0 := by omega
  have i3 : ¬ left - (x : Int) - (nl : Int) - (nr : Int) < 0 := by omega
  have J1 : Hid ((wt h.f : Int) ≤ left) := by unfold Hid; rw [HX.out]; omega
  have J2 : Hid (left - (x : Int) ≤ 1048576 ∧ (nl : Int) ≤ left - (x : Int)) := ⟨by omega, by omega⟩
  have J3 : Hid (left - (x : Int) - (nl : Int) ≤ 1048576 ∧ (nr : Int) ≤ left - (x : Int) - (nl : Int)) := ⟨by omega, by omega⟩
  go_enter Try.func14, Try.ntmps14
  go_wp2_with (first
    | (go_at_call 77; refine (c_szIntSS_yes _ h.f left _ HF.out h1 J1.out).mono ?_; rintro e w1 ⟨rfl, rfl⟩; rw [HX.out])
    | (go_at_call 78; refine (c_szBoolS_yes la nl lc (left - x) _ J2.out.1 J2.out.2).mono ?_; rintro e w1 ⟨rfl, rfl⟩)
    | (go_at_call 79; refine (c_szIntS_yes ra nr rc (left - x - nl) _ J3.out.1 J3.out.2).mono ?_; rintro e w1 ⟨rfl, rfl⟩))
  go_ret
  exact ⟨r_i (by omega), HB.out⟩
set_option maxHeartbeats 1600000 in
theorem c_szHeap_no (a b c : Value) (h : H) (left : Int) (w : World) (hA : HeapAt w a b c h) (hf : FitH h) (h0 : 0 ≤ left) (h1 : left ≤ 1048576) (hw : left < (wtH h : Int)) : Calls Try.prog 14 #[hv a b c, .int .i64 left] w fun e w' => e = .returned (.int .i64 (-1)) ∧ Below w.heap.size w w' := by
  have HB := Lib.hid (below1 w (.cells (c3 a b c) 26))
  have HF := Lib.hid (hA.f.below HB.out)
  obtain ⟨la, lc, rfl⟩ := hA.l.shape
  obtain ⟨ra, rc, rfl⟩ := hA.r.shape
  have e : (wtH h : Int) = (wt h.f : Int) + (h.l.length : Int) + (h.r.length : Int) := by unfold wtH; omega
  rw [e] at hw
  obtain ⟨f1, f2, f3, f4⟩ := hf
  have F1 := Lib.hid f1; have F2 := Lib.hid f2
  clear hA e f1 f2
  generalize hnl : h.l.length = nl at *
  generalize hnr : h.r.length = nr at *
  clear hnl hnr
  have F3 := Lib.hid f3; have F4 := Lib.hid f4
  clear f3 f4
  generalize hx : wt h.f = x at *
  have HX := Lib.hid hx; clear hx
  by_cases i1 : left < (x : Int)
  · have J1 : Hid (left < (wt h.f : Int)) := by unfold Hid; rw [HX.out]; exact i1
    clear i1
    go_enter Try.func14, Try.ntmps14
    go_wp2_with (go_at_call 77; refine (c_szIntSS_no _ h.f left _ HF.out F1.out F2.out h0 h1 J1.out).mono ?_; rintro e w1 ⟨rfl, rfl⟩)
    go_ret
    exact ⟨rfl, HB.out⟩
  · have J1 : Hid ((wt h.f : Int) ≤ left) := by unfold Hid; rw [HX.out]; omega
    have k1 : ¬ left - (x : Int) < 0 := by omega
    by_cases i2 : left - (x : Int) < (nl : Int)
    · have J2 : Hid (0 ≤ left - (x : Int) ∧ left - (x : Int) ≤ 1048576 ∧ left - (x : Int) < (nl : Int)) := ⟨by omega, by omega, i2⟩
      clear i2
      go_enter Try.func14, Try.ntmps14
      go_wp2_with (first
        | (go_at_call 77; refine (c_szIntSS_yes _ h.f left _ HF.out h1 J1.out).mono ?_; rintro e w1 ⟨rfl, rfl⟩; rw [HX.out])
        | (go_at_call 78; refine (c_szBoolS_no la nl lc (left - x) _ J2.out.1 J2.out.2.1 F3.out J2.out.2.2).mono ?_; rintro e w1 ⟨rfl, rfl⟩))
      go_ret
      exact ⟨rfl, HB.out⟩
    · have J2 : Hid (left - (x : Int) ≤ 1048576 ∧ (nl : Int) ≤ left - (x : Int)) := ⟨by omega, by omega⟩
      have J3 : Hid (0 ≤ left - (x : Int) - (nl : Int) ∧ left - (x : Int) - (nl : Int) ≤ 1048576 ∧ left - (x : Int) - (nl : Int) < (nr : Int)) := ⟨by omega, by omega, by omega⟩
      have k2 : ¬ left - (x : Int) - (nl : Int) < 0 := by omega
      go_enter Try.func14, Try.ntmps14
      go_wp2_with (first
        | (go_at_call 77; refine (c_szIntSS_yes _ h.f left _ HF.out h1 J1.out).mono ?_; rintro e w1 ⟨rfl, rfl⟩; rw [HX.out])
        | (go_at_call 78; refine (c_szBoolS_yes la nl lc (left - x) _ J2.out.1 J2.out.2).mono ?_; rintro e w1 ⟨rfl, rfl⟩)
        | (go_at_call 79; refine (c_szIntS_no ra nr rc (left - x - nl) _ J3.out.1 J3.out.2.1 F4.out J3.out.2.2).mono ?_; rintro e w1 ⟨rfl, rfl⟩))
      go_ret
      exact ⟨rfl, HB.out⟩
set_option maxHeartbeats 800000 in
theorem c_eqBoolS (va vb : Value) (zs : List Bool) (w : World) (hA : BoolsAt w va zs) (hB : BoolsAt w vb zs) (hm : zs.length ≤ 9223372036854775806) :
    Calls Try.prog 18 #[va, vb] w fun e w' => e = .returned (.bool true) ∧ ∃ n, w' = w.drewN n := by
  obtain ⟨a, ca, rfl, hA⟩ := hA
  obtain ⟨b, cb, rfl, hB⟩ := hB
  generalize hn : zs.length = n at *
  clear hn
  have hbq : ((n : Int) != (n : Int)) = false := by simp
  have HCA := Lib.hid hA; have HCB := Lib.hid hB; clear hA hB
  go_enter Try.func18, Try.ntmps18
  go_wp2
  go_loopw [5] (fun i wr => ∃ k : Nat, k ≤ n ∧ i = .int .i64 k ∧ ∃ n, wr = w.drewN n) (fun i _ => n - (intOf i).toNat)
  case atStart => exact ⟨0, Nat.zero_le _, rfl, drewN_refl _⟩
  case round =>
    obtain ⟨k, hk, rfl, nd, rfl⟩ := hrel
    by_cases hlt : k < n
    · obtain ⟨ba, oa, rfl, hca⟩ := HCA.out (by omega)
      obtain ⟨bb, ob, rfl, hcb⟩ := HCB.out (by omega)
      have q1 := hca k hlt
      have q2 := hcb k hlt
      have i1 : (k : Int) < (n : Int) := by omega
      clear hca hcb
      generalize zs.getD k false = x at *
      have hxx : (x != x) = false := by simp
      go_wp2
      go_quiet (fail)
      go_wp2
      go_roundw
      case rel => exact ⟨k + 1, by omega, by go_num, nd + nq, by simp⟩
      case measure => simp [intOf]; omega
    · go_wp2
      go_ret
      exact ⟨rfl, _, rfl⟩
set_option maxHeartbeats 800000 in
theorem c_eqIntSS (va vb : Value) (fs : List (List Int)) (w : World) (hA : RowsAt w va fs) (hB : RowsAt w vb fs) (hm : wt fs ≤ 1048576) :
    Calls Try.prog 85 #[va, vb] w fun e w' => e = .returned (.bool true) ∧ ∃ n, w' = w.drewN n := by
  have HM : Hid (∀ j, j < fs.length → (fs.getD j []).length ≤ 9223372036854775806) := fun j hj => by
    have h1 := sumL_succ hj
    have h2 := sumL_le fs (j + 1)
    unfold wt at hm
    omega
  have hm' : fs.length ≤ 1048576 := by unfold wt at hm; omega
  obtain ⟨a, ca, rfl, hA⟩ := hA
  obtain ⟨b, cb, rfl, hB⟩ := hB
  clear hm
  generalize hn : fs.length = n at *
  clear hn
  have hbq : ((n : Int) != (n : Int)) = false := by simp
  have HCA := Lib.hid hA; have HCB := Lib.hid hB; clear hA hB
  go_enter Try.func85, Try.ntmps85
  go_wp2
  go_loopw [5] (fun i wr => ∃ k : Nat, k ≤ n ∧ i = .int .i64 k ∧ ∃ n, wr = w.drewN n) (fun i _ => n - (intOf i).toNat)
  case atStart => exact ⟨0, Nat.zero_le _, rfl, drewN_refl _⟩
  case round =>
    obtain ⟨k, hk, rfl, nd, rfl⟩ := hrel
    by_cases hlt : k < n
    · obtain ⟨ba, oa, rfl, hca⟩ := HCA.out (by omega)
      obtain ⟨bb, ob, rfl, hcb⟩ := HCB.out (by omega)
      obtain ⟨u1, q1, hu1⟩ := hca k hlt
      obtain ⟨u2, q2, hu2⟩ := hcb k hlt
      have hml := Lib.hid (HM.out k hlt)
      have i1 : (k : Int) < (n : Int) := by omega
      have U1 := Lib.hid hu1; have U2 := Lib.hid hu2
      obtain ⟨a1, x1, rfl⟩ := hu1.shape
      obtain ⟨a2, x2, rfl⟩ := hu2.shape
      clear hca hcb hu1 hu2
      have HC : Hid (∀ m, Calls Try.prog 26 #[.slice a1 (fs.getD k []).length x1, .slice a2 (fs.getD k []).length x2] ((w.drewN nd).drewN m) fun e w' => e = .returned (.bool true) ∧ ∃ n, w' = ((w.drewN nd).drewN m).drewN n) := fun m =>
        (c_eqIntS _ _ (fs.getD k []) (fs.getD k []) ((w.drewN nd).drewN m) ((U1.out.drewN nd).drewN m) ((U2.out.drewN nd).drewN m) hml.out).mono fun _ _ ⟨he, hw⟩ => ⟨he.trans (r_b (decide_eq_true rfl)), hw⟩
      clear U1 U2 hml
      generalize (fs.getD k []).length = m at *
      replace q1 : (w.drewN nd).cell? ⟨ba, oa + k, none⟩ = some (.slice a1 m x1) := q1
      replace q2 : (w.drewN nd).cell? ⟨bb, ob + k, none⟩ = some (.slice a2 m x2) := q2
      generalize hwd : w.drewN nd = wd at *
      have HWD := Lib.hid hwd; clear hwd
      go_wp2
      go_quiet ((go_at_call 26; exact Calls.quiet_of (HC.out _)))
      go_wp2
      go_roundw
      case rel => exact ⟨k + 1, by omega, by go_num, nd + nq, by rw [← HWD.out]; simp⟩
      case measure => simp [intOf]; omega
    · go_wp2
      go_ret
      exact ⟨rfl, _, rfl⟩
set_option maxHeartbeats 800000 in
theorem c_eqHeap (a b c a' b' c' : Value) (h : H) (w : World) (hA : HeapAt w a b c h) (hB : HeapAt w a' b' c' h) (hm : wtH h ≤ 1048576) : Calls Try.prog 19 #[hv a b c, hv a' b' c'] w fun e w' => e = .returned (.bool true) ∧ Below w.heap.size w w' := by
  have HB := Lib.hid ((below1 w (.cells (c3 a b c) 30)).alloc (by simp) (.cells (c3 a' b' c') 30))
  have h1 := hA.below HB.out
  have h2 := hB.below HB.out
  have hm1 : wt h.f ≤ 1048576 ∧ h.l.length ≤ 9223372036854775806 ∧ h.r.length ≤ 9223372036854775806 := by unfold wtH at hm; omega
  have HM := Lib.hid hm1
  generalize hw0 : (w.alloc (.cells (c3 a b c) 30)).alloc (.cells (c3 a' b' c') 30) = w0 at h1 h2
  have C1 : Hid (∀ n, Calls Try.prog 85 #[a, a'] (w0.drewN n) fun e w' => e = .returned (.bool true) ∧ ∃ n, w' = w0.drewN n) := fun n => Calls.quiet_of (c_eqIntSS a a' h.f (w0.drewN n) h1.f h2.f HM.out.1)
  have C2 : Hid (∀ n, Calls Try.prog 18 #[b, b'] (w0.drewN n) fun e w' => e = .returned (.bool true) ∧ ∃ n, w' = w0.drewN n) := fun n => Calls.quiet_of (c_eqBoolS b b' h.l (w0.drewN n) h1.l h2.l HM.out.2.1)
  have C3 : Hid (∀ n, Calls Try.prog 26 #[c, c'] (w0.drewN n) fun e w' => e = .returned (.bool true) ∧ ∃ n, w' = w0.drewN n) := fun n => Calls.quiet_of ((c_eqIntS c c' h.r h.r (w0.drewN n) h1.r h2.r HM.out.2.2).mono fun _ _ ⟨he, hw⟩ => ⟨he.trans (r_b (decide_eq_true rfl)), hw⟩)
  have q1 : w0.cell? ⟨w.heap.size, 0, none⟩ = some a ∧ w0.cell? ⟨w.heap.size, 1, none⟩ = some b ∧ w0.cell? ⟨w.heap.size, 2, none⟩ = some c := by
    have R : RowH w0 w.heap.size a b c := by rw [← hw0]; exact Row.alloc (Row.new w 30 (c3 a b c)) _
    exact ⟨R.c0, R.c1, R.c2⟩
  have q2 : w0.cell? ⟨w.heap.size + 1, 0, none⟩ = some a' ∧ w0.cell? ⟨w.heap.size + 1, 1, none⟩ = some b' ∧ w0.cell? ⟨w.heap.size + 1, 2, none⟩ = some c' := by
    have R : RowH w0 (w.heap.size + 1) a' b' c' := by rw [← hw0]; exact Row.new1 w _ 30 (c3 a' b' c')
    exact ⟨R.c0, R.c1, R.c2⟩
  obtain ⟨p1, p2, p3⟩ := q1
  obtain ⟨p4, p5, p6⟩ := q2
  clear hA hB h1 h2 hm1
  rw [hw0] at HB
  have HW := Lib.hid hw0
  clear hw0
  go_enter Try.func19, Try.ntmps19
  go_wp2_with (first
    | (go_at_call 85; rw [HW.out]; refine (C1.out 0).mono ?_; rintro e w1 ⟨rfl, n1, rfl⟩)
    | (go_at_call 18; refine (C2.out _).mono ?_; rintro e w1 ⟨rfl, n2, rfl⟩)
    | (go_at_call 26; refine (C3.out _).mono ?_; rintro e w1 ⟨rfl, n3, rfl⟩))
  go_ret
  exact ⟨rfl, below_drewN HB.out _⟩
end Go.Proofs.Ytkkigoamphkalaa
namespace Go.Proofs.Ytkkigoamphkalaa
open Go.RowKit Ph

theorem OwnH.out {w w' : World} {lo hi : Nat} {a b c : Value} {h : H} (k : OwnH w lo hi a b c h) (hb : ∀ i, lo ≤ i → w'.heap[i]? = w.heap[i]?) : OwnH w' lo hi a b c h := by
  obtain ⟨us, k⟩ := k
  exact ⟨us, Fam.keep k fun g h1 _ _ => hb g h1⟩
theorem OwnH.cell {w : World} {lo hi : Nat} {a b c : Value} {h : H} (k : OwnH w lo hi a b c h) (p : Addr) (hp : p.block < lo) (x : Value) : OwnH (w.setCell p x) lo hi a b c h := k.out fun i hi => heap_setCell_other w p i _ (by omega)
theorem OwnH.whole {w : World} {lo hi : Nat} {a b c : Value} {h : H} (k : OwnH w lo hi a b c h) (g : Nat) (hp : g < lo) (cs : Array Value) : OwnH (w.setRow g cs) lo hi a b c h := k.out fun i hi => setRow_other w g i cs (by omega)
theorem OwnH.addLive {w : World} {lo hi : Nat} {a b c : Value} {h : H} (k : OwnH w lo hi a b c h) {b' : Value} {bs : List Bool} (ho : OwnBs w hi b' bs) (hl : lo ≤ hi) (hs : hi ≤ w.heap.size) : OwnH w lo w.heap.size a b' c ⟨h.f, bs, h.r⟩ := by
  obtain ⟨us, k⟩ := k
  exact ⟨us, k.putLive (owns_mono ho fun g hg => Nat.le_trans hl (owns_lt ho hg).1) hs fun g hg => .inl (owns_lt ho hg)⟩
theorem OwnH.addRoots {w : World} {lo hi : Nat} {a b c : Value} {h : H} (k : OwnH w lo hi a b c h) {c' : Value} {zs : List Int} (ho : Own w hi c' zs) (hl : lo ≤ hi) (hs : hi ≤ w.heap.size) : OwnH w lo w.heap.size a b c' ⟨h.f, h.l, zs⟩ := by
  obtain ⟨us, k⟩ := k
  exact ⟨us, k.putRoots (owns_mono ho fun g hg => Nat.le_trans hl (owns_lt ho hg).1) hs fun g hg => .inl (owns_lt ho hg)⟩
theorem OwnH.shapes {w : World} {lo hi : Nat} {a b c : Value} {h : H} (k : OwnH w lo hi a b c h) : (∃ p q, a = .slice p h.f.length q) ∧ (∃ p q, b = .slice p h.l.length q) ∧ (∃ p q, c = .slice p h.r.length q) := ⟨k.reads.f.shape, k.reads.l.shape, k.reads.r.shape⟩
theorem RowH.set0 {w : World} {g : Nat} {a b c : Value} (k : RowH w g a b c) (x : Value) : RowH (w.setCell ⟨g, 0, none⟩ x) g x b c := (Row.set k 0 x).trans rfl
theorem RowH.set1 {w : World} {g : Nat} {a b c : Value} (k : RowH w g a b c) (x : Value) : RowH (w.setCell ⟨g, 1, none⟩ x) g a x c := (Row.set k 1 x).trans rfl
theorem RowH.set2 {w : World} {g : Nat} {a b c : Value} (k : RowH w g a b c) (x : Value) : RowH (w.setCell ⟨g, 2, none⟩ x) g a b x := (Row.set k 2 x).trans rfl
theorem wl_storeH {ops : Array Oper} {rest : List Oper} {o : Oper} {q : Act} {w : World} {Q : Exit → Act → World → Prop} (hgd : o.guard = none) (x y : Operand) (ho : o.op = .store 30 x y) (g : Nat) (a b c a0 b0 c0 : Value) (hg : RowH w g a0 b0 c0)
    (hx : q.eval x = .pointer (some ⟨g, 0, none⟩)) (hy : q.eval y = hv a b c) (h1 : a.oneCell' = true) (h2 : b.oneCell' = true) (h3 : c.oneCell' = true) (h : wpList Try.prog ops Q rest (q.put o.dst undef) (w.setRow g (c3 a b c))) : wpList Try.prog ops Q (o :: rest) q w :=
  wpList_store_row hgd 30 x y ho g (c3 a b c) hx hy 30 (c3 a0 b0 c0) hg info_heap rfl (by simp [Value.oneCell']; exact ⟨h1, h2, h3⟩) h
set_option maxHeartbeats 1600000 in
theorem c_toHeap (a b c : Value) (h : H) (w : World) (hA : HeapAt w a b c h) (hm : wtH h ≤ 1048576) : Calls Try.prog 16 #[hv a b c] w fun e w' => ∃ a' b' c', e = .returned (hv a' b' c') ∧ OwnH w' w.heap.size w'.heap.size a' b' c' h ∧ Below w.heap.size w w' := by
  have hm1 : wt h.f ≤ 1048576 ∧ h.l.length ≤ 1048576 ∧ h.r.length ≤ 1048576 := by unfold wtH at hm; omega
  have HM := Lib.hid hm1
  clear hm hm1
  have hb0 := (((below1 w (.cells (c3 a b c) 26)).alloc (by simp) (.cells (c3 (.slice none 0 0) (.slice none 0 0) (.slice none 0 0)) 30)).alloc (by simp; omega) (.cells (c3 (.slice none 0 0) (.slice none 0 0) (.slice none 0 0)) 30))
  have hA0 := hA.below hb0
  have rp : Row _ w.heap.size 26 (c3 a b c) := ((Row.new w 26 (c3 a b c)).alloc (.cells (c3 (.slice none 0 0) (.slice none 0 0) (.slice none 0 0)) 30)).alloc (.cells (c3 (.slice none 0 0) (.slice none 0 0) (.slice none 0 0)) 30)
  have r1 : RowH _ (w.heap.size + 1) (.slice none 0 0) (.slice none 0 0) (.slice none 0 0) := (Row.new1 w (.cells (c3 a b c) 26) 30 (c3 (.slice none 0 0) (.slice none 0 0) (.slice none 0 0))).alloc (.cells (c3 (.slice none 0 0) (.slice none 0 0) (.slice none 0 0)) 30)
  have r2 : RowH _ (w.heap.size + 1 + 1) (.slice none 0 0) (.slice none 0 0) (.slice none 0 0) := Row.new2 w (.cells (c3 a b c) 26) (.cells (c3 (.slice none 0 0) (.slice none 0 0) (.slice none 0 0)) 30) 30 (c3 (.slice none 0 0) (.slice none 0 0) (.slice none 0 0))
  have HB := Lib.hid hb0; have HA := Lib.hid hA0; have RP := Lib.hid rp; have R1 := Lib.hid r1; have R2 := Lib.hid r2
  have HAW := Lib.hid hA
  clear hb0 hA0 rp r1 r2 hA
  go_enter Try.func16, Try.ntmps16
  go_wp2_with fail
  refine (c_toIntSS a h.f _ HA.out.f HM.out.1).mono ?_
  rintro e w1 ⟨v1, rfl, ho1, hb1⟩
  have rp1 := RP.out.below hb1
  have r11 := R1.out.below hb1
  have r21 := R2.out.below hb1
  have hB1 := bst HB.out hb1 HB.out.size
  have hsz : ((((w.alloc (.cells (c3 a b c) 26)).alloc (.cells (c3 (.slice none 0 0) (.slice none 0 0) (.slice none 0 0)) 30)).alloc (.cells (c3 (.slice none 0 0) (.slice none 0 0) (.slice none 0 0)) 30))).heap.size = w.heap.size + 3 := by simp
  rw [hsz] at ho1
  have hw1 : w.heap.size + 3 ≤ w1.heap.size := by have := hb1.size; rw [hsz] at this; exact this
  clear hb1 hsz HB HA RP R1 R2
  have o2 := ho1.cell ⟨w.heap.size + 1 + 1, 0, none⟩ (by simp) v1
  have rp2 := rp1.other ⟨w.heap.size + 1 + 1, 0, none⟩ (by simp; omega) v1
  have r12 : RowH _ _ _ _ _ := Row.other r11 ⟨w.heap.size + 1 + 1, 0, none⟩ (by simp) v1
  have r22 := r21.set0 v1
  have B2 := hB1.setCell (p := ⟨w.heap.size + 1 + 1, 0, none⟩) (by simp; omega) v1
  have f1 := Row.frozen r21 0
  have k1 := r21.c0
  have s2 : (w1.setCell ⟨w.heap.size + 1 + 1, 0, none⟩ v1).heap.size = w1.heap.size := World.size_setCell _ _ _
  rw [← s2] at hw1 o2
  have A2 := Lib.hid (HAW.out.l.below B2)
  obtain ⟨p1, q1, hv1⟩ := ho1.shapes.1
  have kb := Row.cell rp2 1
  clear ho1 rp1 r11 r21 hB1 s2
  generalize h.f.length = nf at hv1
  subst hv1
  have RP := Lib.hid rp2; have R1 := Lib.hid r12; have R2 := Lib.hid r22; have HB := Lib.hid B2; have HO := Lib.hid o2; have HW := Lib.hid hw1
  clear rp2 r12 r22 B2 o2 hw1
  go_wp2_with fail
  clear kb k1 f1
  generalize (w1.setCell ⟨w.heap.size + 1 + 1, 0, none⟩ (.slice p1 nf q1)) = w2 at *
  refine (c_toBoolS b h.l _ A2.out HM.out.2.1).mono ?_
  rintro e w3 ⟨v2, rfl, ho3, hb3⟩
  have rp3 := RP.out.below hb3
  have r13 := R1.out.below hb3
  have r23 := R2.out.below hb3
  have hB3 := bst HB.out hb3 HB.out.size
  have o3 := (HO.out.below hb3).addLive ho3 (by have := HW.out; omega) hb3.size
  have hw3 : w.heap.size + 3 ≤ w3.heap.size := by have := HW.out; have := hb3.size; omega
  clear hb3 HB RP R1 R2 HO HW
  have o4 := o3.cell ⟨w.heap.size + 1 + 1, 1, none⟩ (by simp) v2
  have rp4 := rp3.other ⟨w.heap.size + 1 + 1, 1, none⟩ (by simp; omega) v2
  have r14 : RowH _ _ _ _ _ := Row.other r13 ⟨w.heap.size + 1 + 1, 1, none⟩ (by simp) v2
  have r24 := r23.set1 v2
  have B4 := hB3.setCell (p := ⟨w.heap.size + 1 + 1, 1, none⟩) (by simp; omega) v2
  have f1 := Row.frozen r23 1
  have k1 := r23.c1
  have s4 : (w3.setCell ⟨w.heap.size + 1 + 1, 1, none⟩ v2).heap.size = w3.heap.size := World.size_setCell _ _ _
  rw [← s4] at hw3 o4
  have A4 := Lib.hid (HAW.out.r.below B4)
  obtain ⟨p2, q2, hv2⟩ := o3.shapes.2.1
  have kb := Row.cell rp4 2
  clear ho3 o3 rp3 r13 r23 hB3 s4
  simp only [] at hv2
  generalize h.l.length = nl at hv2
  subst hv2
  have RP := Lib.hid rp4; have R1 := Lib.hid r14; have R2 := Lib.hid r24; have HB := Lib.hid B4; have HO := Lib.hid o4; have HW := Lib.hid hw3
  clear rp4 r14 r24 B4 o4 hw3
  go_wp2_with fail
  clear kb k1 f1
  generalize (w3.setCell ⟨w.heap.size + 1 + 1, 1, none⟩ (.slice p2 nl q2)) = w4 at *
  refine (c_toIntS c h.r _ A4.out HM.out.2.2).mono ?_
  rintro e w5 ⟨v3, rfl, ho5, hb5⟩
  have r15 := R1.out.below hb5
  have r25 := R2.out.below hb5
  have hB5 := bst HB.out hb5 HB.out.size
  have o5 := (HO.out.below hb5).addRoots ho5 (by have := HW.out; omega) hb5.size
  have hw5 : w.heap.size + 3 ≤ w5.heap.size := by have := HW.out; have := hb5.size; omega
  clear hb5 HB RP R1 R2 HO HW
  have o6 := o5.cell ⟨w.heap.size + 1 + 1, 2, none⟩ (by simp) v3
  have r16 : RowH _ _ _ _ _ := Row.other r15 ⟨w.heap.size + 1 + 1, 2, none⟩ (by simp) v3
  have r26 := r25.set2 v3
  have B6 := hB5.setCell (p := ⟨w.heap.size + 1 + 1, 2, none⟩) (by simp; omega) v3
  have f1 := Row.frozen r25 2
  have k1 := r25.c2
  have s6 : (w5.setCell ⟨w.heap.size + 1 + 1, 2, none⟩ v3).heap.size = w5.heap.size := World.size_setCell _ _ _
  rw [← s6] at hw5 o6
  obtain ⟨p3, q3, hv3⟩ := o5.shapes.2.2
  clear ho5 o5 r15 r25 hB5 s6
  simp only [] at hv3
  generalize h.r.length = nr at hv3
  subst hv3
  have R1 := Lib.hid r16; have R2 := Lib.hid r26; have HB := Lib.hid B6; have HO := Lib.hid o6; have HW := Lib.hid hw5
  clear r16 r26 B6 o6 hw5
  go_wp2_with (first
    | (refine wl_loadH rfl _ rfl (w.heap.size + 1 + 1) _ _ _ R2.out rfl ?_)
    | (refine wl_storeH rfl _ _ rfl (w.heap.size + 1) (.slice p1 nf q1) (.slice p2 nl q2) (.slice p3 nr q3) _ _ _ R1.out rfl rfl rfl rfl rfl ?_))
  refine bodyPost_ret (res_row Try.results16 (Row.put R1.out (c3 (.slice p1 nf q1) (.slice p2 nl q2) (.slice p3 nr q3))) rfl Try.underlying30 rfl info_heap) rfl ⟨_, _, _, rfl, ?_, below_setRow HB.out (by omega) _⟩
  have := HO.out.whole (w.heap.size + 1) (by omega) (c3 (.slice p1 nf q1) (.slice p2 nl q2) (.slice p3 nr q3))
  rw [size_setRow]
  exact this.wide (by omega) (Nat.le_refl _)
end Go.Proofs.Ytkkigoamphkalaa
namespace Go.Proofs.Ytkkigoamphkalaa
open Go.RowKit Ph

theorem Row.chg {w w' : World} {lo hi g : Nat} {T : TypeId} {cs : Array Value} (h : Row w g T cs) (hc : Chg lo hi w w') (hd : g < lo ∨ hi ≤ g) : Row w' g T cs := (hc.block g h.lt hd).trans h
theorem below_chg {B lo hi : Nat} {w w1 w2 : World} (h : Below B w w1) (k : Chg lo hi w1 w2) (hB : B ≤ lo) (hs : B ≤ w1.heap.size) : Below B w w2 :=
  ⟨k.os.trans h.os, k.tape.trans h.tape, k.output.trans h.output, Nat.le_trans h.size k.size, fun i hi => (k.block i (by omega) (.inl (by omega))).trans (h.block i hi)⟩
/-- What a mark is. -/
def mk3 (z : Int) : Bool := z % 3 == 0
def upB (k : Int) (n : Nat) : List Bool := (List.range n).map (fun i : Nat => mk3 (k + (i : Int)))
theorem upB_length (k : Int) (n : Nat) : (upB k n).length = n := by simp [upB]
def markB (k : Int) (zs : List Bool) (j : Nat) : List Bool := upB k j ++ zs.drop j
theorem markB_length (k : Int) (zs : List Bool) {j : Nat} (h : j ≤ zs.length) : (markB k zs j).length = zs.length := by simp [markB, upB_length]; omega
theorem markB_zero (k : Int) (zs : List Bool) : markB k zs 0 = zs := by simp [markB, upB]
theorem markB_all (k : Int) (zs : List Bool) : markB k zs zs.length = upB k zs.length := by simp [markB]
theorem markB_set (k : Int) (zs : List Bool) {j : Nat} (h : j < zs.length) : (markB k zs j).set j (mk3 (k + j)) = markB k zs (j + 1) := by
  unfold markB
  have e : zs.drop j = zs[j] :: zs.drop (j + 1) := (List.drop_eq_getElem_cons h)
  rw [e, List.set_append_right _ _ (by rw [upB_length]; omega), upB_length, Nat.sub_self, List.set_cons_zero]
  simp [upB, List.range_succ]
set_option maxHeartbeats 800000 in
theorem c_markBools (v : Value) (zs : List Bool) (B : Nat) (k : Int) (w : World) (hown : OwnBs w B v zs) (h0 : 0 ≤ k) (hm : k + zs.length ≤ 9223372036854775806) :
    Calls Try.prog 21 #[v, .int .i64 k] w fun e w' => e = .returned (.int .i64 (k + zs.length)) ∧ OwnBs w' B v (upB k zs.length) ∧ w.grownBy w' v.ownBlock := by
  rcases hown.shape with ⟨rfl, rfl⟩ | ⟨g, cap, rfl⟩
  · go_enter Try.func21, Try.ntmps21
    go_wp2
    refine wp_loop_rounds 1 ?_
    rw [rounds_succ]
    go_wp2
    go_ret
    exact ⟨r_i (by simp), hown, World.grownBy.refl _ _⟩
  · have HO := Lib.hid hown; clear hown
    generalize hn : zs.length = n at *
    have HN := Lib.hid hn; clear hn
    go_enter Try.func21, Try.ntmps21
    go_wp2
    go_loopw [1, 5] (fun kk i wr => ∃ j : Nat, j ≤ n ∧ i = .int .i64 j ∧ kk = .int .i64 (k + j) ∧ OwnBs wr B (.slice (some ⟨g, 0, none⟩) n cap) (markB k zs j) ∧ w.grownBy wr (some g)) (fun _ i _ => n - (intOf i).toNat)
    case atStart => exact ⟨0, Nat.zero_le _, rfl, by simp, by rw [markB_zero]; exact HO.out, World.grownBy.refl _ _⟩
    case round =>
      obtain ⟨j, hj, rfl, rfl, hown, hg⟩ := hrel
      by_cases hlt : j < n
      · have hlen := markB_length k zs (j := j) (by rw [HN.out]; exact hj)
        have hown' : wr.ownsRow B 4 1 (.slice (some ⟨g, 0, none⟩) n cap) n ((markB k zs j).map Value.bool) := by
          have := hown; unfold OwnBs at this; rwa [hlen, HN.out] at this
        have hfr := hown'.frozenAt j
        obtain ⟨x, hx⟩ : ∃ x, wr.cell? ⟨g, j, none⟩ = some x := by
          rw [hown'.cellAt j (by omega), List.getElem?_map, List.getElem?_eq_getElem (by rw [hlen, HN.out]; exact hlt)]
          exact ⟨_, rfl⟩
        obtain ⟨s1, s2⟩ := hown'.stored j (.bool (mk3 (k + j)))
        have S1 : Hid (OwnBs (wr.setCell ⟨g, j, none⟩ (.bool (mk3 (k + j)))) B (.slice (some ⟨g, 0, none⟩) n cap) (markB k zs (j + 1))) := by
          unfold Hid OwnBs
          rw [markB_length k zs (by rw [HN.out]; omega), HN.out, ← markB_set k zs (by rw [HN.out]; exact hlt), List.map_set]
          exact s1
        have S2 := Lib.hid s2
        clear s1 s2 hown hown' hlen
        go_wp2
        go_roundw
        case rel => exact ⟨j + 1, by omega, by go_num, by go_num, S1.out, grownBy_trans hg S2.out⟩
        case measure => simp [intOf]; omega
      · obtain rfl : j = n := by omega
        go_wp2
        go_ret
        exact ⟨rfl, by rw [← HN.out, ← markB_all, HN.out]; exact hown, hg⟩
/-- Rows of which the first j have been marked. -/
def markF (k : Int) (fs : List (List Int)) (j : Nat) : List (List Int) := (List.range fs.length).map fun i => if i < j then upFrom (k + sumL fs i) (fs.getD i []).length else fs.getD i []
theorem markF_length (k : Int) (fs : List (List Int)) (j : Nat) : (markF k fs j).length = fs.length := by simp [markF]
theorem markF_getD (k : Int) (fs : List (List Int)) (j : Nat) {i : Nat} (h : i < fs.length) : (markF k fs j).getD i [] = if i < j then upFrom (k + sumL fs i) (fs.getD i []).length else fs.getD i [] := by
  unfold markF
  rw [List.getD, List.getElem?_map, List.getElem?_range h]
  rfl
theorem ext_getD {xs ys : List (List Int)} (hl : xs.length = ys.length) (h : ∀ i, i < xs.length → xs.getD i [] = ys.getD i []) : xs = ys := by
  apply List.ext_getElem hl
  intro i h1 h2
  have := h i h1
  simpa [List.getD, List.getElem?_eq_getElem h1, List.getElem?_eq_getElem h2] using this
theorem markF_zero (k : Int) (fs : List (List Int)) : markF k fs 0 = fs := ext_getD (markF_length k fs 0) fun i hi => by rw [markF_getD k fs 0 (by rw [markF_length] at hi; exact hi), if_neg (by omega)]
theorem markF_set (k : Int) (fs : List (List Int)) {j : Nat} (h : j < fs.length) : (markF k fs j).set j (upFrom (k + sumL fs j) (fs.getD j []).length) = markF k fs (j + 1) := by
  refine ext_getD (by rw [List.length_set, markF_length, markF_length]) fun i hi => ?_
  rw [List.length_set, markF_length] at hi
  rw [getD_setL (by rw [markF_length]; exact h), markF_getD k fs (j + 1) hi, markF_getD k fs j hi]
  by_cases e : i = j
  · subst e; rw [if_pos rfl, if_pos (by omega)]
  · rw [if_neg e]
    by_cases e2 : i < j
    · rw [if_pos e2, if_pos (by omega)]
    · rw [if_neg e2, if_neg (by omega)]
def szM (h : H) : Nat := sumL h.f h.f.length + h.l.length + h.r.length
def markH (k : Int) (h : H) : H := ⟨markF k h.f h.f.length, upB (k + sumL h.f h.f.length) h.l.length, upFrom (k + sumL h.f h.f.length + h.l.length) h.r.length⟩
theorem FamH.shapeN {w : World} {lo hi : Nat} {a b c : Value} {us : Nat → Value} {h : H} (k : FamH w lo hi a b c us h) {n : Nat} (hn : h.f.length = n) : (a = .slice none 0 0 ∧ n = 0) ∨ ∃ g cap, a = .slice (some ⟨g, 0, none⟩) n cap := by
  rcases k.shape with ⟨h1, h2⟩ | ⟨g, cap, h1⟩
  · exact .inl ⟨h1, by rw [← hn, h2]; rfl⟩
  · exact .inr ⟨g, cap, by rw [h1, hn]⟩
set_option maxHeartbeats 1600000 in
theorem c_markIntSS (lo hi : Nat) (a b c : Value) (us : Nat → Value) (h : H) (k : Int) (w : World) (hown : FamH w lo hi a b c us h) (h0 : 0 ≤ k) (hm : k + sumL h.f h.f.length ≤ 9223372036854775806) (hl : h.f.length ≤ 9223372036854775806) :
    Calls Try.prog 86 #[a, .int .i64 k] w fun e w' => e = .returned (.int .i64 (k + sumL h.f h.f.length)) ∧ FamH w' lo hi a b c us ⟨markF k h.f h.f.length, h.l, h.r⟩ ∧ Chg lo hi w w' := by
  obtain ⟨fs, ls, rs⟩ := h
  simp only at *
  have hsl := sumL_le fs
  have hss : ∀ k, k < fs.length → sumL fs (k + 1) = sumL fs k + (fs.getD k []).length := fun k hk => sumL_succ hk
  have HO := Lib.hid hown
  have hsh := hown.shapeN (n := fs.length) rfl
  clear hown
  generalize hn : fs.length = n at *
  have HN := Lib.hid hn; have HSL := Lib.hid hsl; have HSS := Lib.hid hss
  clear hn hsl hss
  generalize hT : sumL fs n = Tt at *
  have HT := Lib.hid hT
  clear hT
  have ha : ∃ g cap, a = .slice g n cap ∧ (0 < n → ∃ b, g = some ⟨b, 0, none⟩) := by
    rcases hsh with ⟨h1, h2⟩ | ⟨g, cap, h1⟩
    · exact ⟨none, 0, by rw [h1, h2], fun h => by omega⟩
    · exact ⟨_, cap, h1, fun _ => ⟨g, rfl⟩⟩
  obtain ⟨ga, cap, rfl, hga⟩ := ha
  have HGA := Lib.hid hga
  clear hsh hga
  go_enter Try.func86, Try.ntmps86
  go_wp2
  go_loopw [1, 5] (fun kk i wr => ∃ j : Nat, j ≤ n ∧ i = .int .i64 j ∧ ∃ s : Nat, Hid (sumL fs j = s) ∧ s ≤ Tt ∧ kk = .int .i64 (k + s) ∧ FamH wr lo hi (.slice ga n cap) b c us ⟨markF k fs j, ls, rs⟩ ∧ Chg lo hi w wr) (fun _ i _ => n - (intOf i).toNat)
  case atStart => exact ⟨0, Nat.zero_le _, rfl, 0, sumL_zero fs, Nat.zero_le _, by simp, by rw [markF_zero]; exact HO.out, Chg.refl _ _ _⟩
  case round =>
    obtain ⟨j, hj, rfl, s, hs, hsT, rfl, hfam, hch⟩ := hrel
    by_cases hlt : j < n
    · obtain ⟨g, rfl⟩ := HGA.out (by omega)
      have hjl : j < fs.length := by rw [HN.out]; exact hlt
      have e1 := HSS.out j hlt
      have e2 := HSL.out (j + 1)
      rw [hs.out] at e1
      rw [e1] at e2
      have hlen : (markF k fs j).length = n := by rw [markF_length, HN.out]
      obtain ⟨q, _⟩ := hfam.cell (g := g) (cap := cap) (i := j) (by simp only [hlen]) (by simp only [hlen]; exact hlt)
      have hrow := hfam.row (i := j) (by simp only [hlen]; exact hlt)
      simp only [] at hrow
      rw [markF_getD k fs j hjl, if_neg (by omega)] at hrow
      have hset := markF_set k fs hjl
      rw [hs.out] at hset
      have i1 : (j : Int) < (n : Int) := by omega
      have E1 := Lib.hid e1; have HR := Lib.hid hrow; have HF := Lib.hid hfam; have HCH := Lib.hid hch; have HLE := Lib.hid hlen; have HST := Lib.hid hset
      clear hfam hch hrow hlen hset e1 hjl
      generalize hzs : fs.getD j [] = zs at *
      have J : Hid ((0 : Int) ≤ k + s ∧ k + s + zs.length ≤ 9223372036854775806) := ⟨by omega, by omega⟩
      have hb2 : s + zs.length ≤ Tt := e2
      clear hzs e2
      obtain ⟨u, hu⟩ : ∃ u, u = us j := ⟨_, rfl⟩
      rw [← hu] at q HR
      have HU := Lib.hid hu
      clear hu
      go_wp2_with fail
      refine (c_markIntS u zs lo (k + s) _ HR.out J.out.1 J.out.2).mono ?_
      rintro e w2 ⟨rfl, ho2, hg2⟩
      rw [HU.out] at ho2 hg2
      have hch2 : Chg lo hi wr w2 := Chg.of_grown hg2 fun g' hg' => by
        have := Fam.blk HF.out (k := j + 3) (g := g') (by simp only [HLE.out]; omega) hg'
        exact ⟨this.1, this.2.1⟩
      have F2 := HF.out.setRow (i := j) (by simp only [HLE.out]; exact hlt) hg2 ho2
      simp only [HST.out] at F2
      have F3 := Lib.hid F2; have C3 := Lib.hid (HCH.out.trans hch2)
      clear F2 hch2 ho2 hg2 q
      generalize zs.length = m at *
      go_wp2
      go_roundw
      case rel => exact ⟨j + 1, by omega, by go_num, s + m, E1.out, by omega, by congr 1; omega, F3.out, C3.out⟩
      case measure => simp [intOf]; omega
    · obtain rfl : j = n := by omega
      obtain rfl : Tt = s := HT.out.symm.trans hs.out
      go_wp2
      go_ret
      exact ⟨rfl, hfam, hch⟩
set_option maxHeartbeats 1600000 in
theorem c_markHeap (lo hi : Nat) (a b c : Value) (h : H) (k : Int) (w : World) (hown : OwnH w lo hi a b c h) (h0 : 0 ≤ k) (hm : k + szM h ≤ 9223372036854775806) (hl : h.f.length ≤ 9223372036854775806) (hs : hi ≤ w.heap.size) :
    Calls Try.prog 20 #[hv a b c, .int .i64 k] w fun e w' => e = .returned (.int .i64 (k + szM h)) ∧ OwnH w' lo hi a b c (markH k h) ∧ Chg lo hi w w' := by
  have hb0 := below1 w (.cells (c3 a b c) 30)
  obtain ⟨us, hfam⟩ := hown
  have F0 := Lib.hid (show FamH _ lo hi a b c us h from Fam.below hfam hb0)
  have C0 := Lib.hid (Chg.of_below (lo := lo) (hi := hi) hb0)
  have R0 := Lib.hid (show RowH _ _ a b c from Row.new w 30 (c3 a b c))
  have hmk : k + szM h = k + sumL h.f h.f.length + h.l.length + h.r.length := by unfold szM; omega
  have HMK := Lib.hid hmk
  rw [hmk] at hm ⊢
  have J1 : Hid (k + sumL h.f h.f.length ≤ 9223372036854775806 ∧ 0 ≤ k + sumL h.f h.f.length ∧ k + sumL h.f h.f.length + h.l.length ≤ 9223372036854775806 ∧ 0 ≤ k + sumL h.f h.f.length + h.l.length ∧ k + sumL h.f h.f.length + h.l.length + h.r.length ≤ 9223372036854775806) := ⟨by omega, by omega, by omega, by omega, by omega⟩
  have HLE := Lib.hid hl; have HS := Lib.hid hs
  clear hfam hb0 hmk hm hl hs
  have c0 := R0.out.c0
  go_enter Try.func20, Try.ntmps20
  go_wp2_with fail
  clear c0
  refine (c_markIntSS lo hi a b c us h k _ F0.out h0 J1.out.1 HLE.out).mono ?_
  rintro e w1 ⟨rfl, f1, ch1⟩
  have R1 : RowH _ _ a b c := Row.chg R0.out ch1 (.inr HS.out)
  have C1 := C0.out.trans ch1
  have hl1 := f1.live
  have c1 := R1.c1
  have F1 := Lib.hid f1; have RR := Lib.hid R1; have CC := Lib.hid C1; have HL1 := Lib.hid hl1
  clear f1 ch1 R1 C1 F0 R0 C0 hl1
  go_wp2_with fail
  clear c1
  refine (c_markBools b h.l lo (k + sumL h.f h.f.length) _ HL1.out J1.out.2.1 J1.out.2.2.1).mono ?_
  rintro e w2 ⟨rfl, ho2, hg2⟩
  have f2 := F1.out.setLive hg2 ho2
  have ch2 : Chg lo hi w1 w2 := Chg.of_grown hg2 fun g' hg' => by
    have := Fam.blk F1.out (k := 1) (g := g') (by omega) hg'
    exact ⟨this.1, this.2.1⟩
  have R2 : RowH _ _ a b c := Row.chg RR.out ch2 (.inr HS.out)
  have C2 := CC.out.trans ch2
  have hr2 := f2.roots
  have c2 := R2.c2
  have F2 := Lib.hid f2; have C3 := Lib.hid C2; have HR2 := Lib.hid hr2
  clear f2 ch2 R2 C2 F1 RR CC hr2 ho2 hg2 HL1
  go_wp2_with fail
  clear c2
  refine (c_markIntS c h.r lo (k + sumL h.f h.f.length + h.l.length) _ HR2.out J1.out.2.2.2.1 J1.out.2.2.2.2).mono ?_
  rintro e w3 ⟨rfl, ho3, hg3⟩
  have f3 := F2.out.setRoots hg3 ho3
  have ch3 : Chg lo hi w2 w3 := Chg.of_grown hg3 fun g' hg' => by
    have := Fam.blk F2.out (k := 2) (g := g') (by omega) hg'
    exact ⟨this.1, this.2.1⟩
  have F3 := Lib.hid f3; have C4 := Lib.hid (C3.out.trans ch3)
  clear f3 ch3 F2 C3 ho3 hg3 HR2
  go_wp2
  go_ret
  exact ⟨rfl, ⟨us, F3.out⟩, C4.out⟩
end Go.Proofs.Ytkkigoamphkalaa
namespace Go.Proofs.Ytkkigoamphkalaa
open Go.RowKit Ph

set_option maxHeartbeats 800000 in
theorem c_isLive (a b c : Value) (ls : List Bool) (z : Int) (w : World) (hl : BoolsAt w b ls) : Calls Try.prog 90 #[hv a b c, .int .i64 z] w fun e w' => e = .returned (.bool (liveB ls z)) ∧ Below w.heap.size w w' := by
  obtain ⟨ba, bc, rfl, hL⟩ := hl
  by_cases h0 : z < 0
  · have HE : Hid (liveB ls z = false) := by unfold Hid liveB; rw [decide_eq_false (by omega)]; rfl
    have g0 : ¬ 0 ≤ z := by omega
    clear hL
    generalize ls.length = n at *
    have HB := Lib.hid (below1 w (.cells (c3 a (.slice ba n bc) c) 30))
    go_enter Try.func90, Try.ntmps90
    go_wp2
    go_ret
    exact ⟨r_b HE.out.symm, HB.out⟩
  · obtain ⟨k, rfl⟩ : ∃ k : Nat, z = k := ⟨z.toNat, by omega⟩
    clear h0
    by_cases h1 : k < ls.length
    · obtain ⟨g, off, rfl, hc⟩ := hL (by omega)
      have q := hc k h1
      have HE : Hid (liveB ls (k : Int) = ls.getD k false) := by unfold Hid liveB; rw [decide_eq_true (by omega)]; simp
      rw [← HE.out] at q
      generalize liveB ls (k : Int) = x at *
      clear hc hL HE
      generalize ls.length = n at *
      have HB := Lib.hid (below1 w (.cells (c3 a (.slice (some ⟨g, off, none⟩) n bc) c) 30))
      have q' := cellBelow HB.out (Nat.le_refl _) q
      have i1 : (k : Int) < (n : Int) := by omega
      have i0 : (0 : Int) ≤ (k : Int) := by omega
      clear q
      go_enter Try.func90, Try.ntmps90
      go_wp2
      go_ret
      exact ⟨rfl, HB.out⟩
    · have HE : Hid (liveB ls (k : Int) = false) := by
        unfold Hid
        cases hq : liveB ls (k : Int) with
        | false => rfl
        | true => have := liveB_lt hq; omega
      clear hL
      generalize ls.length = n at *
      have HB := Lib.hid (below1 w (.cells (c3 a (.slice ba n bc) c) 30))
      have i1 : ¬ (k : Int) < (n : Int) := by omega
      have i0 : (0 : Int) ≤ (k : Int) := by omega
      go_enter Try.func90, Try.ntmps90
      go_wp2
      go_ret
      exact ⟨r_b HE.out.symm, HB.out⟩
set_option maxHeartbeats 800000 in
theorem c_isReference (a b c : Value) (ls : List Bool) (z : Int) (w : World) (hl : BoolsAt w b ls) : Calls Try.prog 124 #[hv a b c, .int .i64 z] w fun e w' => e = .returned (.bool (refB ls z)) ∧ Below w.heap.size w w' := by
  have hb0 := below1 w (.cells (c3 a b c) 30)
  have HL := Lib.hid (hl.below hb0)
  have HB := Lib.hid hb0
  have R0 := Lib.hid (show RowH _ _ a b c from Row.new w 30 (c3 a b c))
  clear hl hb0
  by_cases h0 : z = -1
  · subst h0
    have HE : Hid (refB ls (-1) = true) := by unfold Hid refB; simp
    go_enter Try.func124, Try.ntmps124
    go_wp2
    go_ret
    exact ⟨r_b HE.out.symm, HB.out⟩
  · have HE : Hid (refB ls z = liveB ls z) := by unfold Hid refB; simp [h0]
    have i0 : (z == -1) = false := by simpa using h0
    rw [HE.out]
    generalize hx : liveB ls z = x at *
    have HX := Lib.hid hx
    clear hx h0 HE
    have c0 := R0.out.c0
    have c1 := R0.out.c1
    have c2 := R0.out.c2
    go_enter Try.func124, Try.ntmps124
    go_wp2_with (go_at_call 90; refine (c_isLive a b c ls z _ HL.out).mono ?_; rintro e w1 ⟨rfl, hb1⟩; rw [HX.out]; have B1 := Lib.hid (bst HB.out hb1 HB.out.size); clear hb1)
    go_ret
    exact ⟨rfl, B1.out⟩
set_option maxHeartbeats 1600000 in
theorem c_areReferences (a b c v : Value) (ls : List Bool) (zs : List Int) (w : World) (hl : BoolsAt w b ls) (hz : IntsAt w v zs) (hm : zs.length ≤ 9223372036854775806) : Calls Try.prog 119 #[hv a b c, v] w fun e w' => e = .returned (.bool (refsB ls zs)) ∧ Below w.heap.size w w' := by
  have hb0 := below1 w (.cells (c3 a b c) 30)
  have HL := Lib.hid (hl.below hb0)
  have hz0 := hz.below hb0
  have HB := Lib.hid hb0
  have R0 := Lib.hid (show RowH _ _ a b c from Row.new w 30 (c3 a b c))
  obtain ⟨va, vc, rfl, hA⟩ := hz0
  have HA := Lib.hid hA
  clear hl hb0 hz hA
  generalize hn : zs.length = n at *
  have HN := Lib.hid hn; clear hn
  go_enter Try.func119, Try.ntmps119
  go_wp2
  generalize (w.alloc (.cells (c3 a b c) 30)) = w0 at *
  go_loopw [9] (fun i wr => ∃ k : Nat, k ≤ n ∧ i = .int .i64 k ∧ Hid (refsB ls (zs.take k) = true) ∧ Below w0.heap.size w0 wr) (fun i _ => n - (intOf i).toNat)
  case atStart => exact ⟨0, Nat.zero_le _, rfl, by simp [Hid, refsB], Below.refl _ _⟩
  case round =>
    obtain ⟨k, hk, rfl, ht, hbr⟩ := hrel
    have BW := Lib.hid (bst HB.out hbr HB.out.size)
    by_cases hlt : k < n
    · obtain ⟨g, off, rfl, hc⟩ := HA.out (by omega)
      have q := cellBelow hbr (Nat.le_refl _) (hc k hlt)
      have R1 := R0.out.below hbr
      have L1 := Lib.hid (HL.out.below hbr)
      have c0 := R1.c0
      have c1 := R1.c1
      have c2 := R1.c2
      have HBR := Lib.hid hbr
      have i1 : (k : Int) < (n : Int) := by omega
      have hs := refsB_take_succ (l := ls) (zs := zs) (k := k) (by rw [HN.out]; exact hlt)
      have hf := refsB_false (l := ls) (zs := zs) (k := k) (by rw [HN.out]; exact hlt)
      have HS := Lib.hid hs; have HF := Lib.hid hf
      clear hc hbr R1 hs hf
      generalize zs.getD k 0 = z at *
      generalize hx : refB ls z = x at *
      have HX := Lib.hid hx; clear hx
      cases x
      · have HE : Hid (refsB ls zs = false) := HF.out rfl
        clear HS HF
        go_wp2_with (go_at_call 124; refine (c_isReference a b c ls z _ L1.out).mono ?_; rintro e w1 ⟨rfl, hb1⟩; rw [HX.out]; have B1 := Lib.hid (bst BW.out hb1 BW.out.size); clear hb1)
        go_ret
        exact ⟨r_b HE.out.symm, B1.out⟩
      · have HE : Hid (refsB ls (zs.take (k + 1)) = true) := by unfold Hid; rw [HS.out, ht.out]; rfl
        clear HS HF
        go_wp2_with (go_at_call 124; refine (c_isReference a b c ls z _ L1.out).mono ?_; rintro e w1 ⟨rfl, hb1⟩; rw [HX.out]; have B1 := Lib.hid (bst HBR.out hb1 HBR.out.size); clear hb1)
        go_roundw
        case rel => exact ⟨k + 1, by omega, by go_num, HE.out, B1.out⟩
        case measure => simp [intOf]; omega
    · have HE : Hid (refsB ls zs = true) := by
        unfold Hid
        have := ht.out
        rwa [List.take_of_length_le (by rw [HN.out]; omega)] at this
      go_wp2
      go_ret
      exact ⟨r_b HE.out.symm, BW.out⟩
theorem good_many {h : H} (k : 12 < h.f.length) : good h = false := by unfold good; rw [decide_eq_false (by omega)]; rfl
theorem good_lens {h : H} (k : h.l.length ≠ h.f.length) : good h = false := by unfold good; rw [decide_eq_false (p := h.l.length = h.f.length) k]; simp
theorem good_row {h : H} {i : Nat} (hi : i < h.f.length) (k : rowB h.l (h.l.getD i false) (h.f.getD i []) = false) : good h = false := by unfold good; rw [rowsB_false hi k]; simp
theorem good_roots {h : H} (k : 4 < h.r.length) : good h = false := by unfold good; rw [decide_eq_false (p := h.r.length ≤ 4) (by omega)]; simp
theorem good_rr {h : H} (k : refsB h.l h.r = false) : good h = false := by unfold good; rw [k]; simp
theorem good_all {h : H} (h1 : h.f.length ≤ 12) (h2 : h.l.length = h.f.length) (h3 : rowsB h.l h.f h.f.length = true) (h4 : h.r.length ≤ 4) (h5 : refsB h.l h.r = true) : good h = true := by unfold good; rw [decide_eq_true h1, decide_eq_true h2, h3, decide_eq_true h4, h5]; rfl
theorem row_dead {l : List Bool} {zs : List Int} (h : 0 < zs.length) : rowB l false zs = false := by
  cases zs with
  | nil => simp at h
  | cons z zs => simp [rowB]
theorem row_long {l : List Bool} {on : Bool} {zs : List Int} (h : 3 < zs.length) : rowB l on zs = false := by unfold rowB; rw [decide_eq_false (by omega)]; simp
theorem row_bad {l : List Bool} {on : Bool} {zs : List Int} (h : refsB l zs = false) : rowB l on zs = false := by unfold rowB; rw [h]; simp
theorem row_ok {l : List Bool} {on : Bool} {zs : List Int} (h1 : zs.length ≤ 3) (h2 : on = true ∨ ¬ 0 < zs.length) (h3 : refsB l zs = true) : rowB l on zs = true := rowB_iff.2 ⟨h1, h2.imp id (fun h => List.eq_nil_of_length_eq_zero (by omega)), h3⟩
end Go.Proofs.Ytkkigoamphkalaa
namespace Go.Proofs.Ytkkigoamphkalaa
open Go.RowKit Ph

set_option maxHeartbeats 800000 in
theorem s_l1In (z lo hi : Int) (w : World) : Calls Try.prog 126 #[.int .i64 z, .int .i64 lo, .int .i64 hi] w fun e w' => e = .returned (.bool (decide (lo ≤ z) && decide (z ≤ hi))) ∧ w = w' := by
  generalize hx : (decide (lo ≤ z) && decide (z ≤ hi)) = x
  by_cases h1 : lo ≤ z
  · by_cases h2 : z ≤ hi
    · have HE : Hid (x = true) := by unfold Hid; rw [← hx]; simp [h1, h2]
      clear hx
      go_enter Try.func126, Try.ntmps126
      go_wp2
      go_ret
      exact ⟨r_b HE.out.symm, rfl⟩
    · have HE : Hid (x = false) := by unfold Hid; rw [← hx]; simp [h2]
      clear hx
      go_enter Try.func126, Try.ntmps126
      go_wp2
      go_ret
      exact ⟨r_b HE.out.symm, rfl⟩
  · have HE : Hid (x = false) := by unfold Hid; rw [← hx]; simp [h1]
    clear hx
    go_enter Try.func126, Try.ntmps126
    go_wp2
    go_ret
    exact ⟨r_b HE.out.symm, rfl⟩
theorem in_yes {z lo hi : Int} (h1 : lo ≤ z) (h2 : z ≤ hi) : (decide (lo ≤ z) && decide (z ≤ hi)) = true := by simp [h1, h2]
theorem in_lo {z lo hi : Int} (h1 : z < lo) : (decide (lo ≤ z) && decide (z ≤ hi)) = false := by simp; omega
theorem in_hi {z lo hi : Int} (h1 : hi < z) : (decide (lo ≤ z) && decide (z ≤ hi)) = false := by simp; omega
theorem s_l1In_yes (z lo hi : Int) (w : World) (h1 : lo ≤ z) (h2 : z ≤ hi) : Calls Try.prog 126 #[.int .i64 z, .int .i64 lo, .int .i64 hi] w fun e w' => e = .returned (.bool true) ∧ w = w' :=
  (s_l1In z lo hi w).mono fun _ _ ⟨he, hw⟩ => ⟨he.trans (r_b (in_yes h1 h2)), hw⟩
theorem s_l1In_no (z lo hi : Int) (w : World) (h : z < lo ∨ hi < z) : Calls Try.prog 126 #[.int .i64 z, .int .i64 lo, .int .i64 hi] w fun e w' => e = .returned (.bool false) ∧ w = w' :=
  (s_l1In z lo hi w).mono fun _ _ ⟨he, hw⟩ => ⟨he.trans (r_b (h.elim in_lo in_hi)), hw⟩
set_option maxHeartbeats 1600000 in
theorem s_l5Names (b v : Value) (ls : List Bool) (zs : List Int) (w : World) (hl : BoolsAt w b ls) (hz : IntsAt w v zs) (hm : zs.length ≤ 9223372036854775806) (hml : ls.length ≤ 9223372036854775806) : Calls Try.prog 88 #[b, v] w fun e w' => e = .returned (.bool (refsB ls zs)) ∧ w = w' := by
  have HL := Lib.hid hl
  obtain ⟨ba, bc, rfl⟩ := hl.shape
  obtain ⟨va, vc, rfl, hA⟩ := hz
  have HA := Lib.hid hA
  clear hl hA
  generalize hn : zs.length = n at *
  generalize hnl : ls.length = nl at *
  have HN := Lib.hid hn; have HNL := Lib.hid hnl; clear hn hnl
  go_enter Try.func88, Try.ntmps88
  go_wp2
  go_loop [9] (fun i => ∃ k : Nat, k ≤ n ∧ i = .int .i64 k ∧ Hid (refsB ls (zs.take k) = true)) (fun i => n - (intOf i).toNat)
  case atStart => exact ⟨0, Nat.zero_le _, rfl, by simp [Hid, refsB]⟩
  case round =>
    obtain ⟨k, hk, rfl, ht⟩ := hrel
    by_cases hlt : k < n
    · obtain ⟨g, off, rfl, hc⟩ := HA.out (by omega)
      have q := hc k hlt
      have i1 : (k : Int) < (n : Int) := by omega
      have hs := refsB_take_succ (l := ls) (zs := zs) (k := k) (by rw [HN.out]; exact hlt)
      have hf := refsB_false (l := ls) (zs := zs) (k := k) (by rw [HN.out]; exact hlt)
      have HS := Lib.hid hs; have HF := Lib.hid hf
      clear hc hs hf
      generalize zs.getD k 0 = z at *
      by_cases z1 : z < -1 ∨ (nl : Int) - 1 < z
      · have HE : Hid (refsB ls zs = false) := HF.out (by
          cases hq : refB ls z with
          | false => rfl
          | true =>
            rcases refB_iff.1 hq with h1 | h1
            · have := HNL.out; omega
            · have := liveB_lt h1; have := HNL.out; omega)
        have Z1 := Lib.hid z1
        clear z1 HS HF
        go_wp2_with (go_at_call 126; refine (s_l1In_no z (-1) (nl - 1) _ Z1.out).mono ?_; rintro e w1 ⟨rfl, rfl⟩)
        go_ret
        exact ⟨r_b HE.out.symm, rfl⟩
      · have Z1 : Hid (-1 ≤ z ∧ z ≤ (nl : Int) - 1) := ⟨by omega, by omega⟩
        by_cases z0 : z < 0
        · have HE : Hid (refsB ls (zs.take (k + 1)) = true) := by
            unfold Hid; rw [HS.out, ht.out, refB_iff.2 (.inl (by omega))]; rfl
          have i2 : ¬ 0 ≤ z := by omega
          clear z1 HS HF
          go_wp2_with (go_at_call 126; refine (s_l1In_yes z (-1) (nl - 1) _ Z1.out.1 Z1.out.2).mono ?_; rintro e w1 ⟨rfl, rfl⟩)
          go_round
          case rel => exact ⟨k + 1, by omega, by go_num, HE.out⟩
          case measure => simp [intOf]; omega
        · obtain ⟨j, rfl⟩ : ∃ j : Nat, z = j := ⟨z.toNat, by omega⟩
          have hj : j < nl := by omega
          obtain ⟨gl, ol, rfl, hcl⟩ := HL.out.at' (by omega)
          have ql := hcl j hj
          have hrx : refB ls (j : Int) = ls.getD j false := by
            unfold refB liveB
            rw [decide_eq_false (show ¬ (j : Int) = -1 by omega), decide_eq_true (show (0 : Int) ≤ (j : Int) by omega)]; simp
          have HRX := Lib.hid hrx
          clear hcl hrx z0 z1
          generalize ls.getD j false = x at *
          have i2 : (0 : Int) ≤ (j : Int) := by omega
          have i3 : (j : Int) < (nl : Int) := by omega
          cases x
          · have HE : Hid (refsB ls zs = false) := HF.out HRX.out
            clear HS HF
            go_wp2_with (go_at_call 126; refine (s_l1In_yes j (-1) (nl - 1) _ Z1.out.1 Z1.out.2).mono ?_; rintro e w1 ⟨rfl, rfl⟩)
            go_ret
            exact ⟨r_b HE.out.symm, rfl⟩
          · have HE : Hid (refsB ls (zs.take (k + 1)) = true) := by
              unfold Hid; rw [HS.out, ht.out, HRX.out]; rfl
            clear HS HF
            go_wp2_with (go_at_call 126; refine (s_l1In_yes j (-1) (nl - 1) _ Z1.out.1 Z1.out.2).mono ?_; rintro e w1 ⟨rfl, rfl⟩)
            go_round
            case rel => exact ⟨k + 1, by omega, by go_num, HE.out⟩
            case measure => simp [intOf]; omega
    · have HE : Hid (refsB ls zs = true) := by
        unfold Hid
        have := ht.out
        rwa [List.take_of_length_le (by rw [HN.out]; omega)] at this
      go_wp2
      go_ret
      exact ⟨r_b HE.out.symm, rfl⟩
end Go.Proofs.Ytkkigoamphkalaa
namespace Go.Proofs.Ytkkigoamphkalaa
open Go.RowKit Ph

set_option maxRecDepth 100000 in
set_option maxHeartbeats 3200000 in
theorem s_GoodHeap (a b c : Value) (h : H) (w : World) (hh : HeapAt w a b c h) : Calls Try.prog 80 #[hv a b c] w fun e w' => e = .returned (.bool (good h)) ∧ Below w.heap.size w w' := by
  obtain ⟨hF, hL, hR⟩ := hh
  have hb0 := below1 w (.cells (c3 a b c) 30)
  have HF := Lib.hid (hF.below hb0)
  have HL := Lib.hid (hL.below hb0)
  have HR := Lib.hid (hR.below hb0)
  have R0 := Lib.hid (show RowH _ _ a b c from Row.new w 30 (c3 a b c))
  have HB := Lib.hid hb0
  obtain ⟨fa, fc, rfl⟩ := hF.shape
  obtain ⟨la, lc, rfl⟩ := hL.shape
  obtain ⟨ra, rc, rfl⟩ := hR.shape
  clear hF hL hR hb0
  have HM := Lib.hid (good_many (h := h))
  have HLN := Lib.hid (good_lens (h := h))
  have HG : Hid (∀ i, i < h.f.length → rowB h.l (h.l.getD i false) (h.f.getD i []) = false → good h = false) := fun i => good_row
  have HG4 : Hid (4 < h.r.length → good h = false) := good_roots
  have HGR : Hid (refsB h.l h.r = false → good h = false) := good_rr
  have HGA := Lib.hid (good_all (h := h))
  generalize hnf : h.f.length = n at *
  generalize hnl : h.l.length = nl at *
  generalize hnr : h.r.length = nr at *
  have HNF := Lib.hid hnf; have HNR := Lib.hid hnr; have HNL := Lib.hid hnl
  clear hnf hnr hnl
  by_cases n1 : 12 < n
  · have HE := Lib.hid (HM.out n1)
    have i1 : (12 : Int) < (n : Int) := by omega
    clear HF HL HR R0
    go_enter Try.func80, Try.ntmps80
    go_wp2
    go_ret
    exact ⟨r_b HE.out.symm, HB.out⟩
  · by_cases n2 : nl = n
    · have n2' := n2.symm
      subst n2'
      clear n2
      have i1 : ¬ (12 : Int) < (n : Int) := by omega
      have i2 : ((n : Int) != (n : Int)) = false := by simp
      by_cases n4 : nr ≤ 4
      · have i4 : ¬ (4 : Int) < (nr : Int) := by omega
        have HRX := Lib.hid (s_l5Names (.slice la n lc) (.slice ra nr rc) h.l h.r _ HL.out HR.out (by rw [HNR.out]; omega) (by rw [HNL.out]; omega))
        have HNM : Hid (n ≤ 9223372036854775806) := by unfold Hid; omega
        generalize hx : refsB h.l h.r = x at *
        cases x
        · have HE := Lib.hid (HGR.out rfl)
          clear hx
          go_enter Try.func80, Try.ntmps80
          go_wp2_with (go_at_call 88; refine HRX.out.mono ?_; rintro e w1 ⟨rfl, rfl⟩)
          go_ret
          exact ⟨r_b HE.out.symm, HB.out⟩
        · have HA : Hid (rowsB h.l h.f n = true → good h = true) := fun h3 => HGA.out (by omega) rfl h3 n4 rfl
          clear hx
          go_enter Try.func80, Try.ntmps80
          go_wp2_with (go_at_call 88; refine HRX.out.mono ?_; rintro e w1 ⟨rfl, rfl⟩)
          clear HRX
          generalize (w.alloc (.cells (c3 (.slice fa n fc) (.slice la n lc) (.slice ra nr rc)) 30)) = w0 at *
          go_loop [35] (fun i => ∃ k : Nat, k ≤ n ∧ i = .int .i64 k ∧ Hid (rowsB h.l h.f k = true)) (fun i => n - (intOf i).toNat)
          case atStart => exact ⟨0, Nat.zero_le _, rfl, by simp [Hid, rowsB]⟩
          case round =>
            obtain ⟨k, hk, rfl, ht⟩ := hrel
            have c0 := R0.out.c0
            have c1 := R0.out.c1
            have c2 := R0.out.c2
            by_cases hlt : k < n
            · obtain ⟨gf, of, rfl, hcf⟩ := HF.out.at' (by omega)
              have L1 := Lib.hid HL.out
              obtain ⟨gl, ol, rfl, hcl⟩ := HL.out.at' (by omega)
              obtain ⟨u, qf, hu⟩ := hcf k hlt
              have ql := hcl k hlt
              obtain ⟨ua, uc, rfl⟩ := hu.shape
              have HU := Lib.hid hu
              have i3 : (k : Int) < (n : Int) := by omega
              have hg := HG.out k hlt
              have hs := rowsB_succ (l := h.l) (fs := h.f) (n := k)
              rw [ht.out, Bool.true_and] at hs
              clear hcf hcl hu
              generalize h.f.getD k [] = zs at *
              generalize hon : h.l.getD k false = on at *
              have HS := Lib.hid hs; have HG' := Lib.hid hg
              clear hs hg hon
              by_cases m3 : 3 < zs.length
              · have HE := Lib.hid (HG'.out (row_long m3))
                generalize zs.length = m at *
                have j0 : (3 : Int) < (m : Int) := by omega
                go_wp2_with fail
                go_ret
                exact ⟨r_b HE.out.symm, HB.out⟩
              · by_cases m0 : on = false ∧ 0 < zs.length
                · obtain ⟨rfl, m0⟩ := m0
                  have HE := Lib.hid (HG'.out (row_dead m0))
                  generalize zs.length = m at *
                  have j0 : (0 : Int) < (m : Int) := by omega
                  have j3 : ¬ (3 : Int) < (m : Int) := by omega
                  go_wp2_with fail
                  go_ret
                  exact ⟨r_b HE.out.symm, HB.out⟩
                · have j3 : ¬ (3 : Int) < (zs.length : Int) := by omega
                  have hok := row_ok (l := h.l) (on := on) (zs := zs) (by omega) (by cases on; (right; intro h0; exact m0 ⟨rfl, h0⟩); (left; rfl))
                  have hbad := row_bad (l := h.l) (on := on) (zs := zs)
                  have hcall := s_l5Names _ _ h.l zs w0 L1.out HU.out (by omega) (by rw [HNL.out]; exact HNM.out)
                  generalize hx : refsB h.l zs = x at *
                  have HX := Lib.hid hx; have HOK := Lib.hid hok; have HBAD := Lib.hid hbad; have HC := Lib.hid hcall
                  clear hx hok hbad hcall
                  have j0 : on = false → ¬ (0 : Int) < (zs.length : Int) := fun h1 h2 => m0 ⟨h1, by omega⟩
                  have J0 := Lib.hid j0
                  clear m0 m3 j0
                  generalize zs.length = m at *
                  cases x
                  · have HE := Lib.hid (HG'.out (HBAD.out rfl))
                    cases on
                    · have j0 := J0.out rfl
                      obtain rfl : m = 0 := by omega
                      clear j0 J0
                      go_wp2_with (go_at_call 88; refine HC.out.mono ?_; rintro e w1 ⟨rfl, rfl⟩)
                      go_ret
                      exact ⟨r_b HE.out.symm, HB.out⟩
                    · go_wp2_with (go_at_call 88; refine HC.out.mono ?_; rintro e w1 ⟨rfl, rfl⟩)
                      go_ret
                      exact ⟨r_b HE.out.symm, HB.out⟩
                  · have HE : Hid (rowsB h.l h.f (k + 1) = true) := by unfold Hid; rw [HS.out]; exact HOK.out rfl
                    cases on
                    · have j0 := J0.out rfl
                      obtain rfl : m = 0 := by omega
                      clear j0 J0
                      go_wp2_with (go_at_call 88; refine HC.out.mono ?_; rintro e w1 ⟨rfl, rfl⟩)
                      go_round
                      case rel => exact ⟨k + 1, by omega, by go_num, HE.out⟩
                      case measure => simp [intOf]; omega
                    · go_wp2_with (go_at_call 88; refine HC.out.mono ?_; rintro e w1 ⟨rfl, rfl⟩)
                      go_round
                      case rel => exact ⟨k + 1, by omega, by go_num, HE.out⟩
                      case measure => simp [intOf]; omega
            · obtain rfl : k = n := by omega
              have HE := Lib.hid (HA.out ht.out)
              go_wp2_with fail
              go_ret
              exact ⟨r_b HE.out.symm, HB.out⟩
      · have HE := Lib.hid (HG4.out (by omega))
        have j4 : (4 : Int) < (nr : Int) := by omega
        clear HF HL HR R0
        go_enter Try.func80, Try.ntmps80
        go_wp2
        go_ret
        exact ⟨r_b HE.out.symm, HB.out⟩
    · have HE := Lib.hid (HLN.out n2)
      have i2 : ((nl : Int) != (n : Int)) = true := by rw [bne_iff_ne]; omega
      have i1 : ¬ (12 : Int) < (n : Int) := by omega
      clear n2 HF HL HR R0
      go_enter Try.func80, Try.ntmps80
      go_wp2
      go_ret
      exact ⟨r_b HE.out.symm, HB.out⟩
end Go.Proofs.Ytkkigoamphkalaa
namespace Go.Proofs.Ytkkigoamphkalaa
open Go.RowKit Ph

structure Que (w : World) (lo b off cap : Nat) (zs : List Int) : Prop where
  lo : lo ≤ b
  lt : b < w.heap.size
  le : zs.length ≤ cap
  at' : ∀ i, i < zs.length → w.cell? ⟨b, off + i, none⟩ = some (.int .i64 (zs.getD i 0))
  there : ∀ i, i < cap → (w.cell? ⟨b, off + i, none⟩).isSome = true
  free : ∀ i, w.frozen? ⟨b, off + i, none⟩ = false
theorem Que.kept {w w' : World} {lo b off cap : Nat} {zs : List Int} (h : Que w lo b off cap zs) (hs : w.heap.size ≤ w'.heap.size) (hb : w'.heap[b]? = w.heap[b]?) : Que w' lo b off cap zs := by
  have hc : ∀ k, w'.cell? ⟨b, k, none⟩ = w.cell? ⟨b, k, none⟩ := fun k => World.cell?_of_block (a := ⟨b, k, none⟩) hb
  have hf : ∀ k, w'.frozen? ⟨b, k, none⟩ = w.frozen? ⟨b, k, none⟩ := fun k => World.frozen?_of_block (a := ⟨b, k, none⟩) hb
  exact ⟨h.lo, Nat.lt_of_lt_of_le h.lt hs, h.le, fun i hi => by rw [hc]; exact h.at' i hi, fun i hi => by rw [hc]; exact h.there i hi, fun i => by rw [hf]; exact h.free i⟩
theorem Que.tail {w : World} {lo b off cap : Nat} {z : Int} {zs : List Int} (h : Que w lo b off cap (z :: zs)) : Que w lo b (off + 1) (cap - 1) zs := by
  have hl := h.le
  simp only [List.length_cons] at hl
  refine ⟨h.lo, h.lt, by omega, fun i hi => ?_, fun i hi => ?_, fun i => ?_⟩
  · have := h.at' (i + 1) (by simp; omega)
    rw [show off + 1 + i = off + (i + 1) by omega, this]
    simp
  · rw [show off + 1 + i = off + (i + 1) by omega]; exact h.there (i + 1) (by omega)
  · rw [show off + 1 + i = off + (i + 1) by omega]; exact h.free (i + 1)
theorem Que.tail0 {w : World} {lo b off cap : Nat} {z : Int} {zs : List Int} (h : Que w lo b off cap (z :: zs)) (h1 : cap = 1) : Que w lo b off (cap - 1) zs := by
  have hl := h.le
  simp only [List.length_cons] at hl
  exact ⟨h.lo, h.lt, by omega, fun i hi => by omega, fun i hi => by omega, h.free⟩
theorem Que.ofOwn {w : World} {lo : Nat} {v : Value} {zs : List Int} (h : Own w lo v zs) (h0 : 0 < zs.length) : ∃ b cap, v = .slice (some ⟨b, 0, none⟩) zs.length cap ∧ Que w lo b 0 cap zs := by
  have h' := h
  unfold Own at h'
  rcases h.2 with ⟨_, h2⟩ | ⟨g, cap, cur, rfl, hg, hh, hle, _, hcs, _⟩
  · omega
  · refine ⟨g, cap, rfl, hg, ?_, hle, fun i hi => ?_, fun i hi => ?_, fun i => ?_⟩
    · exact (owns_lt h' rfl).2
    · rw [Nat.zero_add, h'.cellAt i (by omega), List.getElem?_map, List.getElem?_eq_getElem hi]
      simp [List.getD, List.getElem?_eq_getElem hi]
    · rw [Nat.zero_add]
      have : w.cell? ⟨g, i, none⟩ = cur[i]? := cell_of_row w g i _ _ _ hh
      rw [this]
      simp; omega
    · rw [Nat.zero_add]; exact frozen_of_row w g i _ _ hh
theorem ints_src {w : World} {x : Value} {ys : List Int} (h : IntsAt w x ys) : ∃ ao c, x = .slice ao ys.length c ∧ Src Try.prog 1 24 x ys.length (ys.map (Value.int .i64)) w ∧ (0 < ys.length → ∃ ad, ao = some ad ∧ ∀ j u, (ys.map (Value.int .i64))[j]? = some u → w.cell? (ad.add j) = some u) := by
  obtain ⟨ao, c, rfl, hc⟩ := h
  refine ⟨ao, c, rfl, ?_, fun h0 => ?_⟩
  · cases ao with
    | none =>
      have : ys = [] := by
        cases ys with
        | nil => rfl
        | cons y ys => obtain ⟨b, off, hb, _⟩ := hc (by simp); cases hb
      subst this
      exact Src.ofNil w Try.underlying24 c
    | some ad =>
      refine Src.ofSlice w Try.underlying24 ad _ c _ (by simp) (fun j u hu => ?_) (fun u hu => by obtain ⟨_, _, rfl⟩ := List.mem_map.1 hu; rfl)
      have hj : j < ys.length := by
        have := List.getElem?_eq_some_iff.1 hu
        obtain ⟨h1, _⟩ := this
        simpa using h1
      obtain ⟨b, off, hb, hcc⟩ := hc (by omega)
      cases hb
      have := hcc j hj
      rw [Addr.add_lit]
      rw [this]
      rw [List.getElem?_map, List.getElem?_eq_getElem hj] at hu
      simp only [Option.map_some, Option.some.injEq] at hu
      rw [← hu]; simp [List.getD, List.getElem?_eq_getElem hj]
  · obtain ⟨b, off, rfl, hcc⟩ := hc h0
    refine ⟨_, rfl, fun j u hu => ?_⟩
    have hj : j < ys.length := by
      obtain ⟨h1, _⟩ := List.getElem?_eq_some_iff.1 hu
      simpa using h1
    have := hcc j hj
    rw [Addr.add_lit]
    rw [this]
    rw [List.getElem?_map, List.getElem?_eq_getElem hj] at hu
    simp only [Option.map_some, Option.some.injEq] at hu
    rw [← hu]; simp [List.getD, List.getElem?_eq_getElem hj]
theorem grownBy_setCells (w : World) (g o : Nat) : ∀ (vs : List Value), w.grownBy (w.setCells g o vs) (some g) := by
  intro vs
  induction vs generalizing w o with
  | nil => exact World.grownBy.refl _ _
  | cons v vs ih =>
    have h1 : w.grownBy (w.setCell ⟨g, o, none⟩ v) (some g) := ⟨rfl, rfl, rfl, by rw [World.size_setCell]; exact Nat.le_refl _, fun i _ hne => heap_setCell_other w ⟨g, o, none⟩ i _ (fun e => hne (by rw [e]))⟩
    exact grownBy_trans h1 (ih _ _)
/-- What an append makes of a queue. -/
theorem wl_appQ (w : World) {ops : Array Oper} {rest : List Oper} {o : Oper} {q : Act} {Q : Exit → Act → World → Prop} (hg : o.guard = none) (s x : Operand) (hop : o.op = Op.call { callee := Callee.builtin Builtin.append, args := #[s, x], argTypes := #[24, 24] })
    (lo b off cap : Nat) (zs : List Int) (hs : q.eval s = .slice (some ⟨b, off, none⟩) zs.length cap) (hQ : Que w lo b off cap zs) (y : Value) (ys : List Int) (hx : q.eval x = y) (hy : IntsAt w y ys) (hlo : lo ≤ w.heap.size) (hm : zs.length + ys.length ≤ 1000000)
    (hK : ∀ b' off' cap' w', Que w' lo b' off' cap' (zs ++ ys) → w.grownBy w' (some b) → wpList Try.prog ops Q rest (q.put o.dst (.slice (some ⟨b', off', none⟩) (zs ++ ys).length cap')) w') : wpList Try.prog ops Q (o :: rest) q w := by
  obtain ⟨i, hi, hz0, hz1, hz2⟩ := info_parts info_int
  obtain ⟨ao, c, rfl, hsrc, hcell⟩ := ints_src hy
  by_cases hfit : zs.length + ys.length ≤ cap
  · have hrun := run_append_room_src (P := Try.prog) w 24 24 o.type 3 i Try.underlying24 hi b off zs.length cap _ ys.length (ys.map (Value.int .i64)) (by rw [hz1]; exact hsrc) hfit
      (fun j hj => by rw [hz1, Nat.mul_one, Nat.add_assoc]; exact hQ.there _ (by simp at hj; omega)) (fun j hj => by rw [hz1, Nat.mul_one, Nat.add_assoc]; exact hQ.free _)
    rw [hz1, Nat.mul_one] at hrun
    have hgr := grownBy_setCells w b (off + zs.length) (ys.map (Value.int .i64))
    have hQ' : Que (w.setCells b (off + zs.length) (ys.map (Value.int .i64))) lo b off cap (zs ++ ys) := by
      refine ⟨hQ.lo, Nat.lt_of_lt_of_le hQ.lt hgr.size, by simp; omega, fun k hk => ?_, fun k hk => ?_, fun k => ?_⟩
      · by_cases e : k < zs.length
        · rw [World.cell?_setCells_out b _ _ w ⟨b, off + k, none⟩ (fun _ _ => .inl (by simp only; omega)), hQ.at' k e]
          simp [List.getD, List.getElem?_append_left e]
        · have hk' : k - zs.length < ys.length := by simp at hk; omega
          have := World.cell?_setCells_in b (ys.map (Value.int .i64)) (off + zs.length) w (fun j hj => by rw [Nat.add_assoc]; exact hQ.there _ (by simp at hj; omega)) (k - zs.length) (by simp; omega)
          rw [show off + zs.length + (k - zs.length) = off + k by omega] at this
          rw [this]
          simp [List.getD, List.getElem?_append_right (show zs.length ≤ k by omega), List.getElem?_eq_getElem hk']
      · by_cases e : k < zs.length ∨ zs.length + ys.length ≤ k
        · rw [World.cell?_setCells_out b _ _ w ⟨b, off + k, none⟩ (fun _ _ => by simp only [List.length_map]; omega)]; exact hQ.there k hk
        · have hk' : k - zs.length < ys.length := by omega
          have := World.cell?_setCells_in b (ys.map (Value.int .i64)) (off + zs.length) w (fun j hj => by rw [Nat.add_assoc]; exact hQ.there _ (by simp at hj; omega)) (k - zs.length) (by simp; omega)
          rw [show off + zs.length + (k - zs.length) = off + k by omega] at this
          rw [this]; rfl
      · rw [World.frozen?_setCells]; exact hQ.free k
    refine wpList_plain hg fun K hK' => ?_
    have hh := hK b off cap _ hQ' hgr
    rw [List.length_append] at hh
    unfold Oper.wp
    simp [execOp, hop, resolve, invoke, builtin, hs, hx, hrun, Result.andThen]
    exact hK' _ _ hh
  · obtain ⟨ad, rfl, hnews⟩ := hcell (by have := hQ.le; omega)
    refine wpList_append_grows w hg s x 24 hop 3 i (.int .i64 0) 1 8 Try.underlying24 hi hz0 hz1 hz2 rfl (by omega) (some ⟨b, off, none⟩) zs.length cap (zs.map (Value.int .i64)) hs (fun h => by cases h) (by simp) (fun b' hb' j u hu => ?_) ad ys.length c (ys.map (Value.int .i64)) hx (by simp) hnews (fun u hu => by obtain ⟨_, _, rfl⟩ := List.mem_map.1 hu; rfl) (by omega) (by unfold maxLen; omega) (by omega) ?_
    · cases hb'
      have hj : j < zs.length := by
        obtain ⟨h1, _⟩ := List.getElem?_eq_some_iff.1 hu
        simpa using h1
      have := hQ.at' j hj
      rw [Addr.add_lit]
      rw [this]
      rw [List.getElem?_map, List.getElem?_eq_getElem hj] at hu
      simp only [Option.map_some, Option.some.injEq] at hu
      rw [← hu]; simp [List.getD, List.getElem?_eq_getElem hj]
    · intro v' w' hown hgr
      have ho : Own w' w.heap.size v' (zs ++ ys) := by unfold Own; rw [List.length_append, List.map_append]; exact hown
      obtain ⟨b', cap', rfl, hq⟩ := Que.ofOwn ho (by rw [List.length_append]; have := hQ.le; omega)
      exact hK b' 0 cap' w' ⟨Nat.le_trans hlo hq.lo, hq.lt, hq.le, hq.at', hq.there, hq.free⟩ ⟨hgr.os, hgr.tape, hgr.output, hgr.size, fun i hi _ => hgr.block i hi (by simp)⟩
end Go.Proofs.Ytkkigoamphkalaa
