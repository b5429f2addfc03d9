/- What the laws rest on, part 1. -/
import Derived.Test.YtejaebmbhcgngaaProg
import Derived.WalkKit
import Derived.WalkSpells
import Derived.WalkLawsBesides
import Derived.Lib.Hide
import Derived.Deep.QuietTactic
import Derived.BigQuiet
import Derived.Deep.RegionHeld3
import Derived.RegionTactic
import Derived.Laws.EntriesVeiled
import Derived.Deep.LoopGhost
import Derived.Deep.MidRow
import Derived.Deep.Cut
import Derived.Deep.Upon
import Derived.Maps.AppendAt
namespace Go.Proofs.Ytejaebmbhcgngaa
open Go.RowKit

theorem r_i {a a' : Int} (h : a = a') : Ending.returned (.int .i64 a) = .returned (.int .i64 a') := by rw [h]
theorem r_b {a a' : Bool} (h : a = a') : Ending.returned (.bool a) = .returned (.bool a') := by rw [h]
/-- The slice value v reads, in the world w, as the list zs of ints. -/
def IntsAt (w : World) (v : Value) (zs : List Int) : Prop :=
  ∃ a cap, v = .slice a zs.length cap ∧ (0 < zs.length → ∃ b off, a = some ⟨b, off, none⟩ ∧ ∀ i, i < zs.length → w.cell? ⟨b, off + i, none⟩ = some (.int .i64 (zs.getD i 0)))
theorem IntsAt.below {w w' : World} {v : Value} {zs : List Int} (h : IntsAt w v zs) (hb : Below w.heap.size w w') : IntsAt w' v zs := by
  obtain ⟨a, cap, hv, hc⟩ := h
  refine ⟨a, cap, hv, fun h0 => ?_⟩
  obtain ⟨b, off, ha, hc⟩ := hc h0
  refine ⟨b, off, ha, fun i hi => ?_⟩
  have h1 := hc i hi
  rw [hb.cell (p := ⟨b, off + i, none⟩) (block_lt_of_cell h1)]
  exact h1
/-- A row of ints that the call itself has made. -/
def Own (w : World) (B : Nat) (v : Value) (zs : List Int) : Prop := w.ownsRow B 3 1 v zs.length (zs.map (Value.int .i64))
theorem Own.ints {w : World} {B : Nat} {v : Value} {zs : List Int} (h : Own w B v zs) : IntsAt w v zs := by
  have h' := h
  obtain ⟨h1, h2⟩ := h
  rcases h2 with ⟨rfl, h2⟩ | ⟨g, cap, cur, rfl, hg, hh, _⟩
  · exact ⟨none, 0, by rw [h2], fun h => by omega⟩
  · refine ⟨_, cap, rfl, fun _ => ⟨g, 0, rfl, fun i hi => ?_⟩⟩
    rw [Nat.zero_add, World.ownsRow.cellAt h' i (by omega), List.getElem?_map, List.getElem?_eq_getElem hi]
    simp [List.getD, List.getElem?_eq_getElem hi]
theorem Own.below {w w' : World} {B : Nat} {v : Value} {zs : List Int} (h : Own w B v zs) (hb : Below w.heap.size w w') : Own w' B v zs := by
  obtain ⟨h1, h2⟩ := h
  refine ⟨h1, ?_⟩
  rcases h2 with h2 | ⟨g, cap, cur, hv, hg, hh, r⟩
  · exact .inl h2
  · have hlt : g < w.heap.size := by
      by_cases e : g < w.heap.size
      · exact e
      · have hn : w.heap[g]? = none := by simp; omega
        simp [hn] at hh
    exact .inr ⟨g, cap, cur, hv, hg, by rw [hb.block g hlt]; exact hh, r⟩
theorem Own.drewN {w : World} {B : Nat} {v : Value} {zs : List Int} (h : Own w B v zs) (n : Nat) : Own (w.drewN n) B v zs := h
theorem Own.mono {w : World} {B B' : Nat} {v : Value} {zs : List Int} (h : Own w B v zs) (hB : B' ≤ B) : Own w B' v zs := by
  obtain ⟨h1, h2⟩ := h
  refine ⟨h1, ?_⟩
  rcases h2 with h2 | ⟨g, cap, cur, hv, hg, r⟩
  · exact .inl h2
  · exact .inr ⟨g, cap, cur, hv, by omega, r⟩
theorem below_drewN {B : Nat} {a w : World} (h : Below B a w) (n : Nat) : Below B a (w.drewN n) := h.trans ⟨rfl, rfl, rfl, Nat.le_refl _, fun _ _ => rfl⟩
theorem drewN_refl (w : World) : ∃ n, w = w.drewN n := ⟨0, rfl⟩
theorem take_eq_succ {za zb : List Int} {k : Nat} (h : za.take k = zb.take k) (ha : k < za.length) (hb : k < zb.length) (e : za.getD k 0 = zb.getD k 0) : za.take (k + 1) = zb.take (k + 1) := by
  rw [List.take_succ_eq_append_getElem ha, List.take_succ_eq_append_getElem hb, h]
  simp only [List.getD, List.getElem?_eq_getElem ha, List.getElem?_eq_getElem hb, Option.getD_some] at e
  rw [e]
theorem ne_of_getD {za zb : List Int} {k : Nat} (e : ¬ za.getD k 0 = zb.getD k 0) : ¬ za = zb := fun h => e (by rw [h])

theorem take_all_eq {za zb : List Int} {n : Nat} (ha : za.length = n) (hb : zb.length = n) (h : za.take n = zb.take n) : za = zb := by
  rwa [List.take_of_length_le (by omega), List.take_of_length_le (by omega)] at h


set_option maxHeartbeats 400000 in
theorem c_eqIntS (va vb : Value) (za zb : List Int) (w : World) (hA : IntsAt w va za) (hB : IntsAt w vb zb) (hm : za.length ≤ 9223372036854775806) :
    Calls Try.prog 35 #[va, vb] w fun e w' => e = .returned (.bool (decide (za = zb))) ∧ ∃ n, w' = w.drewN n := by
  obtain ⟨a, ca, rfl, hA⟩ := hA
  obtain ⟨b, cb, rfl, hB⟩ := hB
  by_cases hl : za.length = zb.length
  · rw [← hl] at hB ⊢
    generalize hn : za.length = n at *
    have HN := Lib.hid hn; have HL := Lib.hid hl; clear hn hl
    have hbq : ((n : Int) != (n : Int)) = false := by simp
    by_cases h0 : n = 0
    · subst h0
      obtain rfl : za = [] := List.eq_nil_of_length_eq_zero HN.out
      obtain rfl : zb = [] := List.eq_nil_of_length_eq_zero HL.out.symm
      clear hA hB
      go_enter Try.func35, Try.ntmps35
      go_wp2
      refine wp_loop_rounds 1 ?_
      rw [rounds_succ]
      go_wp2
      go_ret
      exact ⟨rfl, drewN_refl _⟩
    · obtain ⟨ba, oa, rfl, hca⟩ := hA (by omega)
      obtain ⟨bb, ob, rfl, hcb⟩ := hB (by omega)
      clear hA hB
      have HCA := Lib.hid hca; have HCB := Lib.hid hcb; clear hca hcb
      go_enter Try.func35, Try.ntmps35
      go_wp2
      go_loopw [5] (fun i wr => ∃ k : Nat, k ≤ n ∧ i = .int .i64 k ∧ Hid (za.take k = zb.take k) ∧ ∃ n, wr = w.drewN n) (fun i _ => n - (intOf i).toNat)
      case atStart => exact ⟨0, Nat.zero_le _, rfl, by simp [Hid], drewN_refl _⟩
      case round =>
        obtain ⟨k, hk, rfl, ht, nd, rfl⟩ := hrel
        by_cases hlt : k < n
        · have q1 := HCA.out k hlt
          have q2 := HCB.out k hlt
          have i1 : (k : Int) < (n : Int) := by omega
          generalize hx : za.getD k 0 = x at q1
          generalize hy : zb.getD k 0 = y at q2
          have HX := Lib.hid hx; have HY := Lib.hid hy; clear hx hy
          by_cases exy : x = y
          · subst exy
            go_wp2
            go_quiet (fail)
            go_wp2
            go_roundw
            case rel => exact ⟨k + 1, by omega, by go_num, take_eq_succ ht.out (by rw [HN.out]; exact hlt) (by rw [← HL.out]; exact hlt) (HX.out.trans HY.out.symm), nd + nq, by simp⟩
            case measure => simp [intOf]; omega
          · have hne : (x != y) = true := by rw [bne_iff_ne]; exact exy
            have HNE : Hid (decide (za = zb) = false) := decide_eq_false (ne_of_getD (k := k) (by rw [HX.out, HY.out]; exact exy))
            clear exy
            go_wp2
            go_quiet (fail)
            go_wp2
            go_ret
            exact ⟨r_b HNE.out.symm, nd + nq, by simp⟩
        · have HE : Hid (decide (za = zb) = true) := decide_eq_true (take_all_eq (n := k) (by rw [HN.out]; omega) (by rw [← HL.out]; omega) ht.out)
          go_wp2
          go_ret
          exact ⟨r_b HE.out.symm, _, rfl⟩
  · generalize hna : za.length = na at *
    generalize hnb : zb.length = nb at *
    have hbq : ((na : Int) != (nb : Int)) = true := by rw [bne_iff_ne]; omega
    have HN : Hid (decide (za = zb) = false) := decide_eq_false (fun h => hl (by rw [← hna, ← hnb, h]))
    clear hl hA hB hna hnb
    go_enter Try.func35, Try.ntmps35
    go_wp2
    go_ret
    exact ⟨r_b HN.out.symm, drewN_refl _⟩

theorem grownBy_trans {a b c : World} {r : Option Nat} (h : a.grownBy b r) (k : b.grownBy c r) : a.grownBy c r :=
  ⟨k.os.trans h.os, k.tape.trans h.tape, k.output.trans h.output, Nat.le_trans h.size k.size, fun i hi hr => (k.block i (Nat.lt_of_lt_of_le hi h.size) hr).trans (h.block i hi hr)⟩
/-- n numbers, from k on. -/
def upFrom (k : Int) (n : Nat) : List Int := (List.range n).map (fun i : Nat => k + (i : Int))
theorem upFrom_length (k : Int) (n : Nat) : (upFrom k n).length = n := by simp [upFrom]
theorem upFrom_getD (k : Int) {n i : Nat} (h : i < n) : (upFrom k n).getD i 0 = k + i := by simp [upFrom, List.getD, h]
/-- What lies in a row of which the first j have been marked. -/
def markTo (k : Int) (zs : List Int) (j : Nat) : List Int := upFrom k j ++ zs.drop j
theorem markTo_length (k : Int) (zs : List Int) {j : Nat} (h : j ≤ zs.length) : (markTo k zs j).length = zs.length := by simp [markTo, upFrom_length]; omega
theorem markTo_zero (k : Int) (zs : List Int) : markTo k zs 0 = zs := by simp [markTo, upFrom]
theorem markTo_all (k : Int) (zs : List Int) : markTo k zs zs.length = upFrom k zs.length := by simp [markTo]
theorem markTo_set (k : Int) (zs : List Int) {j : Nat} (h : j < zs.length) : (markTo k zs j).set j (k + j) = markTo k zs (j + 1) := by
  unfold markTo
  have e : zs.drop j = zs[j] :: zs.drop (j + 1) := (List.drop_eq_getElem_cons h)
  rw [e, List.set_append_right _ _ (by rw [upFrom_length]; omega), upFrom_length, Nat.sub_self, List.set_cons_zero]
  simp [upFrom, List.range_succ]


set_option maxHeartbeats 400000 in
theorem c_markIntS (v : Value) (zs : List Int) (B : Nat) (k : Int) (w : World) (hown : Own w B v zs) (h0 : 0 ≤ k) (hm : k + zs.length ≤ 9223372036854775806) :
    Calls Try.prog 36 #[v, .int .i64 k] w fun e w' => e = .returned (.int .i64 (k + zs.length)) ∧ Own w' B v (upFrom k zs.length) ∧ w.grownBy w' v.ownBlock := by
  have hv : (v = .slice none 0 0 ∧ zs = []) ∨ ∃ g cap, v = .slice (some ⟨g, 0, none⟩) zs.length cap := by
    rcases hown.2 with ⟨h1, h2⟩ | ⟨g, cap, cur, h1, _⟩
    · exact .inl ⟨h1, List.eq_nil_of_length_eq_zero h2⟩
    · exact .inr ⟨g, cap, h1⟩
  rcases hv with ⟨rfl, rfl⟩ | ⟨g, cap, rfl⟩
  · go_enter Try.func36, Try.ntmps36
    go_wp2
    refine wp_loop_rounds 1 ?_
    rw [rounds_succ]
    go_wp2
    go_ret
    exact ⟨r_i (by simp), hown, World.grownBy.refl _ _⟩
  · have HO := Lib.hid hown; clear hown
    generalize hn : zs.length = n at *
    have HN := Lib.hid hn; clear hn
    go_enter Try.func36, Try.ntmps36
    go_wp2
    go_loopw [1, 5] (fun kk i wr => ∃ j : Nat, j ≤ n ∧ i = .int .i64 j ∧ kk = .int .i64 (k + j) ∧ Own wr B (.slice (some ⟨g, 0, none⟩) n cap) (markTo k zs j) ∧ w.grownBy wr (some g)) (fun _ i _ => n - (intOf i).toNat)
    case atStart => exact ⟨0, Nat.zero_le _, rfl, by simp, by rw [markTo_zero]; exact HO.out, World.grownBy.refl _ _⟩
    case round =>
      obtain ⟨j, hj, rfl, rfl, hown, hg⟩ := hrel
      by_cases hlt : j < n
      · have hlen := markTo_length k zs (j := j) (by rw [HN.out]; exact hj)
        have hown' : wr.ownsRow B 3 1 (.slice (some ⟨g, 0, none⟩) n cap) n ((markTo k zs j).map (Value.int .i64)) := by
          have := hown; unfold Own at this; rwa [hlen, HN.out] at this
        have hfr := hown'.frozenAt j
        obtain ⟨x, hx⟩ : ∃ x, wr.cell? ⟨g, j, none⟩ = some x := by
          rw [hown'.cellAt j (by omega), List.getElem?_map, List.getElem?_eq_getElem (by rw [hlen, HN.out]; exact hlt)]
          exact ⟨_, rfl⟩
        obtain ⟨s1, s2⟩ := hown'.stored j (.int .i64 (k + j))
        have S1 : Hid (Own (wr.setCell ⟨g, j, none⟩ (.int .i64 (k + j))) B (.slice (some ⟨g, 0, none⟩) n cap) (markTo k zs (j + 1))) := by
          unfold Hid Own
          rw [markTo_length k zs (by rw [HN.out]; omega), HN.out, ← markTo_set k zs (by rw [HN.out]; exact hlt), List.map_set]
          exact s1
        have S2 := Lib.hid s2
        clear s1 s2 hown hown' hlen
        go_wp2
        go_roundw
        case rel => exact ⟨j + 1, by omega, by go_num, by go_num, S1.out, grownBy_trans hg S2.out⟩
        case measure => simp [intOf]; omega
      · obtain rfl : j = n := by omega
        go_wp2
        go_ret
        exact ⟨rfl, by rw [← HN.out, ← markTo_all, HN.out]; exact hown, hg⟩


set_option maxHeartbeats 400000 in
theorem c_heldIntS (v : Value) (n : Nat) (k : Int) (w : World) (hA : IntsAt w v (upFrom k n)) (h0 : 0 ≤ k) (hm : k + n ≤ 9223372036854775806) :
    Calls Try.prog 37 #[v, .int .i64 k] w fun e w' => e = .returned (.int .i64 (k + n)) ∧ w = w' := by
  obtain ⟨a, ca, rfl, hA⟩ := hA
  rw [upFrom_length] at hA ⊢
  by_cases hz : n = 0
  · subst hz
    clear hA
    go_enter Try.func37, Try.ntmps37
    go_wp2
    refine wp_loop_rounds 1 ?_
    rw [rounds_succ]
    go_wp2
    go_ret
    exact ⟨r_i (by simp), rfl⟩
  · obtain ⟨b, off, rfl, hc⟩ := hA (by omega)
    clear hA
    have HC := Lib.hid hc; clear hc
    go_enter Try.func37, Try.ntmps37
    go_wp2
    go_loop [1, 5] (fun kk i => ∃ j : Nat, j ≤ n ∧ i = .int .i64 j ∧ kk = .int .i64 (k + j)) (fun _ i => n - (intOf i).toNat)
    case atStart => exact ⟨0, Nat.zero_le _, rfl, by simp⟩
    case round =>
      obtain ⟨j, hj, rfl, rfl⟩ := hrel
      by_cases hlt : j < n
      · have q := HC.out j hlt
        rw [upFrom_getD k hlt] at q
        go_wp2
        go_round
        case rel => exact ⟨j + 1, by omega, by go_num, by go_num⟩
        case measure => simp [intOf]; omega
      · obtain rfl : j = n := by omega
        go_wp2
        go_ret
        exact ⟨rfl, rfl⟩

/-- What lies in a row of zeros of which the first j have been filled. -/
def fillTo (zs : List Int) (j : Nat) : List Int := zs.take j ++ List.replicate (zs.length - j) 0
theorem fillTo_length (zs : List Int) {j : Nat} (h : j ≤ zs.length) : (fillTo zs j).length = zs.length := by simp [fillTo]; omega
theorem fillTo_zero (zs : List Int) : fillTo zs 0 = List.replicate zs.length 0 := by simp [fillTo]
theorem fillTo_all (zs : List Int) : fillTo zs zs.length = zs := by simp [fillTo]
theorem fillTo_set (zs : List Int) {j : Nat} (h : j < zs.length) : (fillTo zs j).set j (zs.getD j 0) = fillTo zs (j + 1) := by
  unfold fillTo
  have e : List.replicate (zs.length - j) (0 : Int) = 0 :: List.replicate (zs.length - (j + 1)) 0 := by
    rw [show zs.length - j = (zs.length - (j + 1)) + 1 by omega, List.replicate_succ]
  rw [e, List.set_append_right _ _ (by simp; omega), List.length_take, Nat.min_eq_left (by omega), Nat.sub_self, List.set_cons_zero, List.take_succ_eq_append_getElem h]
  have e2 : zs.getD j 0 = zs[j] := by simp [List.getD, List.getElem?_eq_getElem h]
  rw [e2, List.append_assoc]
  rfl

theorem info_int : (Try.prog.info? 3).map (fun i => (i.zero, i.size, i.bytes)) = some (some (.int .i64 0), 1, 8) := by kernel_rfl

set_option maxHeartbeats 400000 in
theorem c_toIntS (v : Value) (zs : List Int) (w : World) (hA : IntsAt w v zs) (hm : zs.length ≤ 1048576) :
    Calls Try.prog 33 #[v] w fun e w' => ∃ v', e = .returned v' ∧ Own w' w.heap.size v' zs ∧ Below w.heap.size w w' := by
  obtain ⟨i0, hi, hz0, hz1, hz2⟩ := info_parts info_int
  obtain ⟨a, ca, rfl, hA⟩ := hA
  generalize hn : zs.length = n at *
  have HN := Lib.hid hn; clear hn
  have HA := Lib.hid hA; clear hA
  go_enter Try.func33, Try.ntmps33
  go_wp2_with (refine wpList_make_full _ rfl _ _ 22 rfl w.heap.size 3 i0 (.int .i64 0) 1 Try.underlying22 hi hz0 hz1 .i64 .i64 _ _ n rfl rfl rfl rfl (by rw [hz2]; omega) (by unfold maxLen; omega) (Nat.le_refl _) ?_; intro w1 hown hgr; rw [Nat.mul_one, show (Value.int .i64 0).cells = #[.int .i64 0] from rfl, toList_madeCells_one] at hown; have hb := (Below.refl w.heap.size w).grown hgr (Nat.le_refl _) (fun k hk => by cases hk); have HO := Lib.hid hown; clear hown hgr)
  go_loopw [4] (fun i wr => ∃ j : Nat, j ≤ n ∧ i = .int .i64 j ∧ Own wr w.heap.size (.slice (some ⟨w.heap.size, 0, none⟩) n n) (fillTo zs j) ∧ Below w.heap.size w wr) (fun i _ => n - (intOf i).toNat)
  case atStart =>
    refine ⟨0, Nat.zero_le _, rfl, ?_, hb⟩
    unfold Own
    rw [fillTo_length zs (Nat.zero_le _), HN.out, fillTo_zero, HN.out, List.map_replicate]
    exact HO.out
  case round =>
    obtain ⟨j, hj, rfl, hown, hbr⟩ := hrel
    by_cases hlt : j < n
    · obtain ⟨b, off, ha, hc⟩ := HA.out (by omega)
      have hq := hc j hlt
      have q : wr.cell? ⟨b, off + j, none⟩ = some (.int .i64 (zs.getD j 0)) := (hbr.cell (p := ⟨b, off + j, none⟩) (block_lt_of_cell hq)).trans hq
      clear hq hc
      have hlen := fillTo_length zs (j := j) (by rw [HN.out]; exact hj)
      have hown' : wr.ownsRow w.heap.size 3 1 (.slice (some ⟨w.heap.size, 0, none⟩) n n) n ((fillTo zs j).map (Value.int .i64)) := by
        have := hown; unfold Own at this; rwa [hlen, HN.out] at this
      have hfr := hown'.frozenAt j
      obtain ⟨x, hx⟩ : ∃ x, wr.cell? ⟨w.heap.size, j, none⟩ = some x := by
        rw [hown'.cellAt j (by omega), List.getElem?_map, List.getElem?_eq_getElem (by rw [hlen, HN.out]; exact hlt)]
        exact ⟨_, rfl⟩
      obtain ⟨s1, s2⟩ := hown'.stored j (.int .i64 (zs.getD j 0))
      have S1 : Hid (Own (wr.setCell ⟨w.heap.size, j, none⟩ (.int .i64 (zs.getD j 0))) w.heap.size (.slice (some ⟨w.heap.size, 0, none⟩) n n) (fillTo zs (j + 1))) := by
        unfold Hid Own
        rw [fillTo_length zs (by rw [HN.out]; omega), HN.out, ← fillTo_set zs (by rw [HN.out]; exact hlt), List.map_set]
        exact s1
      have S2 := Lib.hid (hbr.setCell (p := ⟨w.heap.size, j, none⟩) (Nat.le_refl _) (.int .i64 (zs.getD j 0)))
      clear s1 s2 hown hown' hlen
      generalize hz : zs.getD j 0 = z at *
      clear hz
      subst ha
      go_wp2
      go_roundw
      case rel => exact ⟨j + 1, by omega, by go_num, S1.out, S2.out⟩
      case measure => simp [intOf]; omega
    · obtain rfl : j = n := by omega
      go_wp2
      go_ret
      refine ⟨_, rfl, ?_, hbr⟩
      have := hown
      rw [← HN.out, fillTo_all, HN.out] at this
      exact this
end Go.Proofs.Ytejaebmbhcgngaa
namespace Go.Proofs.Ytejaebmbhcgngaa
open Go.RowKit

/-- The block g, of type T, holds the cells cs. -/
def Row (w : World) (g : Nat) (T : TypeId) (cs : Array Value) : Prop := w.heap[g]? = some (.cells cs T (0, 0))
theorem Row.cell {w : World} {g : Nat} {T : TypeId} {cs : Array Value} (h : Row w g T cs) (k : Nat) : w.cell? ⟨g, k, none⟩ = cs[k]? := cell_of_row w g k _ _ _ h
theorem Row.frozen {w : World} {g : Nat} {T : TypeId} {cs : Array Value} (h : Row w g T cs) (k : Nat) : w.frozen? ⟨g, k, none⟩ = false := frozen_of_row w g k _ _ h
theorem Row.lt {w : World} {g : Nat} {T : TypeId} {cs : Array Value} (h : Row w g T cs) : g < w.heap.size := by
  by_cases e : g < w.heap.size
  · exact e
  · have hn : w.heap[g]? = none := by simp; omega
    rw [Row, hn] at h; cases h
theorem Row.below {w w' : World} {g : Nat} {T : TypeId} {cs : Array Value} (h : Row w g T cs) (hb : Below w.heap.size w w') : Row w' g T cs := by
  unfold Row; rw [hb.block g h.lt]; exact h
theorem Row.alloc {w : World} {g : Nat} {T : TypeId} {cs : Array Value} (h : Row w g T cs) (o : Obj) : Row (w.alloc o) g T cs := by
  unfold Row; rw [Below.heap_alloc w o g h.lt]; exact h
theorem Row.new (w : World) (T : TypeId) (cs : Array Value) : Row (w.alloc (.cells cs T)) w.heap.size T cs := heap_alloc_new _ _
theorem Row.new1 (w : World) (o : Obj) (T : TypeId) (cs : Array Value) : Row ((w.alloc o).alloc (.cells cs T)) (w.heap.size + 1) T cs := by
  have := Row.new (w.alloc o) T cs; simpa using this
theorem Row.new2 (w : World) (o o' : Obj) (T : TypeId) (cs : Array Value) : Row (((w.alloc o).alloc o').alloc (.cells cs T)) (w.heap.size + 1 + 1) T cs := by
  have := Row.new ((w.alloc o).alloc o') T cs; simpa using this
theorem Row.other {w : World} {g : Nat} {T : TypeId} {cs : Array Value} (h : Row w g T cs) (a : Addr) (ha : g ≠ a.block) (x : Value) : Row (w.setCell a x) g T cs := by
  unfold Row; rw [heap_setCell_other w a g _ ha]; exact h
theorem Row.set {w : World} {g : Nat} {T : TypeId} {cs : Array Value} (h : Row w g T cs) (k : Nat) (x : Value) : Row (w.setCell ⟨g, k, none⟩ x) g T (cs.setIfInBounds k x) := heap_setCell_same w g k _ _ _ h
theorem Row.put {w : World} {g : Nat} {T : TypeId} {cs : Array Value} (h : Row w g T cs) (ds : Array Value) : Row (w.setRow g ds) g T ds := setRow_heap w g cs ds T (0, 0) h
theorem Row.putOther {w : World} {g g' : Nat} {T : TypeId} {cs : Array Value} (h : Row w g T cs) (ds : Array Value) (hn : g ≠ g') : Row (w.setRow g' ds) g T cs := by
  unfold Row; rw [setRow_other w g' g ds hn]; exact h
theorem below_setRow {B g : Nat} {w0 w : World} (hb : Below B w0 w) (hBg : B ≤ g) (cs : Array Value) : Below B w0 (w.setRow g cs) :=
  ⟨hb.os, hb.tape, hb.output, by rw [size_setRow]; exact hb.size, fun i hi => (setRow_other w g i cs (by omega)).trans (hb.block i hi)⟩
theorem below_drew {B : Nat} {w0 w : World} (hb : Below B w0 w) : Below B w0 w.drew := hb.trans ⟨rfl, rfl, rfl, Nat.le_refl _, fun _ _ => rfl⟩
theorem res_row {P : Program} {fn : Func} {p : Tmp} {ty : TypeId} (h : fn.results = #[.cell p ty]) {tmps : Array Value} {w : World} {g : Nat} {t : TypeId} {cs : Array Value} {d : TypeDesc} (hg : Row w g t cs)
    (hp : tmps.getD p undef = .pointer (some ⟨g, 0, none⟩)) (hu : P.underlying ty = some d) (hd : (match d with | .struct _ | .array _ _ => true | _ => false) = true) (hi : (P.info? ty).map (·.size) = some cs.size) :
    (results fn tmps).run P w = .ok (.agg cs) w := results_cell_row h tmps w g t cs (0, 0) d hp hg hu hd hi
theorem res_row_slot {P : Program} {fn : Func} {p q : Tmp} {ty : TypeId} (h : fn.results = #[.cell p ty, .tmp q]) {tmps : Array Value} {w : World} {g : Nat} {t : TypeId} {cs : Array Value} {d : TypeDesc} {v : Value} (hg : Row w g t cs)
    (hp : tmps.getD p undef = .pointer (some ⟨g, 0, none⟩)) (hq : tmps.getD q undef = v) (hu : P.underlying ty = some d) (hd : (match d with | .struct _ | .array _ _ => true | _ => false) = true) (hi : (P.info? ty).map (·.size) = some cs.size) :
    (results fn tmps).run P w = .ok (.tuple #[.agg cs, v]) w := by
  have hp' : tmps[p]?.getD undef = .pointer (some ⟨g, 0, none⟩) := by simpa using hp
  have hq' : tmps[q]?.getD undef = v := by simpa using hq
  simp [results, h, hp', hq', asAddr, run_loadVar_row w g t ty cs (0, 0) d hg hu hd hi]
theorem Row.grown {w w1 : World} {g : Nat} {T : TypeId} {cs : Array Value} (h : Row w g T cs) (hg : w.grownBy w1 none) : Row w1 g T cs := (hg.block g h.lt (by simp)).trans h
theorem Row.grownBy {w w1 : World} {g : Nat} {T : TypeId} {cs : Array Value} {c : Option Nat} (h : Row w g T cs) (hg : w.grownBy w1 c) (hn : c ≠ some g) : Row w1 g T cs := (hg.block g h.lt (fun e => hn e.symm)).trans h
theorem bst {B : Nat} {w w1 w2 : World} (h : Below B w w1) (k : Below w1.heap.size w1 w2) (hB : B ≤ w1.heap.size) : Below B w w2 := h.trans (k.mono hB)
end Go.Proofs.Ytejaebmbhcgngaa
namespace Go.Proofs.Ytejaebmbhcgngaa.Ph

/-- How many are not marked yet. -/
def left (S : List Bool) : Nat := S.count false
theorem left_set {S : List Bool} {z : Nat} (hz : z < S.length) (h : S.getD z false = false) : left (S.set z true) + 1 = left S := by
  unfold left
  induction S generalizing z with
  | nil => simp at hz
  | cons b S ih =>
    cases z with
    | zero =>
      have hb : b = false := by simpa using h
      subst hb
      simp
    | succ z =>
      have h1 := ih (z := z) (by simpa using hz) (by simpa using h)
      cases b <;> simp <;> omega
end Go.Proofs.Ytejaebmbhcgngaa.Ph
namespace Go.Proofs.Ytejaebmbhcgngaa
open Go.RowKit Ph

/-- The slice value v reads, in the world w, as the list bs of bools. -/
def BoolsAt (w : World) (v : Value) (bs : List Bool) : Prop :=
  ∃ a cap, v = .slice a bs.length cap ∧ (0 < bs.length → ∃ b off, a = some ⟨b, off, none⟩ ∧ ∀ i, i < bs.length → w.cell? ⟨b, off + i, none⟩ = some (.bool (bs.getD i false)))
/-- The slice value v reads, in the world w, as the list fs of lists of ints. -/
def RowsAt (w : World) (v : Value) (fs : List (List Int)) : Prop :=
  ∃ a cap, v = .slice a fs.length cap ∧ (0 < fs.length → ∃ b off, a = some ⟨b, off, none⟩ ∧ ∀ i, i < fs.length → ∃ u, w.cell? ⟨b, off + i, none⟩ = some u ∧ IntsAt w u (fs.getD i []))
theorem RowsAt.below {w w' : World} {v : Value} {fs : List (List Int)} (h : RowsAt w v fs) (hb : Below w.heap.size w w') : RowsAt w' v fs := by
  obtain ⟨a, cap, hv, hc⟩ := h
  refine ⟨a, cap, hv, fun h0 => ?_⟩
  obtain ⟨b, off, ha, hc⟩ := hc h0
  refine ⟨b, off, ha, fun i hi => ?_⟩
  obtain ⟨u, h1, h2⟩ := hc i hi
  rw [hb.cell (p := ⟨b, off + i, none⟩) (block_lt_of_cell h1)]
  exact ⟨u, h1, h2.below hb⟩
theorem IntsAt.shape {w : World} {v : Value} {zs : List Int} (h : IntsAt w v zs) : ∃ a c, v = .slice a zs.length c := by obtain ⟨a, c, h, _⟩ := h; exact ⟨a, c, h⟩
theorem IntsAt.at' {w : World} {a : Option Addr} {n c : Nat} {zs : List Int} (h : IntsAt w (.slice a n c) zs) (h0 : 0 < n) : ∃ b off, a = some ⟨b, off, none⟩ ∧ ∀ i, i < n → w.cell? ⟨b, off + i, none⟩ = some (.int .i64 (zs.getD i 0)) := by
  obtain ⟨a', c', hv, hc⟩ := h
  cases hv
  exact hc h0
theorem cellBelow {w w' : World} {p : Addr} {x : Value} {B : Nat} (hb : Below B w w') (hB : w.heap.size ≤ B) (h : w.cell? p = some x) : w'.cell? p = some x := (hb.cell (Nat.lt_of_lt_of_le (block_lt_of_cell h) hB)).trans h
theorem below1 (w : World) (o : Obj) : Below w.heap.size w (w.alloc o) := (Below.refl w.heap.size w).alloc (Nat.le_refl _) o
theorem owns_lt {w : World} {B : Nat} {T : TypeId} {v : Value} {n : Nat} {xs : List Value} (h : w.ownsRow B T 1 v n xs) {g : Nat} (hg : v.ownBlock = some g) : B ≤ g ∧ g < w.heap.size := by
  rcases h.2 with ⟨rfl, _⟩ | ⟨g', cap, cur, rfl, h1, h2, _⟩
  · cases hg
  · cases hg
    refine ⟨h1, ?_⟩
    by_cases e : g' < w.heap.size
    · exact e
    · have hn : w.heap[g']? = none := by simp; omega
      rw [hn] at h2; cases h2
/-- Blocks beyond lo .. hi are as they were. -/
structure Chg (lo hi : Nat) (w w' : World) : Prop where
  os : w'.os = w.os
  tape : w'.tape = w.tape
  output : w'.output = w.output
  size : w.heap.size ≤ w'.heap.size
  block : ∀ i, i < w.heap.size → (i < lo ∨ hi ≤ i) → w'.heap[i]? = w.heap[i]?
theorem Chg.trans {lo hi : Nat} {a b c : World} (h : Chg lo hi a b) (k : Chg lo hi b c) : Chg lo hi a c := ⟨k.os.trans h.os, k.tape.trans h.tape, k.output.trans h.output, Nat.le_trans h.size k.size, fun i hi hr => (k.block i (Nat.lt_of_lt_of_le hi h.size) hr).trans (h.block i hi hr)⟩
theorem Chg.of_below {lo hi : Nat} {w w' : World} (h : Below w.heap.size w w') : Chg lo hi w w' := ⟨h.os, h.tape, h.output, h.size, fun i hi _ => h.block i hi⟩
theorem Chg.of_grown {lo hi : Nat} {w w' : World} {row : Option Nat} (h : w.grownBy w' row) (hr : ∀ g, row = some g → lo ≤ g ∧ g < hi) : Chg lo hi w w' := ⟨h.os, h.tape, h.output, h.size, fun i hi hx => h.block i hi (fun e => by have := hr i e.symm; omega)⟩
theorem owns_block {w w' : World} {B : Nat} {T : TypeId} {v : Value} {n : Nat} {xs : List Value} (h : w.ownsRow B T 1 v n xs) (hb : ∀ g, v.ownBlock = some g → w'.heap[g]? = w.heap[g]?) : w'.ownsRow B T 1 v n xs := by
  refine ⟨h.1, ?_⟩
  rcases h.2 with h2 | ⟨g, cap, cur, hv, hg, hh, r⟩
  · exact .inl h2
  · exact .inr ⟨g, cap, cur, hv, hg, by rw [hb g (by rw [hv]; rfl)]; exact hh, r⟩
theorem owns_mono {w : World} {B B' : Nat} {T : TypeId} {v : Value} {n : Nat} {xs : List Value} (h : w.ownsRow B T 1 v n xs) (hB : ∀ g, v.ownBlock = some g → B' ≤ g) : w.ownsRow B' T 1 v n xs := by
  refine ⟨h.1, ?_⟩
  rcases h.2 with h2 | ⟨g, cap, cur, hv, hg, hh, r⟩
  · exact .inl h2
  · exact .inr ⟨g, cap, cur, hv, hB g (by rw [hv]; rfl), hh, r⟩
end Go.Proofs.Ytejaebmbhcgngaa
namespace Go.Proofs.Ytejaebmbhcgngaa
open Go.RowKit Ph

theorem c_szIntS_yes (a : Option Addr) (n c : Nat) (left : Int) (w : World) (h1 : left ≤ 1048576) (h : (n : Int) ≤ left) : Calls Try.prog 75 #[.slice a n c, .int .i64 left] w fun e w' => e = .returned (.int .i64 (left - n)) ∧ w = w' := by
  have h2 : ¬ left - (n : Int) < 0 := by omega
  go_enter Try.func75, Try.ntmps75
  go_wp2
  go_ret
  exact ⟨rfl, rfl⟩
theorem c_szIntS_no (a : Option Addr) (n c : Nat) (left : Int) (w : World) (h0 : 0 ≤ left) (h1 : left ≤ 1048576) (hn : n ≤ 9223372036854775807) (h : left < (n : Int)) : Calls Try.prog 75 #[.slice a n c, .int .i64 left] w fun e w' => e = .returned (.int .i64 (-1)) ∧ w = w' := by
  have h2 : left - (n : Int) < 0 := by omega
  go_enter Try.func75, Try.ntmps75
  go_wp2
  go_ret
  exact ⟨rfl, rfl⟩
/-- How many numbers the first k rows hold. -/
def sumL (fs : List (List Int)) (k : Nat) : Nat := ((fs.take k).map List.length).sum
theorem sumL_succ {fs : List (List Int)} {k : Nat} (h : k < fs.length) : sumL fs (k + 1) = sumL fs k + (fs.getD k []).length := by
  have e : fs.getD k [] = fs[k] := by simp [List.getD, List.getElem?_eq_getElem h]
  unfold sumL
  rw [List.take_succ_eq_append_getElem h, List.map_append, List.sum_append, e]; simp
theorem sumL_zero (fs : List (List Int)) : sumL fs 0 = 0 := by simp [sumL]
theorem sumL_mono (fs : List (List Int)) {j k : Nat} (h : j ≤ k) : sumL fs j ≤ sumL fs k := by
  induction k with
  | zero => obtain rfl : j = 0 := by omega
            exact Nat.le_refl _
  | succ k ih =>
    by_cases e : j = k + 1
    · subst e; exact Nat.le_refl _
    · have := ih (by omega)
      by_cases hk : k < fs.length
      · rw [sumL_succ hk]; omega
      · have : sumL fs (k + 1) = sumL fs k := by unfold sumL; rw [List.take_of_length_le (by omega), List.take_of_length_le (by omega)]
        omega
end Go.Proofs.Ytejaebmbhcgngaa
namespace Go.Proofs.Ytejaebmbhcgngaa
open Go.RowKit Ph

/-- A row of bools that the call itself has made. -/
def OwnBs (w : World) (B : Nat) (v : Value) (bs : List Bool) : Prop := w.ownsRow B 4 1 v bs.length (bs.map Value.bool)
theorem owns_bools {w : World} {B : Nat} {v : Value} {bs : List Bool} (h : OwnBs w B v bs) : BoolsAt w v bs := by
  have h' := h
  obtain ⟨h1, h2⟩ := h
  rcases h2 with ⟨rfl, h2⟩ | ⟨g, cap, cur, rfl, hg, hh, _⟩
  · exact ⟨none, 0, by rw [h2], fun h => by omega⟩
  · refine ⟨_, cap, rfl, fun _ => ⟨g, 0, rfl, fun i hi => ?_⟩⟩
    rw [Nat.zero_add, World.ownsRow.cellAt h' i (by omega), List.getElem?_map, List.getElem?_eq_getElem hi]
    simp [List.getD, List.getElem?_eq_getElem hi]
theorem OwnBs.below {w w' : World} {B : Nat} {v : Value} {bs : List Bool} (h : OwnBs w B v bs) (hb : Below w.heap.size w w') : OwnBs w' B v bs := owns_block h fun g hg => hb.block g (owns_lt h hg).2
theorem Own.nil (w : World) (B : Nat) : Own w B (.slice none 0 0) [] := ⟨rfl, .inl ⟨rfl, rfl⟩⟩
theorem Own.shape' {w : World} {B : Nat} {v : Value} {bs : List Int} (h : Own w B v bs) : (v = .slice none 0 0 ∧ bs = []) ∨ ∃ g c, v = .slice (some ⟨g, 0, none⟩) bs.length c := by
  rcases h.2 with ⟨h1, h2⟩ | ⟨g, cap, cur, h1, _⟩
  · exact .inl ⟨h1, List.eq_nil_of_length_eq_zero h2⟩
  · exact .inr ⟨g, cap, h1⟩

end Go.Proofs.Ytejaebmbhcgngaa
namespace Go.Proofs.Ytejaebmbhcgngaa
open Go.RowKit Ph

theorem info_boolz : (Try.prog.info? 4).map (fun i => (i.zero, i.size, i.bytes)) = some (some (.bool false), 1, 1) := by kernel_rfl
end Go.Proofs.Ytejaebmbhcgngaa
namespace Go.Proofs.Ytejaebmbhcgngaa
open Go.RowKit Ph

theorem Row.chg {w w' : World} {lo hi g : Nat} {T : TypeId} {cs : Array Value} (h : Row w g T cs) (hc : Chg lo hi w w') (hd : g < lo ∨ hi ≤ g) : Row w' g T cs := (hc.block g h.lt hd).trans h
theorem below_chg {B lo hi : Nat} {w w1 w2 : World} (h : Below B w w1) (k : Chg lo hi w1 w2) (hB : B ≤ lo) (hs : B ≤ w1.heap.size) : Below B w w2 :=
  ⟨k.os.trans h.os, k.tape.trans h.tape, k.output.trans h.output, Nat.le_trans h.size k.size, fun i hi => (k.block i (by omega) (.inl (by omega))).trans (h.block i hi)⟩
end Go.Proofs.Ytejaebmbhcgngaa
namespace Go.Proofs.Ytejaebmbhcgngaa
namespace Tr

structure T where
  k : List Int
  l : List Int
  r : List Int
  t : Int
inductive BT where
  | nil : BT
  | node : Nat → BT → BT → BT
namespace BT
def ix : BT → List Nat
  | nil => []
  | node i a b => i :: (a.ix ++ b.ix)
def sz : BT → Nat
  | nil => 0
  | node _ a b => 1 + a.sz + b.sz
def rk : BT → Nat
  | nil => 0
  | node _ _ b => b.rk + 1
theorem ix_length : ∀ b : BT, b.ix.length = b.sz
  | nil => rfl
  | node i a b => by simp [ix, sz, ix_length a, ix_length b]; omega
theorem rk_le : ∀ b : BT, b.rk ≤ b.sz
  | nil => Nat.le_refl _
  | node i a b => by simp only [rk, sz]; have := rk_le b; omega
end BT
open BT
/-- In the children's lists l, r the number z stands for the tree b. -/
def Rep (l r : List Int) : Int → BT → Prop
  | z, .nil => z = -1
  | z, .node i a b => z = i ∧ i < l.length ∧ i < r.length ∧ Rep l r (l.getD i 0) a ∧ Rep l r (r.getD i 0) b
theorem Rep.fn {l r : List Int} {a b : BT} {z : Int} (h : Rep l r z a) (k : Rep l r z b) : a = b := by
  induction a generalizing z b with
  | nil =>
    cases b with
    | nil => rfl
    | node j c d => have h1 : z = -1 := h; have h2 := k.1; omega
  | node i a c iha ihc =>
    cases b with
    | nil => have h1 : z = -1 := k; have h2 := h.1; omega
    | node j b d =>
      obtain ⟨h1, _, _, h4, h5⟩ := h
      obtain ⟨k1, _, _, k4, k5⟩ := k
      obtain rfl : i = j := by omega
      rw [iha h4 k4, ihc h5 k5]
theorem Rep.lt {l r : List Int} {b : BT} {z : Int} (h : Rep l r z b) : ∀ i ∈ b.ix, i < l.length ∧ i < r.length := by
  induction b generalizing z with
  | nil => intro i hi; simp [ix] at hi
  | node i a b iha ihb =>
    obtain ⟨h1, h2, h3, h4, h5⟩ := h
    intro j hj
    simp only [ix, List.mem_cons, List.mem_append] at hj
    rcases hj with rfl | hj | hj
    · exact ⟨h2, h3⟩
    · exact iha h4 j hj
    · exact ihb h5 j hj
theorem Rep.nil_of {l r : List Int} {b : BT} {z : Int} (h : Rep l r z b) (hz : z < 0) : b = .nil := by
  cases b with
  | nil => rfl
  | node i a b => have := h.1; omega
theorem Rep.node_of {l r : List Int} {b : BT} {i : Nat} (h : Rep l r i b) : ∃ a c, b = .node i a c ∧ i < l.length ∧ i < r.length ∧ Rep l r (l.getD i 0) a ∧ Rep l r (r.getD i 0) c := by
  cases b with
  | nil => have : (i : Int) = -1 := h; omega
  | node j a c => 
    obtain ⟨h1, h2⟩ := h
    obtain rfl : i = j := by omega
    exact ⟨a, c, rfl, h2.1, h2.2.1, h2.2.2.1, h2.2.2.2⟩
/-- Every node of a tree has a tree of its own. -/
theorem Rep.sub {l r : List Int} {b : BT} {z : Int} (h : Rep l r z b) : ∀ i ∈ b.ix, ∃ c, Rep l r i c ∧ ∀ j ∈ c.ix, j ∈ b.ix := by
  induction b generalizing z with
  | nil => intro i hi; simp [ix] at hi
  | node i a b iha ihb =>
    intro j hj
    have hh := h
    obtain ⟨h1, h2, h3, h4, h5⟩ := h
    simp only [ix, List.mem_cons, List.mem_append] at hj
    rcases hj with rfl | hj | hj
    · exact ⟨_, h1 ▸ hh, fun _ h => h⟩
    · obtain ⟨c, hc, hm⟩ := iha h4 j hj
      exact ⟨c, hc, fun x hx => by simp only [ix, List.mem_cons, List.mem_append]; exact .inr (.inl (hm x hx))⟩
    · obtain ⟨c, hc, hm⟩ := ihb h5 j hj
      exact ⟨c, hc, fun x hx => by simp only [ix, List.mem_cons, List.mem_append]; exact .inr (.inr (hm x hx))⟩
abbrev ch (l r : List Int) (i : Nat) : List Int := [l.getD i 0, r.getD i 0]
theorem Rep.cnt {l r : List Int} {b : BT} {z : Int} (h : Rep l r z b) (x : Nat) : b.ix.count x = (if z = (x : Int) then 1 else 0) + (b.ix.flatMap (ch l r)).count (x : Int) := by
  induction b generalizing z with
  | nil => have h1 : z = -1 := h; rw [if_neg (by omega)]; rfl
  | node i a b iha ihb =>
    obtain ⟨h1, h2, h3, h4, h5⟩ := h
    have ea := iha h4
    have eb := ihb h5
    simp only [ix, List.flatMap_cons, List.flatMap_append, List.count_cons, List.count_append, List.count_nil, ch] at ea eb ⊢
    rw [ea, eb, h1]
    simp only [beq_iff_eq]
    by_cases e : i = x
    · subst e; simp; omega
    · have e' : ¬ (i : Int) = (x : Int) := by omega
      simp [e, e']; omega
theorem cnt_two {f : Nat → List Int} {L : List Nat} {i j : Nat} {x : Int} (hi : i ∈ L) (hj : j ∈ L) (hn : i ≠ j) (h1 : x ∈ f i) (h2 : x ∈ f j) : 2 ≤ (L.flatMap f).count x := by
  obtain ⟨s, t, rfl⟩ := List.append_of_mem hi
  have c1 : 1 ≤ (f i).count x := List.one_le_count_iff.2 h1
  simp only [List.flatMap_append, List.flatMap_cons, List.count_append]
  simp only [List.mem_append, List.mem_cons] at hj
  rcases hj with hj | hj | hj
  · have : 1 ≤ (s.flatMap f).count x := List.one_le_count_iff.2 (List.mem_flatMap_of_mem hj h2)
    omega
  · exact absurd hj.symm hn
  · have : 1 ≤ (t.flatMap f).count x := List.one_le_count_iff.2 (List.mem_flatMap_of_mem hj h2)
    omega
theorem cnt_one {f : Nat → List Int} {L : List Nat} {i : Nat} {x : Int} (hi : i ∈ L) (h1 : x ∈ f i) : 1 ≤ (L.flatMap f).count x := List.one_le_count_iff.2 (List.mem_flatMap_of_mem hi h1)
theorem cnt_two' {f : Nat → List Int} {L : List Nat} {i : Nat} {x : Int} (hi : i ∈ L) (h1 : 2 ≤ (f i).count x) : 2 ≤ (L.flatMap f).count x := by
  obtain ⟨s, t, rfl⟩ := List.append_of_mem hi
  simp only [List.flatMap_append, List.flatMap_cons, List.count_append]
  omega
theorem cnt_le {f : Nat → List Int} {i : Nat} {x : Int} : ∀ {L : List Nat}, (∀ p ∈ L, (f p).count x ≤ if p = i then 1 else 0) → (L.flatMap f).count x ≤ L.count i
  | [], _ => Nat.le_refl _
  | p :: L, h => by
    have h1 := h p (by simp)
    have h2 := cnt_le (L := L) fun q hq => h q (by simp [hq])
    simp only [List.flatMap_cons, List.count_append, List.count_cons, beq_iff_eq]
    omega
/-- No node is the child of two. -/
def Inj (l r : List Int) (n : Nat) : Prop := ∀ i j, i < n → j < n → (0 ≤ l.getD i 0 → l.getD i 0 = l.getD j 0 → i = j) ∧ (0 ≤ r.getD i 0 → r.getD i 0 = r.getD j 0 → i = j) ∧ (0 ≤ l.getD i 0 → l.getD i 0 ≠ r.getD j 0)
def NoCh (l r : List Int) (n : Nat) (t : Int) : Prop := ∀ i, i < n → (0 ≤ l.getD i 0 → l.getD i 0 ≠ t) ∧ (0 ≤ r.getD i 0 → r.getD i 0 ≠ t)
/-- All nodes, each once, are below the top. -/
def IsT (x : T) : Prop := ∃ b, Rep x.l x.r x.t b ∧ b.ix.Nodup ∧ b.sz = x.k.length
theorem all_of_nodup {L : List Nat} {n : Nat} (hd : L.Nodup) (hb : ∀ i ∈ L, i < n) (hn : L.length = n) : ∀ i, i < n → i ∈ L := by
  intro i hi
  by_cases e : i ∈ L
  · exact e
  · have h1 : (i :: L).Nodup := List.nodup_cons.2 ⟨e, hd⟩
    have h2 := h1.length_le_of_subset (l₂ := List.range n) (fun j hj => by
      simp only [List.mem_cons] at hj
      rcases hj with rfl | hj
      · exact List.mem_range.2 hi
      · exact List.mem_range.2 (hb j hj))
    simp at h2; omega
theorem len_of_all {L : List Nat} {n : Nat} (hd : L.Nodup) (hb : ∀ i ∈ L, i < n) (ha : ∀ i, i < n → i ∈ L) : L.length = n := by
  have h1 := hd.length_le_of_subset (l₂ := List.range n) (fun j hj => List.mem_range.2 (hb j hj))
  have h2 := List.nodup_range.length_le_of_subset (l₁ := List.range n) (l₂ := L) (fun j hj => ha j (List.mem_range.1 hj))
  simp at h1 h2; omega
theorem inj_of {l r : List Int} {b : BT} {z : Int} {n : Nat} (h : Rep l r z b) (hd : b.ix.Nodup) (ha : ∀ i, i < n → i ∈ b.ix) : Inj l r n ∧ NoCh l r n z := by
  have hc := List.nodup_iff_count.1 hd
  have K : ∀ x : Int, 0 ≤ x → (if z = x then 1 else 0) + (b.ix.flatMap (ch l r)).count x ≤ 1 := by
    intro x hx
    obtain ⟨y, rfl⟩ : ∃ y : Nat, x = y := ⟨x.toNat, by omega⟩
    rw [← h.cnt]; exact hc y
  refine ⟨fun i j hi hj => ⟨fun h0 e => ?_, fun h0 e => ?_, fun h0 e => ?_⟩, fun i hi => ⟨fun h0 e => ?_, fun h0 e => ?_⟩⟩
  · by_cases hn : i = j
    · exact hn
    · have := cnt_two (f := ch l r) (ha i hi) (ha j hj) hn (x := l.getD i 0) (by simp [ch]) (by rw [e]; simp [ch])
      have := K _ h0; split at this <;> omega
  · by_cases hn : i = j
    · exact hn
    · have := cnt_two (f := ch l r) (ha i hi) (ha j hj) hn (x := r.getD i 0) (by simp [ch]) (by rw [e]; simp [ch])
      have := K _ h0; split at this <;> omega
  · by_cases hn : i = j
    · subst hn
      have := cnt_two' (f := ch l r) (ha i hi) (x := l.getD i 0) (by unfold ch; rw [← e]; simp)
      have := K _ h0; split at this <;> omega
    · have := cnt_two (f := ch l r) (ha i hi) (ha j hj) hn (x := l.getD i 0) (by simp [ch]) (by rw [e]; simp [ch])
      have := K _ h0; split at this <;> omega
  · have := cnt_one (f := ch l r) (ha i hi) (x := l.getD i 0) (by simp [ch])
    have := K _ h0; rw [if_pos e.symm] at this; omega
  · have := cnt_one (f := ch l r) (ha i hi) (x := r.getD i 0) (by simp [ch])
    have := K _ h0; rw [if_pos e.symm] at this; omega
theorem nodup_of_inj {l r : List Int} {b : BT} {z : Int} {n : Nat} (h : Rep l r z b) (hn : ∀ i ∈ b.ix, i < n) (hi : Inj l r n) (hz : NoCh l r n z) : b.ix.Nodup := by
  have C : ∀ i x : Nat, i ∈ b.ix → ((x : Int) = l.getD i 0 ∨ (x : Int) = r.getD i 0) → b.ix.count x ≤ b.ix.count i := by
    intro i x him hx
    have hin := hn i him
    have hzx : ¬ z = (x : Int) := by
      rcases hx with e | e
      · have := (hz i hin).1 (by omega); omega
      · have := (hz i hin).2 (by omega); omega
    rw [h.cnt, if_neg hzx, Nat.zero_add]
    refine cnt_le fun p hp => ?_
    have hpn := hn p hp
    have a1 := (hi i p hin hpn).1
    have a2 := (hi i p hin hpn).2.1
    have a3 := (hi i p hin hpn).2.2
    have a4 := (hi p i hpn hin).2.2
    by_cases e : p = i
    · subst e
      rw [if_pos rfl]
      simp only [ch, List.count_cons, List.count_nil, beq_iff_eq]
      split <;> split <;> omega
    · rw [if_neg e]
      simp only [ch, List.count_cons, List.count_nil, beq_iff_eq]
      rw [if_neg, if_neg]
      · omega
      · intro q
        rcases hx with hx | hx
        · exact e (a1 (by omega) (by omega)).symm
        · exact a4 (by omega) (by omega)
      · intro q
        rcases hx with hx | hx
        · exact a3 (by omega) (by omega)
        · exact e (a2 (by omega) (by omega)).symm
  have S : ∀ (s : BT) (y : Int), Rep l r y s → (∀ p ∈ s.ix, p ∈ b.ix) → (∀ x : Nat, y = x → b.ix.count x ≤ 1) → ∀ x ∈ s.ix, b.ix.count x ≤ 1 := by
    intro s
    induction s with
    | nil => intro y _ _ _ x hx; simp [ix] at hx
    | node i a c iha ihc =>
      intro y hy hm hc x hx
      obtain ⟨h1, h2, h3, h4, h5⟩ := hy
      have ci := hc i h1
      have him := hm i (by simp [ix])
      simp only [ix, List.mem_cons, List.mem_append] at hx hm
      rcases hx with rfl | hx | hx
      · exact ci
      · exact iha _ h4 (fun p hp => hm p (.inr (.inl hp))) (fun x hx => Nat.le_trans (C i x him (.inl hx.symm)) ci) x hx
      · exact ihc _ h5 (fun p hp => hm p (.inr (.inr hp))) (fun x hx => Nat.le_trans (C i x him (.inr hx.symm)) ci) x hx
  refine List.nodup_iff_count.2 fun x => ?_
  by_cases hx : x ∈ b.ix
  · refine S b z h (fun _ h => h) (fun y hy => ?_) x hx
    rw [h.cnt, if_pos hy]
    have : (b.ix.flatMap (ch l r)).count (y : Int) = 0 := by
      refine List.count_eq_zero.2 fun hm => ?_
      obtain ⟨p, hp, hq⟩ := List.mem_flatMap.1 hm
      have hpn := hn p hp
      simp only [ch, List.mem_cons, List.not_mem_nil, or_false] at hq
      rcases hq with e | e
      · have := (hz p hpn).1 (by omega); omega
      · have := (hz p hpn).2 (by omega); omega
    omega
  · rw [List.count_eq_zero.2 hx]; omega
theorem isT_iff {x : T} (hl : x.l.length = x.k.length) : IsT x ↔ (Inj x.l x.r x.k.length ∧ NoCh x.l x.r x.k.length x.t ∧ ∃ b, Rep x.l x.r x.t b ∧ 0 + b.sz = x.k.length) := by
  constructor
  · rintro ⟨b, h, hd, hs⟩
    have ha := all_of_nodup hd (fun i hi => by have := (h.lt i hi).1; omega) (n := x.k.length) (by rw [ix_length, hs])
    have := inj_of h hd ha
    exact ⟨this.1, this.2, b, h, by omega⟩
  · rintro ⟨h1, h2, b, h, hs⟩
    exact ⟨b, h, nodup_of_inj h (fun i hi => by have := (h.lt i hi).1; omega) h1 h2, by omega⟩
theorem IsT.all {x : T} (hl : x.l.length = x.k.length) {b : BT} (h : Rep x.l x.r x.t b) (hd : b.ix.Nodup) (hs : b.sz = x.k.length) : ∀ i, i < x.k.length → i ∈ b.ix :=
  all_of_nodup hd (fun i hi => by have := (h.lt i hi).1; omega) (by rw [ix_length, hs])

/-- What a walk with a stack still asks: the trees of the stack are apart, have not been met, and lack nothing. -/
def Reps (l r : List Int) : List Int → List BT → Prop
  | [], [] => True
  | z :: zs, b :: bs => Rep l r z b ∧ Reps l r zs bs
  | _, _ => False
def Fin (l r : List Int) (n : Nat) (met : Nat → Bool) (zs : List Int) : Prop :=
  ∃ bs, Reps l r zs bs ∧ (bs.flatMap ix).Nodup ∧ (∀ i ∈ bs.flatMap ix, met i = false) ∧ ∀ i, i < n → met i = true ∨ i ∈ bs.flatMap ix
theorem fin_nil {l r : List Int} {n : Nat} {met : Nat → Bool} : Fin l r n met [] ↔ ∀ i, i < n → met i = true := by
  constructor
  · rintro ⟨bs, h, _, _, h4⟩
    cases bs with
    | nil => intro i hi; have := h4 i hi; simpa using this
    | cons b bs => exact h.elim
  · intro h
    exact ⟨[], trivial, by simp, by simp, fun i hi => .inl (h i hi)⟩
theorem fin_skip {l r : List Int} {n : Nat} {met : Nat → Bool} {zs : List Int} : Fin l r n met (-1 :: zs) ↔ Fin l r n met zs := by
  constructor
  · rintro ⟨bs, h, h2, h3, h4⟩
    cases bs with
    | nil => exact h.elim
    | cons b bs =>
      obtain rfl := Rep.nil_of h.1 (by omega)
      exact ⟨bs, h.2, h2, h3, h4⟩
  · rintro ⟨bs, h, h2, h3, h4⟩
    exact ⟨.nil :: bs, ⟨rfl, h⟩, h2, h3, h4⟩
theorem fin_met {l r : List Int} {n : Nat} {met : Nat → Bool} {zs : List Int} {i : Nat} (hm : met i = true) : ¬ Fin l r n met ((i : Int) :: zs) := by
  rintro ⟨bs, h, h2, h3, h4⟩
  cases bs with
  | nil => exact h
  | cons b bs =>
    obtain ⟨a, c, rfl, _⟩ := Rep.node_of h.1
    have := h3 i (by simp [ix])
    rw [hm] at this; cases this
theorem fin_perm {a c s : List Nat} : (c ++ (a ++ s)).Perm (a ++ c ++ s) := by
  rw [← List.append_assoc]
  exact List.Perm.append_right _ List.perm_append_comm
theorem fin_new {l r : List Int} {n : Nat} {met : Nat → Bool} {zs : List Int} {i : Nat} (hm : met i = false) (hl : i < l.length) (hr : i < r.length) :
    Fin l r n met ((i : Int) :: zs) ↔ Fin l r n (fun j => if j = i then true else met j) (r.getD i 0 :: l.getD i 0 :: zs) := by
  constructor
  · rintro ⟨bs, h, h2, h3, h4⟩
    cases bs with
    | nil => exact h.elim
    | cons b bs =>
      obtain ⟨a, c, rfl, _, _, ha, hc⟩ := Rep.node_of h.1
      refine ⟨c :: a :: bs, ⟨hc, ha, h.2⟩, ?_, ?_, ?_⟩
      · simp only [List.flatMap_cons, ix, List.cons_append, List.nodup_cons] at h2 ⊢
        exact (@fin_perm a.ix c.ix (bs.flatMap ix)).nodup_iff.2 h2.2
      · intro j hj
        simp only [List.flatMap_cons, ix, List.cons_append, List.nodup_cons] at h2
        have hj' := (@fin_perm a.ix c.ix (bs.flatMap ix)).mem_iff.1 (by simpa only [List.flatMap_cons] using hj)
        have : j ≠ i := fun e => h2.1 (e ▸ hj')
        show (if j = i then true else met j) = false
        rw [if_neg this]
        exact h3 j (by simp only [List.flatMap_cons, ix, List.cons_append]; exact List.mem_cons_of_mem _ hj')
      · intro j hj
        show (if j = i then true else met j) = true ∨ _
        by_cases e : j = i
        · left; rw [if_pos e]
        · rw [if_neg e]
          rcases h4 j hj with h | h
          · exact .inl h
          · right
            simp only [List.flatMap_cons, ix, List.cons_append] at h ⊢
            exact (@fin_perm a.ix c.ix (bs.flatMap ix)).mem_iff.2 ((List.mem_cons.1 h).resolve_left e)
  · rintro ⟨bs, h, h2, h3, h4⟩
    match bs, h with
    | [], h => exact h.elim
    | [_], h => exact h.2.elim
    | c :: a :: bs, h =>
      obtain ⟨hc, ha, hb⟩ := h
      simp only [List.flatMap_cons] at h2 h3 h4
      refine ⟨.node i a c :: bs, ⟨⟨rfl, hl, hr, ha, hc⟩, hb⟩, ?_, ?_, ?_⟩
      · simp only [List.flatMap_cons, ix, List.cons_append, List.nodup_cons]
        refine ⟨fun hi => ?_, (@fin_perm a.ix c.ix (bs.flatMap ix)).nodup_iff.1 h2⟩
        have := h3 i ((@fin_perm a.ix c.ix (bs.flatMap ix)).mem_iff.2 hi)
        simp at this
      · intro j hj
        simp only [List.flatMap_cons, ix, List.cons_append, List.mem_cons] at hj
        rcases hj with rfl | hj
        · exact hm
        · have : (if j = i then true else met j) = false := h3 j ((@fin_perm a.ix c.ix (bs.flatMap ix)).mem_iff.2 hj)
          split at this
          · cases this
          · exact this
      · intro j hj
        simp only [List.flatMap_cons, ix, List.cons_append, List.mem_cons]
        rcases (show (if j = i then true else met j) = true ∨ _ from h4 j hj) with h | h
        · split at h
          · rename_i e; exact .inr (.inl e)
          · exact .inl h
        · exact .inr (.inr ((@fin_perm a.ix c.ix (bs.flatMap ix)).mem_iff.1 h))
theorem isT_fin {x : T} (hl : x.l.length = x.k.length) : IsT x ↔ Fin x.l x.r x.k.length (fun _ => false) [x.t] := by
  constructor
  · rintro ⟨b, h, hd, hs⟩
    refine ⟨[b], ⟨h, trivial⟩, by simpa using hd, fun _ _ => rfl, fun i hi => .inr ?_⟩
    simpa using IsT.all hl h hd hs i hi
  · rintro ⟨bs, h, h2, h3, h4⟩
    match bs, h with
    | [], h => exact h.elim
    | _ :: _ :: _, h => exact h.2.elim
    | [b], h =>
      have h2 : b.ix.Nodup := by simpa using h2
      have ha : ∀ i, i < x.k.length → i ∈ b.ix := fun i hi => by
        have := h4 i hi
        simpa using this
      refine ⟨b, h.1, h2, ?_⟩
      rw [← ix_length]
      exact len_of_all h2 (fun i hi => by have := (h.1.lt i hi).1; omega) ha
structure Shp (x : T) : Prop where
  n : x.k.length ≤ 20
  l : x.l.length = x.k.length
  r : x.r.length = x.k.length
  ks : ∀ i, i < x.k.length → 0 ≤ x.k.getD i 0 ∧ x.k.getD i 0 ≤ 1000
  ls : ∀ i, i < x.k.length → -1 ≤ x.l.getD i 0 ∧ x.l.getD i 0 ≤ (x.k.length : Int) - 1
  rs : ∀ i, i < x.k.length → -1 ≤ x.r.getD i 0 ∧ x.r.getD i 0 ≤ (x.k.length : Int) - 1
  t : -1 ≤ x.t ∧ x.t ≤ (x.k.length : Int) - 1
/-- No child of the node i has a lesser key. -/
def OrdAt (x : T) (i : Nat) : Prop := (0 ≤ x.l.getD i 0 → x.k.getD i 0 ≤ x.k.getD (x.l.getD i 0).toNat 0) ∧ (0 ≤ x.r.getD i 0 → x.k.getD i 0 ≤ x.k.getD (x.r.getD i 0).toNat 0)
def LeanAt (x : T) (i : Nat) : Prop := ∀ a b, Rep x.l x.r (x.l.getD i 0) a → Rep x.l x.r (x.r.getD i 0) b → b.rk ≤ a.rk
structure Good (x : T) : Prop where
  s : Shp x
  i : IsT x
  o : ∀ i, i < x.k.length → OrdAt x i
  n : ∀ i, i < x.k.length → LeanAt x i
noncomputable def goodB (x : T) : Bool := @decide (Good x) (Classical.propDecidable _)
theorem goodB_iff {x : T} : goodB x = true ↔ Good x := by unfold goodB; exact @decide_eq_true_iff _ (Classical.propDecidable _)
theorem not_good {x : T} (h : ¬ Good x) : goodB x = false := by
  cases e : goodB x
  · rfl
  · exact absurd (goodB_iff.1 e) h
/-- In a tree every node stands for a tree, and so do its children. -/
theorem IsT.at {x : T} (hl : x.l.length = x.k.length) (h : IsT x) {i : Nat} (hi : i < x.k.length) : ∃ a b, Rep x.l x.r i (.node i a b) ∧ Rep x.l x.r (x.l.getD i 0) a ∧ Rep x.l x.r (x.r.getD i 0) b ∧ a.sz + b.sz < x.k.length := by
  obtain ⟨b, h, hd, hs⟩ := h
  obtain ⟨c, hc, hm⟩ := h.sub i (IsT.all hl h hd hs i hi)
  obtain ⟨a, d, rfl, _, _, ha, hd'⟩ := hc.node_of
  refine ⟨a, d, hc, ha, hd', ?_⟩
  have hsz : ∀ {b : BT} {z : Int}, Rep x.l x.r z b → ∀ i ∈ b.ix, ∀ c, Rep x.l x.r i c → c.sz ≤ b.sz := by
    intro b
    induction b with
    | nil => intro z _ i hi; simp [ix] at hi
    | node j a b iha ihb =>
      intro z hz i hi c hc
      have hz' := hz
      obtain ⟨h1, _, _, h4, h5⟩ := hz
      simp only [ix, List.mem_cons, List.mem_append] at hi
      rcases hi with rfl | hi | hi
      · rw [Rep.fn hc (h1 ▸ hz')]; exact Nat.le_refl _
      · have := iha h4 i hi c hc; simp only [sz]; omega
      · have := ihb h5 i hi c hc; simp only [sz]; omega
  have := hsz h i (IsT.all hl h hd hs i hi) _ hc
  simp only [sz] at this
  omega
end Tr
end Go.Proofs.Ytejaebmbhcgngaa
namespace Go.Proofs.Ytejaebmbhcgngaa
open Go.RowKit Ph Tr

abbrev nilT : Value := .slice none 0 0
abbrev tv (a b c : Value) (t : Int) : Value := .agg #[a, b, c, .int .i64 t]
abbrev t4 (a b c : Value) (t : Int) : Array Value := #[a, b, c, .int .i64 t]
structure TreeAt (w : World) (a b c : Value) (x : T) : Prop where
  k : IntsAt w a x.k
  l : IntsAt w b x.l
  r : IntsAt w c x.r
theorem TreeAt.below {w w' : World} {a b c : Value} {x : T} (h : TreeAt w a b c x) (hb : Below w.heap.size w w') : TreeAt w' a b c x := ⟨h.k.below hb, h.l.below hb, h.r.below hb⟩
theorem TreeAt.shapes {w : World} {a b c : Value} {x : T} (h : TreeAt w a b c x) : (∃ p q, a = .slice p x.k.length q) ∧ (∃ p q, b = .slice p x.l.length q) ∧ (∃ p q, c = .slice p x.r.length q) := ⟨h.k.shape, h.l.shape, h.r.shape⟩
/-- A list in a stretch of blocks. -/
def OwnZ (w : World) (lo hi : Nat) (t : Value) (zs : List Int) : Prop := Own w lo t zs ∧ ∀ g, t.ownBlock = some g → g < hi
section
variable {w w' : World} {lo hi : Nat} {t : Value} {zs : List Int}
theorem OwnZ.below (k : OwnZ w lo hi t zs) (hb : Below w.heap.size w w') : OwnZ w' lo hi t zs := ⟨Own.below k.1 hb, k.2⟩
theorem OwnZ.chg {lo' hi' : Nat} (k : OwnZ w lo hi t zs) (hc : Chg lo' hi' w w') (hd : hi ≤ lo' ∨ hi' ≤ lo) : OwnZ w' lo hi t zs :=
  ⟨owns_block k.1 fun g hg => hc.block g (owns_lt k.1 hg).2 (by have := (owns_lt k.1 hg).1; have := k.2 g hg; omega), k.2⟩
theorem OwnZ.out (k : OwnZ w lo hi t zs) (hb : ∀ i, lo ≤ i → w'.heap[i]? = w.heap[i]?) : OwnZ w' lo hi t zs :=
  ⟨owns_block k.1 fun g hg => hb g (owns_lt k.1 hg).1, k.2⟩
theorem OwnZ.cell (k : OwnZ w lo hi t zs) (p : Addr) (h : p.block < lo) (v : Value) : OwnZ (w.setCell p v) lo hi t zs := k.out fun i hi => heap_setCell_other w p i v (by omega)
theorem OwnZ.reads (k : OwnZ w lo hi t zs) : IntsAt w t zs := Own.ints k.1
theorem OwnZ.of (k : Own w lo t zs) : OwnZ w lo w.heap.size t zs := ⟨k, fun _ hg => (owns_lt k hg).2⟩
theorem OwnZ.wide (k : OwnZ w lo hi t zs) {lo' hi' : Nat} (h1 : lo' ≤ lo) (h2 : hi ≤ hi') : OwnZ w lo' hi' t zs := ⟨k.1.mono h1, fun g hg => Nat.lt_of_lt_of_le (k.2 g hg) h2⟩
theorem OwnZ.grown {g : Option Nat} (k : OwnZ w lo hi t zs) (hc : w.grownBy w' g) (hd : ∀ i, t.ownBlock = some i → g ≠ some i) : OwnZ w' lo hi t zs :=
  ⟨owns_block k.1 fun i hi => hc.block i (owns_lt k.1 hi).2 (fun e => hd i hi e.symm), k.2⟩
theorem OwnZ.nil (w : World) (lo hi : Nat) : OwnZ w lo hi nilT [] := ⟨Own.nil _ _, fun g hg => by cases hg⟩
theorem c_markZ (k : Int) (h : OwnZ w lo hi t zs) (h0 : 0 ≤ k) (hm : k + zs.length ≤ 9223372036854775806) : Calls Try.prog 36 #[t, .int .i64 k] w fun e w' => e = .returned (.int .i64 (k + zs.length)) ∧ OwnZ w' lo hi t (upFrom k zs.length) ∧ w.grownBy w' t.ownBlock ∧ Chg lo hi w w' := by
  refine (c_markIntS t zs lo k w h.1 h0 hm).mono ?_
  rintro e w1 ⟨rfl, ho, hg⟩
  exact ⟨rfl, ⟨ho, h.2⟩, hg, Chg.of_grown hg fun g hg' => ⟨(owns_lt h.1 hg').1, h.2 g hg'⟩⟩
end
def Apart (a b : Value) : Prop := ∀ g, a.ownBlock = some g → b.ownBlock ≠ some g
theorem apart_of {w w' : World} {lo hi lo' hi' : Nat} {a b : Value} {xs ys : List Int} (h : OwnZ w lo hi a xs) (k : OwnZ w' lo' hi' b ys) (e : hi ≤ lo') : Apart a b := fun g ha hb => by
  have := h.2 g ha; have := (owns_lt k.1 hb).1; omega
theorem Apart.symm {a b : Value} (h : Apart a b) : Apart b a := fun g hb ha => h g ha hb
structure OwnT (w : World) (lo hi : Nat) (a b c : Value) (x : T) : Prop where
  k : OwnZ w lo hi a x.k
  l : OwnZ w lo hi b x.l
  r : OwnZ w lo hi c x.r
  ab : Apart a b
  ac : Apart a c
  bc : Apart b c
section
variable {w w' : World} {lo hi : Nat} {a b c : Value} {x : T}
theorem OwnT.reads (h : OwnT w lo hi a b c x) : TreeAt w a b c x := ⟨h.k.reads, h.l.reads, h.r.reads⟩
theorem OwnT.below (h : OwnT w lo hi a b c x) (hb : Below w.heap.size w w') : OwnT w' lo hi a b c x := ⟨h.k.below hb, h.l.below hb, h.r.below hb, h.ab, h.ac, h.bc⟩
theorem OwnT.chg {lo' hi' : Nat} (h : OwnT w lo hi a b c x) (hc : Chg lo' hi' w w') (hd : hi ≤ lo' ∨ hi' ≤ lo) : OwnT w' lo hi a b c x := ⟨h.k.chg hc hd, h.l.chg hc hd, h.r.chg hc hd, h.ab, h.ac, h.bc⟩
theorem OwnT.out (h : OwnT w lo hi a b c x) (hb : ∀ i, lo ≤ i → w'.heap[i]? = w.heap[i]?) : OwnT w' lo hi a b c x := ⟨h.k.out hb, h.l.out hb, h.r.out hb, h.ab, h.ac, h.bc⟩
theorem OwnT.cell (h : OwnT w lo hi a b c x) (p : Addr) (hp : p.block < lo) (v : Value) : OwnT (w.setCell p v) lo hi a b c x := h.out fun i hi => heap_setCell_other w p i v (by omega)
theorem OwnT.wide (h : OwnT w lo hi a b c x) {lo' hi' : Nat} (h1 : lo' ≤ lo) (h2 : hi ≤ hi') : OwnT w lo' hi' a b c x := ⟨h.k.wide h1 h2, h.l.wide h1 h2, h.r.wide h1 h2, h.ab, h.ac, h.bc⟩
theorem OwnT.whole (h : OwnT w lo hi a b c x) (g : Nat) (hp : g < lo) (cs : Array Value) : OwnT (w.setRow g cs) lo hi a b c x := h.out fun i hi => setRow_other w g i cs (by omega)
theorem OwnT.shapes (h : OwnT w lo hi a b c x) : (∃ p q, a = .slice p x.k.length q) ∧ (∃ p q, b = .slice p x.l.length q) ∧ (∃ p q, c = .slice p x.r.length q) := h.reads.shapes
theorem OwnT.nil (w : World) (lo hi : Nat) (t : Int) : OwnT w lo hi nilT nilT nilT ⟨[], [], [], t⟩ := ⟨OwnZ.nil _ _ _, OwnZ.nil _ _ _, OwnZ.nil _ _ _, (fun g hg => by cases hg), (fun g hg => by cases hg), (fun g hg => by cases hg)⟩
end
def RowTr (w : World) (g : Nat) (a b c : Value) (t : Int) : Prop := Row w g 24 (t4 a b c t)
theorem info_tree : (Try.prog.info? 24).map (·.size) = some 4 := by kernel_rfl
section
variable {w w' : World} {g : Nat} {a b c : Value} {t : Int}
theorem RowTr.c0 (h : RowTr w g a b c t) : w.cell? ⟨g, 0, none⟩ = some a := Row.cell h 0
theorem RowTr.c1 (h : RowTr w g a b c t) : w.cell? ⟨g, 1, none⟩ = some b := Row.cell h 1
theorem RowTr.c2 (h : RowTr w g a b c t) : w.cell? ⟨g, 2, none⟩ = some c := Row.cell h 2
theorem RowTr.c3 (h : RowTr w g a b c t) : w.cell? ⟨g, 3, none⟩ = some (.int .i64 t) := Row.cell h 3
theorem RowTr.below (h : RowTr w g a b c t) (hb : Below w.heap.size w w') : RowTr w' g a b c t := Row.below h hb
theorem RowTr.set0 (k : RowTr w g a b c t) (x : Value) : RowTr (w.setCell ⟨g, 0, none⟩ x) g x b c t := (Row.set k 0 x).trans rfl
theorem RowTr.set1 (k : RowTr w g a b c t) (x : Value) : RowTr (w.setCell ⟨g, 1, none⟩ x) g a x c t := (Row.set k 1 x).trans rfl
theorem RowTr.set2 (k : RowTr w g a b c t) (x : Value) : RowTr (w.setCell ⟨g, 2, none⟩ x) g a b x t := (Row.set k 2 x).trans rfl
theorem RowTr.set3 (k : RowTr w g a b c t) (x : Int) : RowTr (w.setCell ⟨g, 3, none⟩ (.int .i64 x)) g a b c x := (Row.set k 3 _).trans rfl
end
theorem wl_loadTr {ops : Array Oper} {rest : List Oper} {o : Oper} {q : Act} {w : World} {Q : Exit → Act → World → Prop} (hgd : o.guard = none) (x : Operand) (ho : o.op = .load 24 x) (g : Nat) (a b c : Value) (t : Int) (hg : RowTr w g a b c t)
    (hx : q.eval x = .pointer (some ⟨g, 0, none⟩)) (h : wpList Try.prog ops Q rest (q.put o.dst (tv a b c t)) w) : wpList Try.prog ops Q (o :: rest) q w :=
  wpList_load_row hgd 24 x ho g hx 24 (t4 a b c t) (0, 0) _ hg Try.underlying24 rfl info_tree h
theorem wl_storeTr {ops : Array Oper} {rest : List Oper} {o : Oper} {q : Act} {w : World} {Q : Exit → Act → World → Prop} (hgd : o.guard = none) (x y : Operand) (ho : o.op = .store 24 x y) (g : Nat) (a b c : Value) (t : Int) (a0 b0 c0 : Value) (t0 : Int) (hg : RowTr w g a0 b0 c0 t0)
    (hx : q.eval x = .pointer (some ⟨g, 0, none⟩)) (hy : q.eval y = tv a b c t) (h1 : a.oneCell' = true) (h2 : b.oneCell' = true) (h3 : c.oneCell' = true) (h : wpList Try.prog ops Q rest (q.put o.dst undef) (w.setRow g (t4 a b c t))) : wpList Try.prog ops Q (o :: rest) q w :=
  wpList_store_row hgd 24 x y ho g (t4 a b c t) hx hy 24 (t4 a0 b0 c0 t0) hg info_tree rfl (by simp [Value.oneCell']; exact ⟨h1, h2, h3⟩) h

/-- How much a tree weighs. -/
def wtT (x : T) : Nat := x.k.length + x.l.length + x.r.length
structure FitT (x : T) : Prop where
  k : x.k.length ≤ 9223372036854775807
  l : x.l.length ≤ 9223372036854775807
  r : x.r.length ≤ 9223372036854775807
set_option maxRecDepth 100000 in
set_option maxHeartbeats 1600000 in
theorem c_szTree_yes (a b c : Value) (x : T) (left : Int) (w : World) (hA : TreeAt w a b c x) (h1 : left ≤ 1048576) (hw : (wtT x : Int) ≤ left) : Calls Try.prog 20 #[tv a b c x.t, .int .i64 left] w fun e w' => e = .returned (.int .i64 (left - wtT x)) ∧ Below w.heap.size w w' := by
  have HB := Lib.hid (below1 w (.cells (t4 a b c x.t) 29))
  obtain ⟨⟨pa, qa, rfl⟩, ⟨pb, qb, rfl⟩, ⟨pc, qc, rfl⟩⟩ := hA.shapes
  have e : (wtT x : Int) = (x.k.length : Int) + (x.l.length : Int) + (x.r.length : Int) := by unfold wtT; omega
  rw [e] at hw ⊢
  clear hA e
  generalize x.k.length = nk at *
  generalize x.l.length = nl at *
  generalize x.r.length = nr at *
  have i1 : ¬ left - (nk : Int) < 0 := by omega
  have i2 : ¬ left - (nk : Int) - (nl : Int) < 0 := by omega
  have i3 : ¬ left - (nk : Int) - (nl : Int) - (nr : Int) < 0 := by omega
  have J1 : Hid (left ≤ 1048576 ∧ (nk : Int) ≤ left) := ⟨by omega, by omega⟩
  have J2 : Hid (left - (nk : Int) ≤ 1048576 ∧ (nl : Int) ≤ left - (nk : Int)) := ⟨by omega, by omega⟩
  have J3 : Hid (left - (nk : Int) - (nl : Int) ≤ 1048576 ∧ (nr : Int) ≤ left - (nk : Int) - (nl : Int)) := ⟨by omega, by omega⟩
  go_enter Try.func20, Try.ntmps20
  go_wp2_with fail
  refine (c_szIntS_yes pa nk qa left _ J1.out.1 J1.out.2).mono ?_; rintro e w1 ⟨rfl, rfl⟩
  go_wp2_with fail
  refine (c_szIntS_yes pb nl qb (left - nk) _ J2.out.1 J2.out.2).mono ?_; rintro e w1 ⟨rfl, rfl⟩
  go_wp2_with fail
  refine (c_szIntS_yes pc nr qc (left - nk - nl) _ J3.out.1 J3.out.2).mono ?_; rintro e w1 ⟨rfl, rfl⟩
  go_wp2_with fail
  go_ret
  exact ⟨r_i (by omega), HB.out⟩
set_option maxRecDepth 100000 in
set_option maxHeartbeats 1600000 in
theorem c_szTree_no (a b c : Value) (x : T) (left : Int) (w : World) (hA : TreeAt w a b c x) (hf : FitT x) (h0 : 0 ≤ left) (h1 : left ≤ 1048576) (hw : left < (wtT x : Int)) : Calls Try.prog 20 #[tv a b c x.t, .int .i64 left] w fun e w' => e = .returned (.int .i64 (-1)) ∧ Below w.heap.size w w' := by
  have HB := Lib.hid (below1 w (.cells (t4 a b c x.t) 29))
  obtain ⟨⟨pa, qa, rfl⟩, ⟨pb, qb, rfl⟩, ⟨pc, qc, rfl⟩⟩ := hA.shapes
  have e : (wtT x : Int) = (x.k.length : Int) + (x.l.length : Int) + (x.r.length : Int) := by unfold wtT; omega
  rw [e] at hw
  obtain ⟨f1, f2, f3⟩ := hf
  clear hA e
  generalize x.k.length = nk at *
  generalize x.l.length = nl at *
  generalize x.r.length = nr at *
  by_cases i1 : left < (nk : Int)
  · have J1 : Hid (0 ≤ left ∧ left ≤ 1048576 ∧ nk ≤ 9223372036854775807 ∧ left < (nk : Int)) := ⟨h0, h1, f1, i1⟩
    clear i1 hw f1 f2 f3
    go_enter Try.func20, Try.ntmps20
    go_wp2_with fail
    refine (c_szIntS_no pa nk qa left _ J1.out.1 J1.out.2.1 J1.out.2.2.1 J1.out.2.2.2).mono ?_; rintro e w1 ⟨rfl, rfl⟩
    go_wp2_with fail
    go_ret
    exact ⟨rfl, HB.out⟩
  · have k1 : ¬ left - (nk : Int) < 0 := by omega
    have J1 : Hid (left ≤ 1048576 ∧ (nk : Int) ≤ left) := ⟨by omega, by omega⟩
    by_cases i2 : left - nk < (nl : Int)
    · have J2 : Hid (0 ≤ left - (nk : Int) ∧ left - (nk : Int) ≤ 1048576 ∧ nl ≤ 9223372036854775807 ∧ left - (nk : Int) < (nl : Int)) := ⟨by omega, by omega, f2, i2⟩
      clear i1 i2 hw f1 f2 f3
      go_enter Try.func20, Try.ntmps20
      go_wp2_with fail
      refine (c_szIntS_yes pa nk qa left _ J1.out.1 J1.out.2).mono ?_; rintro e w1 ⟨rfl, rfl⟩
      go_wp2_with fail
      refine (c_szIntS_no pb nl qb (left - nk) _ J2.out.1 J2.out.2.1 J2.out.2.2.1 J2.out.2.2.2).mono ?_; rintro e w1 ⟨rfl, rfl⟩
      go_wp2_with fail
      go_ret
      exact ⟨rfl, HB.out⟩
    · have k2 : ¬ left - (nk : Int) - (nl : Int) < 0 := by omega
      have J2 : Hid (left - (nk : Int) ≤ 1048576 ∧ (nl : Int) ≤ left - (nk : Int)) := ⟨by omega, by omega⟩
      have J3 : Hid (0 ≤ left - (nk : Int) - (nl : Int) ∧ left - (nk : Int) - (nl : Int) ≤ 1048576 ∧ nr ≤ 9223372036854775807 ∧ left - (nk : Int) - (nl : Int) < (nr : Int)) := ⟨by omega, by omega, f3, by omega⟩
      clear i1 i2 hw f1 f2 f3
      go_enter Try.func20, Try.ntmps20
      go_wp2_with fail
      refine (c_szIntS_yes pa nk qa left _ J1.out.1 J1.out.2).mono ?_; rintro e w1 ⟨rfl, rfl⟩
      go_wp2_with fail
      refine (c_szIntS_yes pb nl qb (left - nk) _ J2.out.1 J2.out.2).mono ?_; rintro e w1 ⟨rfl, rfl⟩
      go_wp2_with fail
      refine (c_szIntS_no pc nr qc (left - nk - nl) _ J3.out.1 J3.out.2.1 J3.out.2.2.1 J3.out.2.2.2).mono ?_; rintro e w1 ⟨rfl, rfl⟩
      go_wp2_with fail
      go_ret
      exact ⟨rfl, HB.out⟩
set_option maxHeartbeats 3200000 in
theorem c_eqTree (a b c a' b' c' : Value) (x : T) (w : World) (hA : TreeAt w a b c x) (hB : TreeAt w a' b' c' x) (hm : wtT x ≤ 1048576) : Calls Try.prog 17 #[tv a b c x.t, tv a' b' c' x.t] w fun e w' => e = .returned (.bool true) ∧ Below w.heap.size w w' := by
  obtain ⟨zk, zl, zr, t⟩ := x
  have HB := Lib.hid ((below1 w (.cells (t4 a b c t) 24)).alloc (by simp) (.cells (t4 a' b' c' t) 24))
  have h1 := hA.below HB.out
  have h2 := hB.below HB.out
  have hm1 : zk.length ≤ 9223372036854775806 ∧ zl.length ≤ 9223372036854775806 ∧ zr.length ≤ 9223372036854775806 := by unfold wtT at hm; simp only at hm; omega
  have HM := Lib.hid hm1
  simp only
  generalize hw0 : (w.alloc (.cells (t4 a b c t) 24)).alloc (.cells (t4 a' b' c' t) 24) = w0 at h1 h2
  have q1 : w0.cell? ⟨w.heap.size, 0, none⟩ = some a ∧ w0.cell? ⟨w.heap.size, 1, none⟩ = some b ∧ w0.cell? ⟨w.heap.size, 2, none⟩ = some c ∧ w0.cell? ⟨w.heap.size, 3, none⟩ = some (.int .i64 t) := by
    have R : RowTr w0 w.heap.size a b c t := by rw [← hw0]; exact Row.alloc (Row.new w 24 (t4 a b c t)) _
    exact ⟨R.c0, R.c1, R.c2, R.c3⟩
  have q2 : w0.cell? ⟨w.heap.size + 1, 0, none⟩ = some a' ∧ w0.cell? ⟨w.heap.size + 1, 1, none⟩ = some b' ∧ w0.cell? ⟨w.heap.size + 1, 2, none⟩ = some c' ∧ w0.cell? ⟨w.heap.size + 1, 3, none⟩ = some (.int .i64 t) := by
    have R : RowTr w0 (w.heap.size + 1) a' b' c' t := by rw [← hw0]; exact Row.new1 w _ 24 (t4 a' b' c' t)
    exact ⟨R.c0, R.c1, R.c2, R.c3⟩
  have C1 : Hid (∀ n, Calls Try.prog 35 #[a, a'] (w0.drewN n) fun e w' => e = .returned (.bool true) ∧ ∃ n, w' = w0.drewN n) := fun n => Calls.quiet_of ((c_eqIntS a a' zk zk (w0.drewN n) h1.k h2.k HM.out.1).mono fun _ _ ⟨he, hw⟩ => ⟨he.trans (r_b (decide_eq_true rfl)), hw⟩)
  have C2 : Hid (∀ n, Calls Try.prog 35 #[b, b'] (w0.drewN n) fun e w' => e = .returned (.bool true) ∧ ∃ n, w' = w0.drewN n) := fun n => Calls.quiet_of ((c_eqIntS b b' zl zl (w0.drewN n) h1.l h2.l HM.out.2.1).mono fun _ _ ⟨he, hw⟩ => ⟨he.trans (r_b (decide_eq_true rfl)), hw⟩)
  have C3 : Hid (∀ n, Calls Try.prog 35 #[c, c'] (w0.drewN n) fun e w' => e = .returned (.bool true) ∧ ∃ n, w' = w0.drewN n) := fun n => Calls.quiet_of ((c_eqIntS c c' zr zr (w0.drewN n) h1.r h2.r HM.out.2.2).mono fun _ _ ⟨he, hw⟩ => ⟨he.trans (r_b (decide_eq_true rfl)), hw⟩)
  obtain ⟨p1, p2, p3, p4⟩ := q1
  obtain ⟨p5, p6, p7, p8⟩ := q2
  have hnn : (t != t) = false := by simp
  have HLT := Lib.hid (show w.heap.size + 1 < w0.heap.size by rw [← hw0]; simp)
  clear hA hB h1 h2 hm1 hm
  rw [hw0] at HB
  have HW := Lib.hid hw0
  clear hw0
  go_enter Try.func17, Try.ntmps17
  go_wp2_with fail
  rw [HW.out]
  refine (C1.out 0).mono ?_; rintro e w1 ⟨rfl, n1, rfl⟩
  go_wp2_with fail
  refine (C2.out _).mono ?_; rintro e w1 ⟨rfl, n2, rfl⟩
  go_wp2_with fail
  refine (C3.out _).mono ?_; rintro e w1 ⟨rfl, n3, rfl⟩
  go_wp2_with fail
  go_ret
  exact ⟨rfl, below_drewN HB.out _⟩
def szMT (x : T) : Nat := x.k.length + x.l.length + x.r.length
def markT (k : Int) (x : T) : T := ⟨upFrom k x.k.length, upFrom (k + x.k.length) x.l.length, upFrom (k + x.k.length + x.l.length) x.r.length, x.t⟩
set_option maxRecDepth 100000 in
set_option maxHeartbeats 1600000 in
theorem c_markTree (lo hi : Nat) (a b c : Value) (x : T) (k : Int) (w : World) (hown : OwnT w lo hi a b c x) (h0 : 0 ≤ k) (hm : k + szMT x ≤ 9223372036854775806) (hs : hi ≤ w.heap.size) :
    Calls Try.prog 18 #[tv a b c x.t, .int .i64 k] w fun e w' => e = .returned (.int .i64 (k + szMT x)) ∧ OwnT w' lo hi a b c (markT k x) ∧ Chg lo hi w w' := by
  have hb0 := below1 w (.cells (t4 a b c x.t) 24)
  have O0 := Lib.hid (hown.below hb0)
  have C0 := Lib.hid (Chg.of_below (lo := lo) (hi := hi) hb0)
  have R0 := Lib.hid (show RowTr _ _ a b c x.t from Row.new w 24 (t4 a b c x.t))
  have hmk : k + szMT x = k + x.k.length + x.l.length + x.r.length := by unfold szMT; omega
  rw [hmk] at hm ⊢
  have J1 : Hid (k + x.k.length ≤ 9223372036854775806 ∧ 0 ≤ k + x.k.length ∧ k + x.k.length + x.l.length ≤ 9223372036854775806 ∧ 0 ≤ k + x.k.length + x.l.length ∧ k + x.k.length + x.l.length + x.r.length ≤ 9223372036854775806) := ⟨by omega, by omega, by omega, by omega, by omega⟩
  have HS := Lib.hid hs
  clear hb0 hmk hm hs hown
  have c0 := R0.out.c0
  go_enter Try.func18, Try.ntmps18
  go_wp2_with fail
  clear c0
  refine (c_markZ k O0.out.k h0 J1.out.1).mono ?_
  rintro e w1 ⟨rfl, ok1, g1, ch1⟩
  have ol1 := Lib.hid (O0.out.l.grown g1 fun i hi e => O0.out.ab i e hi)
  have or1 := Lib.hid (O0.out.r.grown g1 fun i hi e => O0.out.ac i e hi)
  have R1 : Hid (RowTr _ _ a b c x.t) := Row.chg R0.out ch1 (.inr HS.out)
  have C1 := Lib.hid (C0.out.trans ch1)
  have ok1 := Lib.hid ok1
  clear g1 ch1
  have c1 := R1.out.c1
  go_wp2_with fail
  clear c1
  refine (c_markZ _ ol1.out J1.out.2.1 J1.out.2.2.1).mono ?_
  rintro e w2 ⟨rfl, ol2, g2, ch2⟩
  have ok2 := Lib.hid (ok1.out.grown g2 fun i hi e => O0.out.ab i hi e)
  have or2 := Lib.hid (or1.out.grown g2 fun i hi e => O0.out.bc i e hi)
  have R2 : Hid (RowTr _ _ a b c x.t) := Row.chg R1.out ch2 (.inr HS.out)
  have C2 := Lib.hid (C1.out.trans ch2)
  have ol2 := Lib.hid ol2
  clear g2 ch2
  have c2 := R2.out.c2
  go_wp2_with fail
  clear c2
  refine (c_markZ _ or2.out J1.out.2.2.2.1 J1.out.2.2.2.2).mono ?_
  rintro e w3 ⟨rfl, or3, g3, ch3⟩
  have ok3 := ok2.out.grown g3 fun i hi e => O0.out.ac i hi e
  have ol3 := ol2.out.grown g3 fun i hi e => O0.out.bc i hi e
  have C3 := C2.out.trans ch3
  have OT : Hid (OwnT w3 lo hi a b c (markT k x)) := ⟨ok3, ol3, or3, O0.out.ab, O0.out.ac, O0.out.bc⟩
  have HC := Lib.hid C3
  clear ok3 ol3 or3 g3 ch3 C3
  go_wp2_with fail
  go_ret
  exact ⟨rfl, OT.out, HC.out⟩
set_option maxRecDepth 100000 in
set_option maxHeartbeats 1600000 in
theorem c_heldTree (a b c : Value) (x : T) (k : Int) (w : World) (hA : TreeAt w a b c (markT k x)) (h0 : 0 ≤ k) (hm : k + szMT x ≤ 9223372036854775806) :
    Calls Try.prog 19 #[tv a b c x.t, .int .i64 k] w fun e w' => e = .returned (.int .i64 (k + szMT x)) ∧ Below w.heap.size w w' := by
  have HB := Lib.hid (below1 w (.cells (t4 a b c x.t) 24))
  have hA0 := hA.below HB.out
  have R0 := Lib.hid (show RowTr _ _ a b c x.t from Row.new w 24 (t4 a b c x.t))
  have hmk : k + szMT x = k + x.k.length + x.l.length + x.r.length := by unfold szMT; omega
  rw [hmk] at hm ⊢
  have J1 : Hid (k + x.k.length ≤ 9223372036854775806 ∧ 0 ≤ k + x.k.length ∧ k + x.k.length + x.l.length ≤ 9223372036854775806 ∧ 0 ≤ k + x.k.length + x.l.length ∧ k + x.k.length + x.l.length + x.r.length ≤ 9223372036854775806) := ⟨by omega, by omega, by omega, by omega, by omega⟩
  have i1 : ¬ k + (x.k.length : Int) < 0 := by omega
  have i2 : ¬ k + (x.k.length : Int) + (x.l.length : Int) < 0 := by omega
  have i3 : ¬ k + (x.k.length : Int) + (x.l.length : Int) + (x.r.length : Int) < 0 := by omega
  have K1 := Lib.hid (c_heldIntS a x.k.length k _ hA0.k h0 J1.out.1)
  have K2 := Lib.hid (c_heldIntS b x.l.length (k + x.k.length) _ hA0.l J1.out.2.1 J1.out.2.2.1)
  have K3 := Lib.hid (c_heldIntS c x.r.length (k + x.k.length + x.l.length) _ hA0.r J1.out.2.2.2.1 J1.out.2.2.2.2)
  clear hA hA0 hmk hm J1
  have c0 := R0.out.c0
  have c1 := R0.out.c1
  have c2 := R0.out.c2
  go_enter Try.func19, Try.ntmps19
  go_wp2_with fail
  refine K1.out.mono ?_
  rintro e w1 ⟨rfl, rfl⟩
  go_wp2_with fail
  refine K2.out.mono ?_
  rintro e w1 ⟨rfl, rfl⟩
  go_wp2_with fail
  refine K3.out.mono ?_
  rintro e w1 ⟨rfl, rfl⟩
  go_wp2_with fail
  go_ret
  exact ⟨rfl, HB.out⟩
set_option maxRecDepth 100000 in
set_option maxHeartbeats 3200000 in
theorem c_toTree (a b c : Value) (x : T) (w : World) (hA : TreeAt w a b c x) (hm : wtT x ≤ 1048576) : Calls Try.prog 22 #[tv a b c x.t] w fun e w' => ∃ a' b' c', e = .returned (tv a' b' c' x.t) ∧ OwnT w' w.heap.size w'.heap.size a' b' c' x ∧ Below w.heap.size w w' := by
  have HM : Hid (x.k.length ≤ 1048576 ∧ x.l.length ≤ 1048576 ∧ x.r.length ≤ 1048576) := by unfold Hid; unfold wtT at hm; omega
  clear hm
  obtain ⟨⟨pa, qa, rfl⟩, ⟨pb, qb, rfl⟩, ⟨pc, qc, rfl⟩⟩ := hA.shapes
  generalize hnk : x.k.length = nk at *
  generalize hnl : x.l.length = nl at *
  generalize hnr : x.r.length = nr at *
  have HNK := Lib.hid hnk; have HNL := Lib.hid hnl; have HNR := Lib.hid hnr
  clear hnk hnl hnr
  have hb0 := (((below1 w (.cells (t4 (.slice pa nk qa) (.slice pb nl qb) (.slice pc nr qc) x.t) 29)).alloc (by simp) (.cells (t4 nilT nilT nilT 0) 24)).alloc (by simp; omega) (.cells (t4 nilT nilT nilT 0) 24))
  have rp : Row _ w.heap.size 29 (t4 (.slice pa nk qa) (.slice pb nl qb) (.slice pc nr qc) x.t) := ((Row.new w 29 (t4 (.slice pa nk qa) (.slice pb nl qb) (.slice pc nr qc) x.t)).alloc (.cells (t4 nilT nilT nilT 0) 24)).alloc (.cells (t4 nilT nilT nilT 0) 24)
  have r1 : RowTr _ (w.heap.size + 1) nilT nilT nilT 0 := (Row.new1 w (.cells (t4 (.slice pa nk qa) (.slice pb nl qb) (.slice pc nr qc) x.t) 29) 24 (t4 nilT nilT nilT 0)).alloc (.cells (t4 nilT nilT nilT 0) 24)
  have r2 : RowTr _ (w.heap.size + 1 + 1) nilT nilT nilT 0 := Row.new2 w (.cells (t4 (.slice pa nk qa) (.slice pb nl qb) (.slice pc nr qc) x.t) 29) (.cells (t4 nilT nilT nilT 0) 24) 24 (t4 nilT nilT nilT 0)
  have HA := Lib.hid hA
  have HB := Lib.hid hb0; have RP := Lib.hid rp; have R1 := Lib.hid r1; have R2 := Lib.hid r2
  clear hb0 rp r1 r2 hA
  have hsz : Hid (w.heap.size + 3 = (((w.alloc (.cells (t4 (.slice pa nk qa) (.slice pb nl qb) (.slice pc nr qc) x.t) 29)).alloc (.cells (t4 nilT nilT nilT 0) 24)).alloc (.cells (t4 nilT nilT nilT 0) 24)).heap.size) := by unfold Hid; simp
  go_enter Try.func22, Try.ntmps22
  have k0 := Row.cell RP.out 0
  go_wp2_with fail
  clear k0
  refine (c_toIntS _ x.k _ (HA.out.k.below HB.out) (by rw [HNK.out]; exact HM.out.1)).mono ?_
  rintro e w1 ⟨v1, rfl, ho1, hb1⟩
  obtain ⟨p1, q1, hv1⟩ := ho1.ints.shape
  rw [HNK.out] at hv1
  subst hv1
  have RP1 := Lib.hid (Row.below RP.out hb1); have R11 := Lib.hid (R1.out.below hb1); have R21 := Lib.hid (R2.out.below hb1)
  have HB1 := Lib.hid (bst HB.out hb1 HB.out.size)
  have O1 : Hid (OwnZ w1 (w.heap.size + 3) w1.heap.size (.slice p1 nk q1) x.k) := by unfold Hid; rw [hsz.out]; exact OwnZ.of ho1
  have Z1 : Hid (w.heap.size + 3 ≤ w1.heap.size) := by unfold Hid; rw [hsz.out]; exact hb1.size
  clear ho1 hb1 HB RP R1 R2 hsz
  have f0 := Row.frozen R21.out 0
  have k0 := R21.out.c0
  have k1 := Row.cell RP1.out 1
  have k2 := Row.cell RP1.out 2
  have k3 := Row.cell RP1.out 3
  go_wp2_with fail
  clear f0 k0 k1 k2 k3
  have RP2 := Lib.hid (Row.other RP1.out ⟨w.heap.size + 1 + 1, 0, none⟩ (by simp; omega) (.slice p1 nk q1))
  have R12 : Hid (RowTr _ _ _ _ _ _) := Row.other R11.out ⟨w.heap.size + 1 + 1, 0, none⟩ (by simp) (.slice p1 nk q1)
  have R22 := Lib.hid (R21.out.set0 (.slice p1 nk q1))
  have HB2 := Lib.hid (HB1.out.setCell (p := ⟨w.heap.size + 1 + 1, 0, none⟩) (by simp; omega) (.slice p1 nk q1))
  have O2 : Hid (OwnZ (w1.setCell ⟨w.heap.size + 1 + 1, 0, none⟩ (.slice p1 nk q1)) (w.heap.size + 3) w1.heap.size (.slice p1 nk q1) x.k) := O1.out.cell ⟨w.heap.size + 1 + 1, 0, none⟩ (by simp) _
  have s2 : Hid ((w1.setCell ⟨w.heap.size + 1 + 1, 0, none⟩ (.slice p1 nk q1)).heap.size = w1.heap.size) := World.size_setCell _ _ _
  clear RP1 R11 R21 HB1 O1
  generalize w1.setCell ⟨w.heap.size + 1 + 1, 0, none⟩ (.slice p1 nk q1) = w2 at *
  rw [← s2.out] at O2 Z1
  clear s2
  refine (c_toIntS _ x.l _ (HA.out.l.below HB2.out) (by rw [HNL.out]; exact HM.out.2.1)).mono ?_
  rintro e w3 ⟨v3, rfl, ho3, hb3⟩
  obtain ⟨p3, q3, hv3⟩ := ho3.ints.shape
  rw [HNL.out] at hv3
  subst hv3
  have RP3 := Lib.hid (Row.below RP2.out hb3); have R13 := Lib.hid (R12.out.below hb3); have R23 := Lib.hid (R22.out.below hb3)
  have HB3 := Lib.hid (bst HB2.out hb3 HB2.out.size)
  have O3 := Lib.hid (O2.out.below hb3)
  have Q3 : Hid (OwnZ w3 w2.heap.size w3.heap.size (.slice p3 nl q3) x.l) := OwnZ.of ho3
  have Z3 : Hid (w2.heap.size ≤ w3.heap.size) := hb3.size
  clear ho3 hb3 RP2 R12 R22 HB2 O2
  have f1 := Row.frozen R23.out 1
  have k0 := R23.out.c1
  have k1 := Row.cell RP3.out 2
  have k2 := Row.cell RP3.out 3
  go_wp2_with fail
  clear f1 k0 k1 k2
  have RP4 := Lib.hid (Row.other RP3.out ⟨w.heap.size + 1 + 1, 1, none⟩ (by simp; omega) (.slice p3 nl q3))
  have R14 : Hid (RowTr _ _ _ _ _ _) := Row.other R13.out ⟨w.heap.size + 1 + 1, 1, none⟩ (by simp) (.slice p3 nl q3)
  have R24 := Lib.hid (R23.out.set1 (.slice p3 nl q3))
  have HB4 := Lib.hid (HB3.out.setCell (p := ⟨w.heap.size + 1 + 1, 1, none⟩) (by simp; omega) (.slice p3 nl q3))
  have O4 : Hid (OwnZ (w3.setCell ⟨w.heap.size + 1 + 1, 1, none⟩ (.slice p3 nl q3)) (w.heap.size + 3) w2.heap.size (.slice p1 nk q1) x.k) := O3.out.cell ⟨w.heap.size + 1 + 1, 1, none⟩ (by simp) _
  have Q4 : Hid (OwnZ (w3.setCell ⟨w.heap.size + 1 + 1, 1, none⟩ (.slice p3 nl q3)) w2.heap.size w3.heap.size (.slice p3 nl q3) x.l) := Q3.out.cell ⟨w.heap.size + 1 + 1, 1, none⟩ (by have := Z1.out; simp; omega) _
  have s4 : Hid ((w3.setCell ⟨w.heap.size + 1 + 1, 1, none⟩ (.slice p3 nl q3)).heap.size = w3.heap.size) := World.size_setCell _ _ _
  clear RP3 R13 R23 HB3 O3 Q3
  generalize w3.setCell ⟨w.heap.size + 1 + 1, 1, none⟩ (.slice p3 nl q3) = w4 at *
  rw [← s4.out] at Q4 Z3
  clear s4
  refine (c_toIntS _ x.r _ (HA.out.r.below HB4.out) (by rw [HNR.out]; exact HM.out.2.2)).mono ?_
  rintro e w5 ⟨v5, rfl, ho5, hb5⟩
  obtain ⟨p5, q5, hv5⟩ := ho5.ints.shape
  rw [HNR.out] at hv5
  subst hv5
  have RP5 := Lib.hid (Row.below RP4.out hb5); have R15 := Lib.hid (R14.out.below hb5); have R25 := Lib.hid (R24.out.below hb5)
  have HB5 := Lib.hid (bst HB4.out hb5 HB4.out.size)
  have O5 := Lib.hid (O4.out.below hb5)
  have Q5 := Lib.hid (Q4.out.below hb5)
  have P5 : Hid (OwnZ w5 w4.heap.size w5.heap.size (.slice p5 nr q5) x.r) := OwnZ.of ho5
  have Z5 : Hid (w4.heap.size ≤ w5.heap.size) := hb5.size
  clear ho5 hb5 RP4 R14 R24 HB4 O4 Q4
  have OT : Hid (OwnT w5 (w.heap.size + 3) w5.heap.size (.slice p1 nk q1) (.slice p3 nl q3) (.slice p5 nr q5) x) :=
    ⟨O5.out.wide (Nat.le_refl _) (by have := Z3.out; have := Z5.out; omega), Q5.out.wide Z1.out (by have := Z5.out; omega), P5.out.wide (by have := Z1.out; have := Z3.out; omega) (Nat.le_refl _), apart_of O5.out Q5.out (Nat.le_refl _), apart_of O5.out P5.out Z3.out, apart_of Q5.out P5.out (Nat.le_refl _)⟩
  have ZZ : Hid (w.heap.size + 3 ≤ w5.heap.size) := by have := Z1.out; have := Z3.out; have := Z5.out; unfold Hid; omega
  clear O5 Q5 P5 Z1 Z3 Z5
  have f2 := Row.frozen R25.out 2
  have k0 := R25.out.c2
  have k1 := Row.cell RP5.out 3
  have f3 := Row.frozen R25.out 3
  have k4 := R25.out.c3
  have RP6 := Lib.hid (Row.cell (Row.other RP5.out ⟨w.heap.size + 1 + 1, 2, none⟩ (by simp; omega) (.slice p5 nr q5)) 3)
  have R16 : Hid (RowTr _ _ _ _ _ _) := Row.other (Row.other R15.out ⟨w.heap.size + 1 + 1, 2, none⟩ (by simp) (.slice p5 nr q5)) ⟨w.heap.size + 1 + 1, 3, none⟩ (by simp) (.int .i64 x.t)
  have R26a := R25.out.set2 (.slice p5 nr q5)
  have R26 := Lib.hid (R26a.set3 x.t)
  have f4 := Row.frozen R26a 3
  have k5 := R26a.c3
  have k6 := RP6.out
  clear R26a
  have HB6 := Lib.hid ((HB5.out.setCell (p := ⟨w.heap.size + 1 + 1, 2, none⟩) (by simp; omega) (.slice p5 nr q5)).setCell (p := ⟨w.heap.size + 1 + 1, 3, none⟩) (by simp; omega) (.int .i64 x.t))
  have OT6 : Hid (OwnT ((w5.setCell ⟨w.heap.size + 1 + 1, 2, none⟩ (.slice p5 nr q5)).setCell ⟨w.heap.size + 1 + 1, 3, none⟩ (.int .i64 x.t)) (w.heap.size + 3) w5.heap.size (.slice p1 nk q1) (.slice p3 nl q3) (.slice p5 nr q5) x) :=
    (OT.out.cell ⟨w.heap.size + 1 + 1, 2, none⟩ (by simp) _).cell ⟨w.heap.size + 1 + 1, 3, none⟩ (by simp) _
  have s6 : Hid (((w5.setCell ⟨w.heap.size + 1 + 1, 2, none⟩ (.slice p5 nr q5)).setCell ⟨w.heap.size + 1 + 1, 3, none⟩ (.int .i64 x.t)).heap.size = w5.heap.size) := by unfold Hid; rw [World.size_setCell, World.size_setCell]
  rw [← s6.out] at OT6 ZZ
  clear s6 OT HB5 R15 R25 RP5 RP6
  go_wp2_with (first
    | (refine wl_loadTr rfl _ rfl (w.heap.size + 1 + 1) _ _ _ _ R26.out rfl ?_)
    | (refine wl_storeTr rfl _ _ rfl (w.heap.size + 1) (.slice p1 nk q1) (.slice p3 nl q3) (.slice p5 nr q5) x.t _ _ _ _ R16.out rfl rfl rfl rfl rfl ?_))
  refine bodyPost_ret (res_row Try.results22 (Row.put R16.out (t4 (.slice p1 nk q1) (.slice p3 nl q3) (.slice p5 nr q5) x.t)) rfl Try.underlying24 rfl info_tree) rfl ⟨_, _, _, rfl, ?_, below_setRow HB6.out (by omega) _⟩
  have := OT6.out.whole (w.heap.size + 1) (by omega) (t4 (.slice p1 nk q1) (.slice p3 nl q3) (.slice p5 nr q5) x.t)
  rw [size_setRow]
  exact this.wide (by omega) (Nat.le_refl _)
end Go.Proofs.Ytejaebmbhcgngaa
namespace Go.Proofs.Ytejaebmbhcgngaa
open Go.RowKit Ph

set_option maxHeartbeats 800000 in
theorem s_l1In (z lo hi : Int) (w : World) : Calls Try.prog 77 #[.int .i64 z, .int .i64 lo, .int .i64 hi] w fun e w' => e = .returned (.bool (decide (lo ≤ z) && decide (z ≤ hi))) ∧ w = w' := by
  generalize hx : (decide (lo ≤ z) && decide (z ≤ hi)) = x
  by_cases h1 : lo ≤ z
  · by_cases h2 : z ≤ hi
    · have HE : Hid (x = true) := by unfold Hid; rw [← hx]; simp [h1, h2]
      clear hx
      go_enter Try.func77, Try.ntmps77
      go_wp2
      go_ret
      exact ⟨r_b HE.out.symm, rfl⟩
    · have HE : Hid (x = false) := by unfold Hid; rw [← hx]; simp [h2]
      clear hx
      go_enter Try.func77, Try.ntmps77
      go_wp2
      go_ret
      exact ⟨r_b HE.out.symm, rfl⟩
  · have HE : Hid (x = false) := by unfold Hid; rw [← hx]; simp [h1]
    clear hx
    go_enter Try.func77, Try.ntmps77
    go_wp2
    go_ret
    exact ⟨r_b HE.out.symm, rfl⟩
end Go.Proofs.Ytejaebmbhcgngaa
namespace Go.Proofs.Ytejaebmbhcgngaa
open Go.RowKit Ph

theorem OwnBs.stored {w : World} {B g n cap : Nat} {S : List Bool} (h : OwnBs w B (.slice (some ⟨g, 0, none⟩) n cap) S) (hn : S.length = n) {z : Nat} (hz : z < n) (x : Bool) : OwnBs (w.setCell ⟨g, z, none⟩ (.bool x)) B (.slice (some ⟨g, 0, none⟩) n cap) (S.set z x) ∧ w.grownBy (w.setCell ⟨g, z, none⟩ (.bool x)) (some g) ∧ w.cell? ⟨g, z, none⟩ = some (.bool (S.getD z false)) ∧ w.frozen? ⟨g, z, none⟩ = false := by
  unfold OwnBs at h
  rw [hn] at h
  obtain ⟨s1, s2⟩ := h.stored z (.bool x)
  refine ⟨?_, s2, ?_, h.frozenAt z⟩
  · unfold OwnBs
    rw [List.length_set, hn, List.map_set]
    exact s1
  · rw [h.cellAt z (by omega), List.getElem?_map, List.getElem?_eq_getElem (by omega)]
    simp [List.getD, List.getElem?_eq_getElem (show z < S.length by omega)]
end Go.Proofs.Ytejaebmbhcgngaa
namespace Go.Proofs.Ytejaebmbhcgngaa
open Go.RowKit Ph

theorem rep_bools (n : Nat) : (madeCells (Value.bool false).cells (n * 1)).toList = (List.replicate n false).map Value.bool := by
  rw [Nat.mul_one, show (Value.bool false).cells = #[.bool false] from rfl, toList_madeCells_one, List.map_replicate]
end Go.Proofs.Ytejaebmbhcgngaa
namespace Go.Proofs.Ytejaebmbhcgngaa.Ph
theorem left_rep (n : Nat) : left (List.replicate n false) = n := by unfold left; simp
end Go.Proofs.Ytejaebmbhcgngaa.Ph
namespace Go.Proofs.Ytejaebmbhcgngaa.Ph
def inB (lo hi z : Int) : Bool := decide (lo ≤ z) && decide (z ≤ hi)
theorem inAll_take_succ {lo hi : Int} {zs : List Int} {k : Nat} (h : k < zs.length) : (zs.take (k + 1)).all (inB lo hi) = ((zs.take k).all (inB lo hi) && inB lo hi (zs.getD k 0)) := by
  have e : zs.getD k 0 = zs[k] := by simp [List.getD, List.getElem?_eq_getElem h]
  rw [List.take_succ_eq_append_getElem h, List.all_append, e]; simp
theorem inAll_false {lo hi : Int} {zs : List Int} {k : Nat} (h : k < zs.length) (hn : inB lo hi (zs.getD k 0) = false) : zs.all (inB lo hi) = false := by
  cases hq : zs.all (inB lo hi) with
  | false => rfl
  | true =>
    have e : zs.getD k 0 = zs[k] := by simp [List.getD, List.getElem?_eq_getElem h]
    have := (List.all_eq_true.1 hq) zs[k] (List.getElem_mem h)
    rw [e] at hn; rw [hn] at this; cases this
end Go.Proofs.Ytejaebmbhcgngaa.Ph
namespace Go.Proofs.Ytejaebmbhcgngaa
open Go.RowKit Ph

set_option maxHeartbeats 1600000 in
theorem s_l1All (v : Value) (zs : List Int) (lo hi : Int) (w : World) (hz : IntsAt w v zs) (hm : zs.length ≤ 9223372036854775806) : Calls Try.prog 76 #[v, .int .i64 lo, .int .i64 hi] w fun e w' => e = .returned (.bool (zs.all (inB lo hi))) ∧ w = w' := by
  obtain ⟨va, vc, rfl, hA⟩ := hz
  have HA := Lib.hid hA
  clear hA
  generalize hn : zs.length = n at *
  have HN := Lib.hid hn; clear hn
  go_enter Try.func76, Try.ntmps76
  go_wp2
  go_loop [11] (fun i => ∃ k : Nat, k ≤ n ∧ i = .int .i64 k ∧ Hid ((zs.take k).all (inB lo hi) = true)) (fun i => n - (intOf i).toNat)
  case atStart => exact ⟨0, Nat.zero_le _, rfl, by simp [Hid]⟩
  case round =>
    obtain ⟨k, hk, rfl, ht⟩ := hrel
    by_cases hlt : k < n
    · obtain ⟨g, off, rfl, hc⟩ := HA.out (by omega)
      have q := hc k hlt
      have i1 : (k : Int) < (n : Int) := by omega
      have hs := inAll_take_succ (lo := lo) (hi := hi) (zs := zs) (k := k) (by rw [HN.out]; exact hlt)
      have hf := inAll_false (lo := lo) (hi := hi) (zs := zs) (k := k) (by rw [HN.out]; exact hlt)
      have HS := Lib.hid hs; have HF := Lib.hid hf
      clear hc hs hf
      generalize zs.getD k 0 = z at *
      have hcall : Calls Try.prog 77 #[.int .i64 z, .int .i64 lo, .int .i64 hi] w fun e w' => e = .returned (.bool (inB lo hi z)) ∧ w = w' := s_l1In z lo hi w
      have HC := Lib.hid hcall
      clear hcall
      generalize hx : inB lo hi z = x at *
      clear hx
      cases x
      · have HE : Hid (zs.all (inB lo hi) = false) := HF.out rfl
        clear HS HF
        go_wp2_with (go_at_call 77; refine HC.out.mono ?_; rintro e w1 ⟨rfl, rfl⟩)
        go_ret
        exact ⟨r_b HE.out.symm, rfl⟩
      · have HE : Hid ((zs.take (k + 1)).all (inB lo hi) = true) := by unfold Hid; rw [HS.out, ht.out]; rfl
        clear HS HF
        go_wp2_with (go_at_call 77; refine HC.out.mono ?_; rintro e w1 ⟨rfl, rfl⟩)
        go_round
        case rel => exact ⟨k + 1, by omega, by go_num, HE.out⟩
        case measure => simp [intOf]; omega
    · have HE : Hid (zs.all (inB lo hi) = true) := by
        unfold Hid
        have := ht.out
        rwa [List.take_of_length_le (by rw [HN.out]; omega)] at this
      go_wp2
      go_ret
      exact ⟨r_b HE.out.symm, rfl⟩
end Go.Proofs.Ytejaebmbhcgngaa
namespace Go.Proofs.Ytejaebmbhcgngaa
namespace Tr
/-- The children in the order of the nodes, left ones first. -/
def cd (x : T) (p : Nat) : Int := if p % 2 = 0 then x.l.getD (p / 2) 0 else x.r.getD (p / 2) 0
def nm (x : T) : Nat → List Int
  | 0 => []
  | p + 1 => if 0 ≤ cd x p then nm x p ++ [cd x p] else nm x p
theorem cd_l (x : T) (k : Nat) : cd x (2 * k) = x.l.getD k 0 := by
  unfold cd; rw [if_pos (by omega), show 2 * k / 2 = k by omega]
theorem cd_r (x : T) (k : Nat) : cd x (2 * k + 1) = x.r.getD k 0 := by
  unfold cd; rw [if_neg (by omega), show (2 * k + 1) / 2 = k by omega]
theorem nm_mem {x : T} {z : Int} : ∀ {p : Nat}, z ∈ nm x p ↔ 0 ≤ z ∧ ∃ q, q < p ∧ cd x q = z
  | 0 => by simp [nm]
  | p + 1 => by
    have ih := nm_mem (x := x) (z := z) (p := p)
    unfold nm
    split
    · rename_i h
      rw [List.mem_append, ih, List.mem_singleton]
      constructor
      · rintro (⟨h0, q, hq, e⟩ | rfl)
        · exact ⟨h0, q, by omega, e⟩
        · exact ⟨h, p, by omega, rfl⟩
      · rintro ⟨h0, q, hq, e⟩
        by_cases hp : q = p
        · subst hp; exact .inr e.symm
        · exact .inl ⟨h0, q, by omega, e⟩
    · rename_i h
      rw [ih]
      constructor
      · rintro ⟨h0, q, hq, e⟩; exact ⟨h0, q, by omega, e⟩
      · rintro ⟨h0, q, hq, e⟩
        by_cases hp : q = p
        · subst hp; omega
        · exact ⟨h0, q, by omega, e⟩
theorem nm_len (x : T) : ∀ p, (nm x p).length ≤ p
  | 0 => Nat.le_refl _
  | p + 1 => by
    have := nm_len x p
    unfold nm
    split
    · rw [List.length_append]; simp; exact this
    · omega
def OkAt (x : T) (q : Nat) : Prop := 0 ≤ cd x q → (∀ p, p < q → cd x p ≠ cd x q) ∧ x.k.getD (q / 2) 0 ≤ x.k.getD (cd x q).toNat 0
theorem okAt_no {x : T} {q : Nat} (h0 : 0 ≤ cd x q) (h : (nm x q).contains (cd x q) = true ∨ x.k.getD (cd x q).toNat 0 < x.k.getD (q / 2) 0) : ¬ OkAt x q := by
  intro ho
  obtain ⟨h1, h2⟩ := ho h0
  rcases h with h | h
  · rw [List.contains_iff_mem, nm_mem] at h
    obtain ⟨_, p, hp, e⟩ := h
    exact h1 p hp e
  · omega
theorem okAt_yes {x : T} {q : Nat} (h : 0 ≤ cd x q → (nm x q).contains (cd x q) = false ∧ ¬ x.k.getD (cd x q).toNat 0 < x.k.getD (q / 2) 0) : OkAt x q := by
  intro h0
  obtain ⟨h1, h2⟩ := h h0
  refine ⟨fun p hp e => ?_, by omega⟩
  have : (nm x q).contains (cd x q) = true := by rw [List.contains_iff_mem, nm_mem]; exact ⟨h0, p, hp, e⟩
  rw [h1] at this; cases this
theorem inj_okAt {x : T} {n : Nat} : (Inj x.l x.r n ∧ ∀ i, i < n → OrdAt x i) ↔ ∀ q, q < 2 * n → OkAt x q := by
  constructor
  · rintro ⟨hi, ho⟩ q hq h0
    have hqn : q / 2 < n := by omega
    have C : ∀ p, p < q → cd x p ≠ cd x q := by
      intro p hp e
      have hpn : p / 2 < n := by omega
      obtain ⟨a1, a2, a3⟩ := hi (p / 2) (q / 2) hpn hqn
      obtain ⟨b1, b2, b3⟩ := hi (q / 2) (p / 2) hqn hpn
      have h0' : 0 ≤ cd x p := by omega
      unfold cd at e h0 h0'
      split at e <;> split at e
      · have := a1 (by simp_all) e; omega
      · exact a3 (by simp_all) e
      · exact b3 (by simp_all) e.symm
      · have := a2 (by simp_all) e; omega
    refine ⟨C, ?_⟩
    obtain ⟨o1, o2⟩ := ho (q / 2) hqn
    unfold cd at h0 ⊢
    split
    · rename_i h; rw [if_pos h] at h0; exact o1 h0
    · rename_i h; rw [if_neg h] at h0; exact o2 h0
  · intro h
    have L : ∀ i, i < n → OkAt x (2 * i) := fun i hi => h _ (by omega)
    have R : ∀ i, i < n → OkAt x (2 * i + 1) := fun i hi => h _ (by omega)
    refine ⟨fun i j hi hj => ⟨fun h0 e => ?_, fun h0 e => ?_, fun h0 e => ?_⟩, fun i hi => ⟨fun h0 => ?_, fun h0 => ?_⟩⟩
    · rcases Nat.lt_trichotomy i j with q | q | q
      · exact absurd (by rw [cd_l, cd_l]; exact e) ((L j hj (by rw [cd_l]; omega)).1 (2 * i) (by omega))
      · exact q
      · exact absurd (by rw [cd_l, cd_l]; exact e.symm) ((L i hi (by rw [cd_l]; omega)).1 (2 * j) (by omega))
    · rcases Nat.lt_trichotomy i j with q | q | q
      · exact absurd (by rw [cd_r, cd_r]; exact e) ((R j hj (by rw [cd_r]; omega)).1 (2 * i + 1) (by omega))
      · exact q
      · exact absurd (by rw [cd_r, cd_r]; exact e.symm) ((R i hi (by rw [cd_r]; omega)).1 (2 * j + 1) (by omega))
    · by_cases q : i ≤ j
      · exact absurd (by rw [cd_l, cd_r]; exact e) ((R j hj (by rw [cd_r]; omega)).1 (2 * i) (by omega))
      · exact absurd (by rw [cd_l, cd_r]; exact e.symm) ((L i hi (by rw [cd_l]; omega)).1 (2 * j + 1) (by omega))
    · have := (L i hi (by rw [cd_l]; exact h0)).2
      rw [cd_l, show 2 * i / 2 = i by omega] at this; exact this
    · have := (R i hi (by rw [cd_r]; exact h0)).2
      rw [cd_r, show (2 * i + 1) / 2 = i by omega] at this; exact this
theorem noCh_iff {x : T} {n : Nat} {t : Int} : NoCh x.l x.r n t ↔ (nm x (2 * n)).contains t = false := by
  constructor
  · intro h
    cases e : (nm x (2 * n)).contains t
    · rfl
    · rw [List.contains_iff_mem, nm_mem] at e
      obtain ⟨h0, q, hq, e⟩ := e
      have := h (q / 2) (by omega)
      unfold cd at e
      split at e
      · exact absurd e (this.1 (by omega))
      · exact absurd e (this.2 (by omega))
  · intro h i hi
    have K : ∀ q, q < 2 * n → 0 ≤ cd x q → cd x q ≠ t := by
      intro q hq h0 e
      have : (nm x (2 * n)).contains t = true := by rw [List.contains_iff_mem, nm_mem]; exact ⟨by omega, q, hq, e⟩
      rw [h] at this; cases this
    have k1 := K (2 * i) (by omega)
    have k2 := K (2 * i + 1) (by omega)
    rw [cd_l] at k1
    rw [cd_r] at k2
    exact ⟨k1, k2⟩
theorem shp_of {x : T} (h1 : x.k.length ≤ 20) (h2 : x.l.length = x.k.length) (h3 : x.r.length = x.k.length) (h4 : x.k.all (Ph.inB 0 1000) = true) (h5 : x.l.all (Ph.inB (-1) ((x.k.length : Int) - 1)) = true) (h6 : x.r.all (Ph.inB (-1) ((x.k.length : Int) - 1)) = true) (h7 : -1 ≤ x.t ∧ x.t ≤ (x.k.length : Int) - 1) : Shp x := by
  have K : ∀ (zs : List Int) (lo hi : Int), zs.all (Ph.inB lo hi) = true → ∀ i, i < zs.length → lo ≤ zs.getD i 0 ∧ zs.getD i 0 ≤ hi := by
    intro zs lo hi h i hi'
    have := List.all_eq_true.1 h (zs.getD i 0) (by rw [List.getD, List.getElem?_eq_getElem hi']; simp)
    simpa [Ph.inB] using this
  exact ⟨h1, h2, h3, K _ _ _ h4, fun i hi => K _ _ _ h5 i (by omega), fun i hi => K _ _ _ h6 i (by omega), h7⟩
theorem shp_all {zs : List Int} {lo hi : Int} (h : ∀ i, i < zs.length → lo ≤ zs.getD i 0 ∧ zs.getD i 0 ≤ hi) : zs.all (Ph.inB lo hi) = true := by
  rw [List.all_eq_true]
  intro z hz
  obtain ⟨i, hi, rfl⟩ := List.getElem_of_mem hz
  have := h i hi
  rw [List.getD, List.getElem?_eq_getElem hi] at this
  simpa [Ph.inB] using this
theorem Shp.kall {x : T} (s : Shp x) : x.k.all (Ph.inB 0 1000) = true := shp_all s.ks
theorem Shp.lall {x : T} (s : Shp x) : x.l.all (Ph.inB (-1) ((x.k.length : Int) - 1)) = true := shp_all fun i hi => s.ls i (by have := s.l; omega)
theorem Shp.rall {x : T} (s : Shp x) : x.r.all (Ph.inB (-1) ((x.k.length : Int) - 1)) = true := shp_all fun i hi => s.rs i (by have := s.r; omega)
/-- What is valid, in the reference's words. -/
theorem good_iff {x : T} (s : Shp x) : Good x ↔ ((∀ q, q < 2 * x.k.length → OkAt x q) ∧ (nm x (2 * x.k.length)).contains x.t = false ∧ (∃ b, Rep x.l x.r x.t b ∧ 0 + b.sz = x.k.length) ∧ ∀ i, i < x.k.length → LeanAt x i) := by
  constructor
  · intro g
    obtain ⟨h1, h2, h3⟩ := (isT_iff s.l).1 g.i
    exact ⟨inj_okAt.1 ⟨h1, g.o⟩, noCh_iff.1 h2, h3, g.n⟩
  · rintro ⟨h1, h2, h3, h4⟩
    obtain ⟨a, b⟩ := inj_okAt.2 h1
    exact ⟨s, (isT_iff s.l).2 ⟨a, noCh_iff.2 h2, h3⟩, b, h4⟩
/-- A valid tree without nodes has no top. -/
theorem Good.top {x : T} (g : Good x) : x.t < 0 ↔ x.k.length = 0 := by
  constructor
  · intro h
    obtain ⟨b, hb, _, hs⟩ := g.i
    obtain rfl := hb.nil_of h
    exact hs.symm
  · intro h
    have := g.s.t; rw [h] at this; omega
theorem lean_iff {x : T} {i : Nat} {a b : BT} (ha : Rep x.l x.r (x.l.getD i 0) a) (hb : Rep x.l x.r (x.r.getD i 0) b) : LeanAt x i ↔ ¬ a.rk < b.rk := by
  constructor
  · intro h; have := h a b ha hb; omega
  · intro h c d hc hd
    rw [Rep.fn hc ha, Rep.fn hd hb]; omega
theorem nm_yes {x : T} {p : Nat} (h : 0 ≤ cd x p) : nm x (p + 1) = nm x p ++ [cd x p] := by rw [nm, if_pos h]
theorem nm_no {x : T} {p : Nat} (h : ¬ 0 ≤ cd x p) : nm x (p + 1) = nm x p := by rw [nm, if_neg h]
theorem ok_succ {x : T} {p : Nat} (h : ∀ q, q < p → OkAt x q) (k : OkAt x p) : ∀ q, q < p + 1 → OkAt x q := fun q hq => by
  by_cases e : q = p
  · subst e; exact k
  · exact h q (by omega)
end Tr
end Go.Proofs.Ytejaebmbhcgngaa
namespace Go.Proofs.Ytejaebmbhcgngaa
open Go.RowKit Ph Tr
abbrev N3 := Int × Int × Int
abbrev zN : N3 := (0, 0, 0)
def ndc (r : N3) : Nat → Int
  | 0 => r.1
  | 1 => r.2.1
  | _ => r.2.2
/-- The cells of a list of nodes. -/
def flatN (ms : List N3) : List Value := ms.flatMap fun r => [.int .i64 r.1, .int .i64 r.2.1, .int .i64 r.2.2]
theorem flatN_cons (r : N3) (rs : List N3) : flatN (r :: rs) = .int .i64 r.1 :: .int .i64 r.2.1 :: .int .i64 r.2.2 :: flatN rs := rfl
theorem flatN_length (rs : List N3) : (flatN rs).length = rs.length * 3 := by
  induction rs with
  | nil => rfl
  | cons r rs ih => rw [flatN_cons]; simp [ih]; omega
theorem flatN_get : ∀ (rs : List N3) (i j : Nat), i < rs.length → j < 3 → (flatN rs)[i * 3 + j]? = some (.int .i64 (ndc (rs.getD i zN) j))
  | [], i, j, h, _ => by simp at h
  | r :: rs, 0, j, _, hj => by
    have hc : j = 0 ∨ j = 1 ∨ j = 2 := by omega
    rcases hc with rfl | rfl | rfl <;> simp [flatN_cons, ndc]
  | r :: rs, i + 1, j, h, hj => by
    have := flatN_get rs i j (by simpa using h) hj
    rw [flatN_cons, show (i + 1) * 3 + j = (i * 3 + j) + 1 + 1 + 1 by omega]
    simpa using this
theorem flatN_set : ∀ (rs : List N3) (i : Nat) (m : N3), i < rs.length → (((flatN rs).set (i * 3) (.int .i64 m.1)).set (i * 3 + 1) (.int .i64 m.2.1)).set (i * 3 + 2) (.int .i64 m.2.2) = flatN (rs.set i m)
  | [], i, m, h => by simp at h
  | r :: rs, 0, m, _ => by simp [flatN_cons]
  | r :: rs, i + 1, m, h => by
    have := flatN_set rs i m (by simpa using h)
    rw [flatN_cons, show (i + 1) * 3 = i * 3 + 1 + 1 + 1 by omega, show i * 3 + 1 + 1 + 1 + 1 = (i * 3 + 1) + 1 + 1 + 1 by omega, show i * 3 + 1 + 1 + 1 + 2 = (i * 3 + 2) + 1 + 1 + 1 by omega]
    simp only [List.set_cons_succ, flatN_cons, this]
/-- The nodes of a tree, in their order. -/
def nds (x : T) : List N3 := (List.range x.k.length).map fun i => (x.k.getD i 0, x.l.getD i 0, x.r.getD i 0)
theorem nds_length (x : T) : (nds x).length = x.k.length := by simp [nds]
theorem nds_get (x : T) (i : Nat) (h : i < x.k.length) : (nds x).getD i zN = (x.k.getD i 0, x.l.getD i 0, x.r.getD i 0) := by
  unfold nds
  rw [List.getD, List.getElem?_map, List.getElem?_range h]; rfl
/-- A slice that reads as the nodes of the tree x. -/
def NodesAt (w : World) (v : Value) (x : T) : Prop := ∃ a c, v = .slice a x.k.length c ∧ x.k.length ≤ c ∧ (0 < x.k.length → ∃ b off, a = some ⟨b, off, none⟩ ∧ ∀ i, i < x.k.length → w.cell? ⟨b, off + i * 3, none⟩ = some (.int .i64 (x.k.getD i 0)) ∧ w.cell? ⟨b, off + i * 3 + 1, none⟩ = some (.int .i64 (x.l.getD i 0)) ∧ w.cell? ⟨b, off + i * 3 + 2, none⟩ = some (.int .i64 (x.r.getD i 0)))
theorem NodesAt.below {w w' : World} {v : Value} {x : T} (h : NodesAt w v x) (hb : Below w.heap.size w w') : NodesAt w' v x := by
  obtain ⟨a, cap, hv, hcap, hc⟩ := h
  refine ⟨a, cap, hv, hcap, fun h0 => ?_⟩
  obtain ⟨b, off, ha, hc⟩ := hc h0
  refine ⟨b, off, ha, fun i hi => ?_⟩
  obtain ⟨h1, h2, h3⟩ := hc i hi
  rw [hb.cell (block_lt_of_cell h1), hb.cell (block_lt_of_cell h2), hb.cell (block_lt_of_cell h3)]
  exact ⟨h1, h2, h3⟩
theorem NodesAt.shape {w : World} {v : Value} {x : T} (h : NodesAt w v x) : ∃ p q, v = .slice p x.k.length q ∧ x.k.length ≤ q := by obtain ⟨a, c, h, h2, _⟩ := h; exact ⟨a, c, h, h2⟩
theorem NodesAt.at' {w : World} {a : Option Addr} {n c : Nat} {x : T} (h : NodesAt w (.slice a n c) x) (h0 : 0 < x.k.length) : ∃ b off, a = some ⟨b, off, none⟩ ∧ ∀ i, i < x.k.length → w.cell? ⟨b, off + i * 3, none⟩ = some (.int .i64 (x.k.getD i 0)) ∧ w.cell? ⟨b, off + i * 3 + 1, none⟩ = some (.int .i64 (x.l.getD i 0)) ∧ w.cell? ⟨b, off + i * 3 + 2, none⟩ = some (.int .i64 (x.r.getD i 0)) := by
  obtain ⟨a', c', hv, _, hc⟩ := h
  cases hv
  exact hc h0
theorem NodesAt.nil (w : World) (t : Int) : NodesAt w nilT ⟨[], [], [], t⟩ := ⟨none, 0, rfl, Nat.le_refl _, fun h => by simp at h⟩
/-- A queue by value. -/
abbrev qv (v : Value) (t : Int) : Value := .agg #[v, .int .i64 t]
abbrev q2 (v : Value) (t : Int) : Array Value := #[v, .int .i64 t]
def RowQ (w : World) (g : Nat) (v : Value) (t : Int) : Prop := Row w g 91 (q2 v t)
theorem info_queue : (Try.prog.info? 91).map (·.size) = some 2 := by kernel_rfl
section
variable {w w' : World} {g : Nat} {v : Value} {t : Int}
theorem RowQ.c0 (h : RowQ w g v t) : w.cell? ⟨g, 0, none⟩ = some v := Row.cell h 0
theorem RowQ.c1 (h : RowQ w g v t) : w.cell? ⟨g, 1, none⟩ = some (.int .i64 t) := Row.cell h 1
theorem RowQ.below (h : RowQ w g v t) (hb : Below w.heap.size w w') : RowQ w' g v t := Row.below h hb
end
theorem wl_loadQ {ops : Array Oper} {rest : List Oper} {o : Oper} {q : Act} {w : World} {Q : Exit → Act → World → Prop} (hgd : o.guard = none) (x : Operand) (ho : o.op = .load 91 x) (g : Nat) (v : Value) (t : Int) (hg : RowQ w g v t)
    (hx : q.eval x = .pointer (some ⟨g, 0, none⟩)) (h : wpList Try.prog ops Q rest (q.put o.dst (qv v t)) w) : wpList Try.prog ops Q (o :: rest) q w :=
  wpList_load_row hgd 91 x ho g hx 91 (q2 v t) (0, 0) _ hg Try.underlying91 rfl info_queue h
theorem wl_storeQ {ops : Array Oper} {rest : List Oper} {o : Oper} {q : Act} {w : World} {Q : Exit → Act → World → Prop} (hgd : o.guard = none) (x y : Operand) (ho : o.op = .store 91 x y) (g : Nat) (v : Value) (t : Int) (v0 : Value) (t0 : Int) (hg : RowQ w g v0 t0)
    (hx : q.eval x = .pointer (some ⟨g, 0, none⟩)) (hy : q.eval y = qv v t) (h1 : v.oneCell' = true) (h : wpList Try.prog ops Q rest (q.put o.dst undef) (w.setRow g (q2 v t))) : wpList Try.prog ops Q (o :: rest) q w :=
  wpList_store_row hgd 91 x y ho g (q2 v t) hx hy 91 (q2 v0 t0) hg info_queue rfl (by simp [Value.oneCell']; exact h1) h
/-- A node by value. -/
abbrev nv (a b c : Int) : Value := .agg #[.int .i64 a, .int .i64 b, .int .i64 c]
abbrev n3 (a b c : Int) : Array Value := #[.int .i64 a, .int .i64 b, .int .i64 c]
def RowN (w : World) (g : Nat) (a b c : Int) : Prop := Row w g 133 (n3 a b c)
theorem info_node : (Try.prog.info? 133).map (·.size) = some 3 := by kernel_rfl
section
variable {w w' : World} {g : Nat} {a b c : Int}
theorem RowN.c0 (h : RowN w g a b c) : w.cell? ⟨g, 0, none⟩ = some (.int .i64 a) := Row.cell h 0
theorem RowN.c1 (h : RowN w g a b c) : w.cell? ⟨g, 1, none⟩ = some (.int .i64 b) := Row.cell h 1
theorem RowN.c2 (h : RowN w g a b c) : w.cell? ⟨g, 2, none⟩ = some (.int .i64 c) := Row.cell h 2
theorem RowN.below (h : RowN w g a b c) (hb : Below w.heap.size w w') : RowN w' g a b c := Row.below h hb
end
theorem wl_loadN {ops : Array Oper} {rest : List Oper} {o : Oper} {q : Act} {w : World} {Q : Exit → Act → World → Prop} (hgd : o.guard = none) (x : Operand) (ho : o.op = .load 133 x) (g : Nat) (a b c : Int) (hg : RowN w g a b c)
    (hx : q.eval x = .pointer (some ⟨g, 0, none⟩)) (h : wpList Try.prog ops Q rest (q.put o.dst (nv a b c)) w) : wpList Try.prog ops Q (o :: rest) q w :=
  wpList_load_row hgd 133 x ho g hx 133 (n3 a b c) (0, 0) _ hg Try.underlying133 rfl info_node h
theorem wl_storeN {ops : Array Oper} {rest : List Oper} {o : Oper} {q : Act} {w : World} {Q : Exit → Act → World → Prop} (hgd : o.guard = none) (x y : Operand) (ho : o.op = .store 133 x y) (g : Nat) (a b c a0 b0 c0 : Int) (hg : RowN w g a0 b0 c0)
    (hx : q.eval x = .pointer (some ⟨g, 0, none⟩)) (hy : q.eval y = nv a b c) (h : wpList Try.prog ops Q rest (q.put o.dst undef) (w.setRow g (n3 a b c))) : wpList Try.prog ops Q (o :: rest) q w :=
  wpList_store_row hgd 133 x y ho g (n3 a b c) hx hy 133 (n3 a0 b0 c0) hg info_node rfl (by simp [Value.oneCell']) h
/-- A row of nodes that the call itself has made. -/
def OwnN (w : World) (B : Nat) (v : Value) (x : T) : Prop := w.ownsRow B 133 3 v x.k.length (flatN (nds x))
end Go.Proofs.Ytejaebmbhcgngaa
namespace Go.Proofs.Ytejaebmbhcgngaa
open Go.RowKit Ph Tr
set_option maxHeartbeats 3200000 in
theorem c_rank (v : Value) (x : T) (t z : Int) (bt : BT) (w : World) (hA : NodesAt w v x) (hR : Rep x.l x.r z bt) (hl : x.l.length = x.k.length) (hs : bt.sz ≤ 1000) : Calls Try.prog 82 #[qv v t, .int .i64 z] w fun e w' => e = .returned (.int .i64 (bt.rk : Nat)) ∧ Below w.heap.size w w' := by
  obtain ⟨p, q, rfl, hpq⟩ := hA.shape
  have HB := Lib.hid (below1 w (.cells (q2 (.slice p x.k.length q) t) 91))
  have R0 := Lib.hid (show RowQ _ _ (.slice p x.k.length q) t from Row.new w 91 (q2 (.slice p x.k.length q) t))
  have HA := Lib.hid (hA.below HB.out)
  have HRK : Hid (bt.rk ≤ 1000) := by have := BT.rk_le bt; unfold Hid; omega
  have HL := Lib.hid hl
  have HR := Lib.hid hR
  clear hA hl hs hR hpq
  generalize hn : x.k.length = n at *
  have HN := Lib.hid hn; clear hn
  generalize hrk : bt.rk = rk at *
  have HRKE := Lib.hid hrk; clear hrk
  have c0 := R0.out.c0
  go_enter Try.func82, Try.ntmps82
  go_wp2_with fail
  go_loop [1, 5] (fun a b => ∃ (z : Int) (m : Nat) (c : BT), a = .int .i64 z ∧ b = .int .i64 m ∧ Hid (Rep x.l x.r z c) ∧ Hid (m + c.rk = rk)) (fun _ b => rk - (intOf b).toNat)
  case atStart => exact ⟨z, 0, bt, rfl, rfl, HR.out, by unfold Hid; have := HRKE.out; omega⟩
  case round =>
    clear HR HRKE
    obtain ⟨z, m, c, rfl, rfl, hc, hm⟩ := hrel
    cases c with
    | nil =>
      have hz : z = -1 := hc.out
      subst hz
      have j1 : ((-1 : Int) != -1) = false := by decide
      have HE : Hid (rk = m) := by have := hm.out; simp only [BT.rk] at this; unfold Hid; omega
      go_wp2_with fail
      go_ret
      exact ⟨by rw [HE.out]; rfl, HB.out⟩
    | node i a d =>
      have hm' := hm.out
      simp only [BT.rk] at hm'
      have HM : Hid (m + 1 + d.rk = rk ∧ m + 1 ≤ rk ∧ rk ≤ 1000) := ⟨by omega, by omega, HRK.out⟩
      obtain ⟨hz, hi1, hi2, _, hr⟩ := hc.out
      subst hz
      have HD := Lib.hid hr
      have hin : i < n := by have := HL.out; have := HN.out; omega
      obtain ⟨b, off, rfl, hcc⟩ := NodesAt.at' HA.out (by have := HN.out; omega)
      have q3 := (hcc i (by have := HN.out; omega)).2.2
      have i1 : (i : Int) < (n : Int) := by omega
      have i2 : (0 : Int) ≤ (i : Int) := by omega
      have i3 : ((i : Int) != -1) = true := by rw [bne_iff_ne]; omega
      have e1 : IntKind.i64.wrap ((m : Int) + 1) = (m : Int) + 1 := IntWalk.i64_in _ (by have := HM.out; omega)
      clear hcc hr hi1 hi2 hc hm hm'
      generalize x.r.getD i 0 = zr at *
      go_wp2_with fail
      go_round
      case rel => exact ⟨zr, m + 1, d, rfl, by go_num, HD.out, HM.out.1⟩
      case measure => simp [intOf]; have := HM.out; omega
/-- Does the child z come before a parent with the key a? -/
def bef (x : T) (z a : Int) : Bool := decide (z ≠ -1) && decide (x.k.getD z.toNat 0 < a)
set_option maxHeartbeats 3200000 in
theorem c_isBefore (v : Value) (x : T) (t z a b' c' : Int) (w : World) (hA : NodesAt w v x) (hz : -1 ≤ z ∧ z ≤ (x.k.length : Int) - 1) : Calls Try.prog 141 #[qv v t, .int .i64 z, nv a b' c'] w fun e w' => e = .returned (.bool (bef x z a)) ∧ Below w.heap.size w w' := by
  obtain ⟨p, q, rfl, hpq⟩ := hA.shape
  have HB := Lib.hid ((below1 w (.cells (q2 (.slice p x.k.length q) t) 91)).alloc (by simp) (.cells (n3 a b' c') 133))
  have R0 := Lib.hid (show RowQ _ _ (.slice p x.k.length q) t from Row.alloc (Row.new w 91 (q2 (.slice p x.k.length q) t)) (.cells (n3 a b' c') 133))
  have R1 := Lib.hid (show RowN _ _ a b' c' from Row.new1 w (.cells (q2 (.slice p x.k.length q) t) 91) 133 (n3 a b' c'))
  have HA := Lib.hid (hA.below HB.out)
  clear hA hpq
  have c0 := R0.out.c0
  have c1 := R1.out.c0
  by_cases h0 : z = -1
  · subst h0
    have HE : Hid (bef x (-1) a = false) := by unfold Hid bef; simp
    clear hz
    go_enter Try.func141, Try.ntmps141
    go_wp2_with fail
    go_quiet (fail)
    go_wp2_with fail
    go_ret
    exact ⟨r_b HE.out.symm, below_drewN HB.out _⟩
  · obtain ⟨i, rfl⟩ : ∃ i : Nat, z = i := ⟨z.toNat, by omega⟩
    generalize hn : x.k.length = n at *
    have HN := Lib.hid hn; clear hn
    have hin : i < n := by omega
    obtain ⟨b, off, rfl, hcc⟩ := NodesAt.at' HA.out (by have := HN.out; omega)
    have q3 := (hcc i (by have := HN.out; omega)).1
    have HE : Hid (bef x (i : Int) a = decide (x.k.getD i 0 < a)) := by
      unfold Hid bef
      rw [show decide ((i : Int) ≠ -1) = true from decide_eq_true h0]; rfl
    have i1 : (i : Int) < (n : Int) := by omega
    have i2 : (0 : Int) ≤ (i : Int) := by omega
    have i3 : ((i : Int) != -1) = true := by rw [bne_iff_ne]; omega
    clear hcc h0 hz
    generalize x.k.getD i 0 = kz at *
    go_enter Try.func141, Try.ntmps141
    go_wp2_with fail
    go_quiet (fail)
    go_wp2_with fail
    go_ret
    exact ⟨r_b HE.out.symm, below_drewN HB.out _⟩
set_option maxHeartbeats 3200000 in
theorem c_leaning (v : Value) (x : T) (t a zl zr : Int) (la lb : BT) (w : World) (hA : NodesAt w v x) (hL : Rep x.l x.r zl la) (hR : Rep x.l x.r zr lb) (hl : x.l.length = x.k.length) (hs : la.sz ≤ 1000 ∧ lb.sz ≤ 1000) : Calls Try.prog 142 #[qv v t, nv a zl zr] w fun e w' => e = .returned (if la.rk < lb.rk then nv a zr zl else nv a zl zr) ∧ Below w.heap.size w w' := by
  have hb0 := (((below1 w (.cells (q2 v t) 91)).alloc (by simp) (.cells (n3 a zl zr) 133)).alloc (by simp; omega) (.cells (n3 0 0 0) 133))
  have r0 : RowQ (((w.alloc (.cells (q2 v t) 91)).alloc (.cells (n3 a zl zr) 133)).alloc (.cells (n3 0 0 0) 133)) w.heap.size v t := Row.alloc (Row.alloc (Row.new w 91 (q2 v t)) _) _
  have r1 : RowN (((w.alloc (.cells (q2 v t) 91)).alloc (.cells (n3 a zl zr) 133)).alloc (.cells (n3 0 0 0) 133)) (w.heap.size + 1) a zl zr := Row.alloc (Row.new1 w _ 133 (n3 a zl zr)) _
  have r2 : RowN (((w.alloc (.cells (q2 v t) 91)).alloc (.cells (n3 a zl zr) 133)).alloc (.cells (n3 0 0 0) 133)) (w.heap.size + 1 + 1) 0 0 0 := Row.new2 w _ _ 133 (n3 0 0 0)
  have HB := Lib.hid hb0; have R0 := Lib.hid r0; have R1 := Lib.hid r1; have R2 := Lib.hid r2
  have HA := Lib.hid (hA.below hb0); have HL := Lib.hid hL; have HR := Lib.hid hR; have HLN := Lib.hid hl; have HSA := Lib.hid hs
  have c0 := r0.c0
  have c1 := r0.c1
  have c2 := r1.c1
  have c3 := r1.c2
  clear hA hL hR hl hs hb0 r0 r1 r2
  go_enter Try.func142, Try.ntmps142
  go_upto_region 1 with fail
  generalize (((w.alloc (.cells (q2 v t) 91)).alloc (.cells (n3 a zl zr) 133)).alloc (.cells (n3 0 0 0) 133)) = w3 at *
  refine wp_region_held_drew (S := (fun w' => w'.cell? ⟨w.heap.size, 0, none⟩ = some v ∧ w'.cell? ⟨w.heap.size, 1, none⟩ = some (.int .i64 t) ∧ w'.cell? ⟨w.heap.size + 1, 1, none⟩ = some (.int .i64 zl) ∧ w'.cell? ⟨w.heap.size + 1, 2, none⟩ = some (.int .i64 zr))) (by kernel_rfl) (⟨c0, c1, c2, c3⟩) (fun hHeld => ?_)
  refine wpAnyH_take (i := 0) (v := ?va0x1) rfl (by kernel_rfl) (by kernel_rfl) (by kernel_rfl) (fun _ _ _ h => h) (Or.inl ⟨by rfl, ?hy0x1⟩) (by assumption) ?rest0x1
  case hy0x1 => (intro w hSw; (try dsimp only at hSw); go_simp; try with_reducible rfl)
  (try simp only [Act.put, List.getElem_toArray, List.getElem_cons_zero, List.setIfInBounds_toArray, List.set_cons_zero, List.set_cons_succ])
  refine wpAnyH_take (i := 1) (v := ?va1x2) rfl (by kernel_rfl) (by kernel_rfl) (by kernel_rfl) (fun _ _ _ h => h) (Or.inl ⟨by rfl, ?hy1x2⟩) (by assumption) ?rest1x2
  case hy1x2 => (intro w hSw; (try dsimp only at hSw); go_simp; try with_reducible rfl)
  (try simp only [Act.put, List.getElem_toArray, List.getElem_cons_zero, List.getElem_cons_succ, List.setIfInBounds_toArray, List.set_cons_zero, List.set_cons_succ])
  refine wpAnyH_take (i := 2) (v := ?va2x3) rfl (by kernel_rfl) (by kernel_rfl) (by kernel_rfl) (fun _ _ _ h => h) (Or.inl ⟨by rfl, ?hy2x3⟩) (by assumption) ?rest2x3
  case hy2x3 => (intro w hSw; (try dsimp only at hSw); go_simp; try with_reducible rfl)
  (try simp only [Act.put, List.getElem_toArray, List.getElem_cons_zero, List.getElem_cons_succ, List.setIfInBounds_toArray, List.set_cons_zero, List.set_cons_succ])
  refine wpAnyH_take (i := 4) (v := ?va4x4) rfl (by kernel_rfl) (by kernel_rfl) (by kernel_rfl) (fun _ _ _ h => h) (Or.inl ⟨by rfl, ?hy4x4⟩) (by assumption) ?rest4x4
  case hy4x4 => (intro w hSw; (try dsimp only at hSw); go_simp; try with_reducible rfl)
  (try simp only [Act.put, List.getElem_toArray, List.getElem_cons_zero, List.getElem_cons_succ, List.setIfInBounds_toArray, List.set_cons_zero, List.set_cons_succ])
  refine wpAnyH_take (i := 5) (v := ?va5x5) rfl (by kernel_rfl) (by kernel_rfl) (by kernel_rfl) (fun _ _ _ h => h) (Or.inl ⟨by rfl, ?hy5x5⟩) (by assumption) ?rest5x5
  case hy5x5 => (intro w hSw; (try dsimp only at hSw); go_simp; try with_reducible rfl)
  (try simp only [Act.put, List.getElem_toArray, List.getElem_cons_zero, List.getElem_cons_succ, List.setIfInBounds_toArray, List.set_cons_zero, List.set_cons_succ])
  refine wpAnyH_take (i := 6) (v := ?va6x6) rfl (by kernel_rfl) (by kernel_rfl) (by kernel_rfl) (fun _ _ _ h => h) (Or.inl ⟨by rfl, ?hy6x6⟩) (by assumption) ?rest6x6
  case hy6x6 => (intro w hSw; (try dsimp only at hSw); go_simp; try with_reducible rfl)
  (try simp only [Act.put, List.getElem_toArray, List.getElem_cons_zero, List.getElem_cons_succ, List.setIfInBounds_toArray, List.set_cons_zero, List.set_cons_succ])
  refine wpAnyH_ready (rs := [3]) (by kernel_rfl) (by simp) ?_
  refine AllReadyH.cons rfl (fun K hK => ?_) AllReadyH.nil
  go_simp
  refine (c_rank v x t zl la (World.drewN _ 1) (HA.out.below (below_drewN (Below.refl _ _) 1)) HL.out HLN.out HSA.out.1).mono ?_
  rintro e w8 ⟨rfl, hb8⟩
  have B8 := Lib.hid (bst (below_drewN (Below.refl _ _) 1) hb8 (Nat.le_refl _))
  have kk := hHeld
  refine hK.out _ _ (⟨cellBelow hb8 (Nat.le_refl _) kk.1, cellBelow hb8 (Nat.le_refl _) kk.2.1, cellBelow hb8 (Nat.le_refl _) kk.2.2.1, cellBelow hb8 (Nat.le_refl _) kk.2.2.2⟩) (fun hHeld => ?_)
  clear hK K hb8
  (try simp only [Act.put, List.getElem_toArray, List.getElem_cons_zero, List.getElem_cons_succ, List.setIfInBounds_toArray, List.set_cons_zero, List.set_cons_succ])
  refine wpAnyH_ready (rs := [7]) (by kernel_rfl) (by simp) ?_
  refine AllReadyH.cons rfl (fun K hK => ?_) AllReadyH.nil
  go_simp
  refine (c_rank v x t zr lb _ (HA.out.below B8.out) HR.out HLN.out HSA.out.2).mono ?_
  rintro e w9 ⟨rfl, hb9⟩
  have B9 := Lib.hid (bst B8.out hb9 B8.out.size)
  replace kk := hHeld
  refine hK.out _ _ (⟨cellBelow hb9 (Nat.le_refl _) kk.1, cellBelow hb9 (Nat.le_refl _) kk.2.1, cellBelow hb9 (Nat.le_refl _) kk.2.2.1, cellBelow hb9 (Nat.le_refl _) kk.2.2.2⟩) (fun hHeld => ?_)
  clear hK K hb9
  (try simp only [Act.put, List.getElem_toArray, List.getElem_cons_zero, List.getElem_cons_succ, List.setIfInBounds_toArray, List.set_cons_zero, List.set_cons_succ])
  refine wpAnyH_take (i := 8) (v := ?va8x7) rfl (by kernel_rfl) (by kernel_rfl) (by kernel_rfl) (fun _ _ _ h => h) (Or.inl ⟨by rfl, ?hy8x7⟩) (by assumption) ?rest8x7
  case hy8x7 => (intro w hSw; (try dsimp only at hSw); go_simp; try with_reducible rfl)
  (try simp only [Act.put, List.getElem_toArray, List.getElem_cons_zero, List.getElem_cons_succ, List.setIfInBounds_toArray, List.set_cons_zero, List.set_cons_succ])
  refine wpAnyH_done (by kernel_rfl) ?_ _
  clear hHeld kk c0 c1 c2 c3 HA
  replace R1 := Lib.hid (RowN.below R1.out B9.out)
  replace R2 := Lib.hid (RowN.below R2.out B9.out)
  replace HB := Lib.hid (bst HB.out B9.out HB.out.size)
  clear B8 B9
  generalize hrr : (if la.rk < lb.rk then nv a zr zl else nv a zl zr) = rr at *
  have HRR := Lib.hid hrr; clear hrr
  by_cases hrk : la.rk < lb.rk
  · have j2 : (la.rk : Int) < (lb.rk : Int) := by omega
    have HE : Hid (rr = nv a zr zl) := HRR.out.symm.trans (if_pos hrk)
    clear hrk
    have d0 := R1.out.c0
    have d1 := R1.out.c1
    have d2 := R1.out.c2
    have f1 := Row.frozen R1.out 1
    have f2 := Row.frozen R1.out 2
    have R1' : Hid (RowN _ _ a zr zl) := (Row.set (Row.set R1.out 1 (.int .i64 zr)) 2 (.int .i64 zl)).trans rfl
    have R2' : Hid (RowN _ _ 0 0 0) := Row.other (Row.other R2.out ⟨w.heap.size + 1, 1, none⟩ (by simp) (.int .i64 zr)) ⟨w.heap.size + 1, 2, none⟩ (by simp) (.int .i64 zl)
    have HB' := Lib.hid ((HB.out.setCell (p := ⟨w.heap.size + 1, 1, none⟩) (by simp) (.int .i64 zr)).setCell (p := ⟨w.heap.size + 1, 2, none⟩) (by simp) (.int .i64 zl))
    go_wp2_with (first
      | (refine wl_loadN rfl _ rfl (w.heap.size + 1) _ _ _ R1'.out rfl ?_)
      | (refine wl_storeN rfl _ _ rfl (w.heap.size + 1 + 1) a zr zl _ _ _ R2'.out rfl rfl ?_))
    refine bodyPost_ret (res_row Try.results142 (Row.put R2'.out (n3 a zr zl)) rfl Try.underlying133 rfl info_node) rfl ⟨by first | rfl | rw [HE.out], below_setRow HB'.out (by omega) _⟩
  · have j2 : ¬ (la.rk : Int) < (lb.rk : Int) := by omega
    have HE : Hid (rr = nv a zl zr) := HRR.out.symm.trans (if_neg hrk)
    clear hrk
    go_wp2_with (first
      | (refine wl_loadN rfl _ rfl (w.heap.size + 1) _ _ _ R1.out rfl ?_)
      | (refine wl_storeN rfl _ _ rfl (w.heap.size + 1 + 1) a zl zr _ _ _ R2.out rfl rfl ?_))
    refine bodyPost_ret (res_row Try.results142 (Row.put R2.out (n3 a zl zr)) rfl Try.underlying133 rfl info_node) rfl ⟨by first | rfl | rw [HE.out], below_setRow HB.out (by omega) _⟩
end Go.Proofs.Ytejaebmbhcgngaa
namespace Go.Proofs.Ytejaebmbhcgngaa
open Go.RowKit Ph Tr
theorem bef_no {x : T} {z a : Int} (_hz : -1 ≤ z) (h : bef x z a = false) : 0 ≤ z → a ≤ x.k.getD z.toNat 0 := by
  intro h0
  unfold bef at h
  rw [Bool.and_eq_false_iff] at h
  rcases h with h | h
  · simp at h; omega
  · simp at h; simpa using h
theorem bef_yes {x : T} {z a : Int} (hz : -1 ≤ z) (h : bef x z a = true) : ¬ (0 ≤ z → a ≤ x.k.getD z.toNat 0) := by
  unfold bef at h
  rw [Bool.and_eq_true, decide_eq_true_eq, decide_eq_true_eq] at h
  intro k
  have := k (by omega)
  omega
set_option maxHeartbeats 12800000 in
set_option maxRecDepth 100000 in
theorem c_isInOrder (v : Value) (x : T) (t : Int) (w : World) (hA : NodesAt w v x) (hs : Shp x) (hI : IsT x) : Calls Try.prog 118 #[qv v t] w fun e w' => ∃ gb, e = .returned (.bool gb) ∧ (gb = true ↔ ∀ i, i < x.k.length → OrdAt x i ∧ LeanAt x i) ∧ Below w.heap.size w w' := by
  obtain ⟨p, q, rfl, hpq⟩ := hA.shape
  have HB := Lib.hid (below1 w (.cells (q2 (.slice p x.k.length q) t) 91))
  have R0 := Lib.hid (show RowQ _ _ (.slice p x.k.length q) t from Row.new w 91 (q2 (.slice p x.k.length q) t))
  have HA := Lib.hid (hA.below HB.out)
  have HIT := Lib.hid hI; have SHP := Lib.hid hs
  have HN20 : Hid (x.k.length ≤ 20) := hs.n
  clear hA hpq hI hs
  generalize hn : x.k.length = n at *
  have HN := Lib.hid hn; clear hn
  have c0 := R0.out.c0
  go_enter Try.func118, Try.ntmps118
  go_wp2_with fail
  clear c0
  generalize (w.alloc (.cells (q2 (.slice p n q) t) 91)) = w0 at *
  go_loopw [8] (fun i wr => ∃ k : Nat, k ≤ n ∧ i = .int .i64 k ∧ Hid (∀ i, i < k → OrdAt x i ∧ LeanAt x i) ∧ Hid (Below w0.heap.size w0 wr)) (fun i _ => n - (intOf i).toNat)
  case atStart => exact ⟨0, Nat.zero_le _, rfl, fun i hi => by omega, Below.refl _ _⟩
  case round =>
    obtain ⟨k, hk, rfl, hok, hb⟩ := hrel
    by_cases hlt : k < n
    · obtain ⟨b, off, rfl, hcc⟩ := NodesAt.at' (HA.out.below hb.out) (by have := HN.out; omega)
      obtain ⟨q0, q1, q2⟩ := hcc k (by have := HN.out; omega)
      have R1 : Hid (RowQ wr _ _ _) := RowQ.below R0.out hb.out
      have BP := Lib.hid (HB.out.trans (hb.out.mono HB.out.size))
      have AP := Lib.hid (HA.out.below hb.out)
      have LP := hb
      obtain ⟨ta, tb, _, ra, rb', hsz⟩ := IsT.at SHP.out.l HIT.out (i := k) (by rw [HN.out]; exact hlt)
      have HLI := Lib.hid (lean_iff ra rb')
      have RA := Lib.hid ra; have RB := Lib.hid rb'
      have HSA : Hid (ta.sz ≤ 1000 ∧ tb.sz ≤ 1000) := by unfold Hid; have := HN20.out; rw [HN.out] at hsz; omega
      have HZL : Hid (-1 ≤ x.l.getD k 0 ∧ x.l.getD k 0 ≤ (x.k.length : Int) - 1) := SHP.out.ls k (by rw [HN.out]; exact hlt)
      have HZR : Hid (-1 ≤ x.r.getD k 0 ∧ x.r.getD k 0 ≤ (x.k.length : Int) - 1) := SHP.out.rs k (by rw [HN.out]; exact hlt)
      have HORD : Hid (OrdAt x k ↔ (0 ≤ x.l.getD k 0 → x.k.getD k 0 ≤ x.k.getD (x.l.getD k 0).toNat 0) ∧ (0 ≤ x.r.getD k 0 → x.k.getD k 0 ≤ x.k.getD (x.r.getD k 0).toNat 0)) := Iff.rfl
      have HNEQ : Hid (ta.rk < tb.rk → x.l.getD k 0 ≠ x.r.getD k 0) := fun h e => by rw [e] at ra; rw [Rep.fn ra rb'] at h; omega
      have i1 : (k : Int) < (n : Int) := by omega
      have i2 : (0 : Int) ≤ (k : Int) := by omega
      have e1 : IntKind.i64.wrap ((k : Int) + 1) = (k : Int) + 1 := IntWalk.i64_in _ (by have := HN20.out; omega)
      clear hcc ra rb' hsz hb
      generalize x.l.getD k 0 = zl at *
      generalize x.r.getD k 0 = zr at *
      generalize x.k.getD k 0 = a at *
      have c0 := R1.out.c0
      have c1 := R1.out.c1
      have r4a := Row.new wr 133 (n3 0 0 0)
      have r4 : Hid (RowN ((wr.alloc (.cells (n3 0 0 0) 133)).setRow wr.heap.size (n3 a zl zr)) wr.heap.size a zl zr) := Row.put r4a (n3 a zl zr)
      have b4 := Lib.hid (below_setRow (below1 wr (.cells (n3 0 0 0) 133)) (Nat.le_refl _) (n3 a zl zr))
      have R4A := Lib.hid r4a
      clear r4a
      go_upto_region 4 with (refine wl_storeN rfl _ _ rfl wr.heap.size a zl zr 0 0 0 R4A.out rfl rfl ?_)
      clear c0 c1 q0 q1 q2 R4A
      generalize (wr.alloc (.cells (n3 0 0 0) 133)).setRow wr.heap.size (n3 a zl zr) = w4 at *
      replace R1 : Hid (RowQ w4 _ _ _) := RowQ.below R1.out b4.out
      replace BP := Lib.hid (bst BP.out b4.out BP.out.size)
      replace AP := Lib.hid (AP.out.below b4.out)
      replace LP := Lib.hid (LP.out.trans (b4.out.mono LP.out.size))
      clear b4
      generalize wr.heap.size = gn at *
      replace AP := Lib.hid (AP.out.below (below_drew (Below.refl w4.heap.size w4)))
      replace BP := Lib.hid (bst BP.out (below_drew (Below.refl w4.heap.size w4)) BP.out.size)
      replace LP := Lib.hid (LP.out.trans ((below_drew (Below.refl w4.heap.size w4)).mono LP.out.size))
      have d0 := R1.out.c0
      have d1 := R1.out.c1
      have d2 := r4.out.c0
      have d3 := r4.out.c1
      have d4 := r4.out.c2
      refine wp_region_held_drew (S := (fun w' => w'.cell? ⟨w.heap.size, 0, none⟩ = some (.slice (some ⟨b, off, none⟩) n q) ∧ w'.cell? ⟨w.heap.size, 1, none⟩ = some (.int .i64 t) ∧ w'.cell? ⟨gn, 0, none⟩ = some (.int .i64 a) ∧ w'.cell? ⟨gn, 1, none⟩ = some (.int .i64 zl) ∧ w'.cell? ⟨gn, 2, none⟩ = some (.int .i64 zr))) (by kernel_rfl) (⟨d0, d1, d2, d3, d4⟩) (fun hHeld => ?_)
      refine wpAnyH_take (i := 0) (v := ?va0x1) rfl (by kernel_rfl) (by kernel_rfl) (by kernel_rfl) (fun _ _ _ h => h) (Or.inl ⟨by rfl, ?hy0x1⟩) (by assumption) ?rest0x1
      case hy0x1 => (intro w hSw; (try dsimp only at hSw); go_simp; try with_reducible rfl)
      (try simp only [Act.put, List.getElem_toArray, List.getElem_cons_zero, List.setIfInBounds_toArray, List.set_cons_zero, List.set_cons_succ])
      refine wpAnyH_take (i := 1) (v := ?va1x2) rfl (by kernel_rfl) (by kernel_rfl) (by kernel_rfl) (fun _ _ _ h => h) (Or.inl ⟨by rfl, ?hy1x2⟩) (by assumption) ?rest1x2
      case hy1x2 => (intro w hSw; (try dsimp only at hSw); go_simp; try with_reducible rfl)
      (try simp only [Act.put, List.getElem_toArray, List.getElem_cons_zero, List.getElem_cons_succ, List.setIfInBounds_toArray, List.set_cons_zero, List.set_cons_succ])
      refine wpAnyH_take (i := 2) (v := ?va2x3) rfl (by kernel_rfl) (by kernel_rfl) (by kernel_rfl) (fun _ _ _ h => h) (Or.inl ⟨by rfl, ?hy2x3⟩) (by assumption) ?rest2x3
      case hy2x3 => (intro w hSw; (try dsimp only at hSw); go_simp; try with_reducible rfl)
      (try simp only [Act.put, List.getElem_toArray, List.getElem_cons_zero, List.getElem_cons_succ, List.setIfInBounds_toArray, List.set_cons_zero, List.set_cons_succ])
      refine wpAnyH_take (i := 3) (v := ?va3x4) rfl (by kernel_rfl) (by kernel_rfl) (by kernel_rfl) (fun _ _ _ h => h) (Or.inl ⟨by rfl, ?hy3x4⟩) (by assumption) ?rest3x4
      case hy3x4 => (intro w hSw; (try dsimp only at hSw); go_simp; try with_reducible rfl)
      (try simp only [Act.put, List.getElem_toArray, List.getElem_cons_zero, List.getElem_cons_succ, List.setIfInBounds_toArray, List.set_cons_zero, List.set_cons_succ])
      refine wpAnyH_ready (rs := [4]) (by kernel_rfl) (by simp) ?_
      refine AllReadyH.cons rfl (fun K hK => ?_) AllReadyH.nil
      go_simp
      refine (c_isBefore _ x t zl a zl zr _ AP.out HZL.out).mono ?_
      rintro e w1 ⟨rfl, hb1⟩
      have B1 := Lib.hid (bst BP.out hb1 BP.out.size)
      have A1 := Lib.hid (AP.out.below hb1)
      have L1 := Lib.hid (LP.out.trans (hb1.mono LP.out.size))
      have kk := hHeld
      refine hK.out _ _ (⟨cellBelow hb1 (Nat.le_refl _) kk.1, cellBelow hb1 (Nat.le_refl _) kk.2.1, cellBelow hb1 (Nat.le_refl _) kk.2.2.1, cellBelow hb1 (Nat.le_refl _) kk.2.2.2.1, cellBelow hb1 (Nat.le_refl _) kk.2.2.2.2⟩) (fun hHeld => ?_)
      clear hK K hb1 AP BP LP
      have AP := A1; have BP := B1; have LP := L1; clear A1 B1 L1
      (try simp only [Act.put, List.getElem_toArray, List.getElem_cons_zero, List.getElem_cons_succ, List.setIfInBounds_toArray, List.set_cons_zero, List.set_cons_succ])
      generalize hb1 : bef x zl a = b1 at *
      have HB1 := Lib.hid hb1; clear hb1
      cases b1
      case true =>
        refine wpAnyH_take (i := 5) (v := ?va5x5) rfl (by kernel_rfl) (by kernel_rfl) (by kernel_rfl) (fun _ _ _ h => h) (Or.inl ⟨by rfl, ?hy5x5⟩) (by assumption) ?rest5x5
        case hy5x5 => (intro w hSw; (try dsimp only at hSw); go_simp; try with_reducible rfl)
        (try simp only [Act.put, List.getElem_toArray, List.getElem_cons_zero, List.getElem_cons_succ, List.setIfInBounds_toArray, List.set_cons_zero, List.set_cons_succ])
        refine wpAnyH_take (i := 6) (v := undef) rfl (by kernel_rfl) (by kernel_rfl) (by kernel_rfl) (fun _ _ _ h => h) (Or.inr ⟨by rfl, rfl⟩) (by assumption) ?_
        (try simp only [Act.put, List.getElem_toArray, List.getElem_cons_zero, List.getElem_cons_succ, List.setIfInBounds_toArray, List.set_cons_zero, List.set_cons_succ])
        refine wpAnyH_take (i := 7) (v := undef) rfl (by kernel_rfl) (by kernel_rfl) (by kernel_rfl) (fun _ _ _ h => h) (Or.inr ⟨by rfl, rfl⟩) (by assumption) ?_
        (try simp only [Act.put, List.getElem_toArray, List.getElem_cons_zero, List.getElem_cons_succ, List.setIfInBounds_toArray, List.set_cons_zero, List.set_cons_succ])
        refine wpAnyH_take (i := 8) (v := undef) rfl (by kernel_rfl) (by kernel_rfl) (by kernel_rfl) (fun _ _ _ h => h) (Or.inr ⟨by rfl, rfl⟩) (by assumption) ?_
        (try simp only [Act.put, List.getElem_toArray, List.getElem_cons_zero, List.getElem_cons_succ, List.setIfInBounds_toArray, List.set_cons_zero, List.set_cons_succ])
        refine wpAnyH_take (i := 9) (v := undef) rfl (by kernel_rfl) (by kernel_rfl) (by kernel_rfl) (fun _ _ _ h => h) (Or.inr ⟨by rfl, rfl⟩) (by assumption) ?_
        (try simp only [Act.put, List.getElem_toArray, List.getElem_cons_zero, List.getElem_cons_succ, List.setIfInBounds_toArray, List.set_cons_zero, List.set_cons_succ])
        refine wpAnyH_take (i := 10) (v := undef) rfl (by kernel_rfl) (by kernel_rfl) (by kernel_rfl) (fun _ _ _ h => h) (Or.inr ⟨by rfl, rfl⟩) (by assumption) ?_
        (try simp only [Act.put, List.getElem_toArray, List.getElem_cons_zero, List.getElem_cons_succ, List.setIfInBounds_toArray, List.set_cons_zero, List.set_cons_succ])
        refine wpAnyH_take (i := 11) (v := ?va11x6) rfl (by kernel_rfl) (by kernel_rfl) (by kernel_rfl) (fun _ _ _ h => h) (Or.inl ⟨by rfl, ?hy11x6⟩) (by assumption) ?rest11x6
        case hy11x6 => (intro w hSw; (try dsimp only at hSw); go_simp; try with_reducible rfl)
        (try simp only [Act.put, List.getElem_toArray, List.getElem_cons_zero, List.getElem_cons_succ, List.setIfInBounds_toArray, List.set_cons_zero, List.set_cons_succ])
        refine wpAnyH_take (i := 12) (v := ?va12x7) rfl (by kernel_rfl) (by kernel_rfl) (by kernel_rfl) (fun _ _ _ h => h) (Or.inl ⟨by rfl, ?hy12x7⟩) (by assumption) ?rest12x7
        case hy12x7 => (intro w hSw; (try dsimp only at hSw); go_simp; try with_reducible rfl)
        (try simp only [Act.put, List.getElem_toArray, List.getElem_cons_zero, List.getElem_cons_succ, List.setIfInBounds_toArray, List.set_cons_zero, List.set_cons_succ])
        refine wpAnyH_take (i := 13) (v := undef) rfl (by kernel_rfl) (by kernel_rfl) (by kernel_rfl) (fun _ _ _ h => h) (Or.inr ⟨by rfl, rfl⟩) (by assumption) ?_
        (try simp only [Act.put, List.getElem_toArray, List.getElem_cons_zero, List.getElem_cons_succ, List.setIfInBounds_toArray, List.set_cons_zero, List.set_cons_succ])
        refine wpAnyH_take (i := 14) (v := undef) rfl (by kernel_rfl) (by kernel_rfl) (by kernel_rfl) (fun _ _ _ h => h) (Or.inr ⟨by rfl, rfl⟩) (by assumption) ?_
        (try simp only [Act.put, List.getElem_toArray, List.getElem_cons_zero, List.getElem_cons_succ, List.setIfInBounds_toArray, List.set_cons_zero, List.set_cons_succ])
        refine wpAnyH_take (i := 15) (v := undef) rfl (by kernel_rfl) (by kernel_rfl) (by kernel_rfl) (fun _ _ _ h => h) (Or.inr ⟨by rfl, rfl⟩) (by assumption) ?_
        (try simp only [Act.put, List.getElem_toArray, List.getElem_cons_zero, List.getElem_cons_succ, List.setIfInBounds_toArray, List.set_cons_zero, List.set_cons_succ])
        refine wpAnyH_take (i := 16) (v := undef) rfl (by kernel_rfl) (by kernel_rfl) (by kernel_rfl) (fun _ _ _ h => h) (Or.inr ⟨by rfl, rfl⟩) (by assumption) ?_
        (try simp only [Act.put, List.getElem_toArray, List.getElem_cons_zero, List.getElem_cons_succ, List.setIfInBounds_toArray, List.set_cons_zero, List.set_cons_succ])
        refine wpAnyH_take (i := 17) (v := undef) rfl (by kernel_rfl) (by kernel_rfl) (by kernel_rfl) (fun _ _ _ h => h) (Or.inr ⟨by rfl, rfl⟩) (by assumption) ?_
        (try simp only [Act.put, List.getElem_toArray, List.getElem_cons_zero, List.getElem_cons_succ, List.setIfInBounds_toArray, List.set_cons_zero, List.set_cons_succ])
        refine wpAnyH_take (i := 18) (v := ?va18x8) rfl (by kernel_rfl) (by kernel_rfl) (by kernel_rfl) (fun _ _ _ h => h) (Or.inl ⟨by rfl, ?hy18x8⟩) (by assumption) ?rest18x8
        case hy18x8 => (intro w hSw; (try dsimp only at hSw); go_simp; try with_reducible rfl)
        (try simp only [Act.put, List.getElem_toArray, List.getElem_cons_zero, List.getElem_cons_succ, List.setIfInBounds_toArray, List.set_cons_zero, List.set_cons_succ])
        refine wpAnyH_done (by kernel_rfl) ?_ _
        clear hHeld kk d0 d1 d2 d3 d4
        go_wp2_with fail
        go_ret
        exact ⟨false, rfl, ⟨fun h => absurd h (by decide), fun h => by exfalso; have h1 := h k hlt; exact bef_yes HZL.out.1 HB1.out (HORD.out.1 h1.1).1⟩, BP.out⟩
      case false =>
        refine wpAnyH_take (i := 5) (v := ?va5x9) rfl (by kernel_rfl) (by kernel_rfl) (by kernel_rfl) (fun _ _ _ h => h) (Or.inl ⟨by rfl, ?hy5x9⟩) (by assumption) ?rest5x9
        case hy5x9 => (intro w hSw; (try dsimp only at hSw); go_simp; try with_reducible rfl)
        (try simp only [Act.put, List.getElem_toArray, List.getElem_cons_zero, List.getElem_cons_succ, List.setIfInBounds_toArray, List.set_cons_zero, List.set_cons_succ])
        refine wpAnyH_take (i := 6) (v := ?va6x10) rfl (by kernel_rfl) (by kernel_rfl) (by kernel_rfl) (fun _ _ _ h => h) (Or.inl ⟨by rfl, ?hy6x10⟩) (by assumption) ?rest6x10
        case hy6x10 => (intro w hSw; (try dsimp only at hSw); go_simp; try with_reducible rfl)
        (try simp only [Act.put, List.getElem_toArray, List.getElem_cons_zero, List.getElem_cons_succ, List.setIfInBounds_toArray, List.set_cons_zero, List.set_cons_succ])
        refine wpAnyH_take (i := 7) (v := ?va7x11) rfl (by kernel_rfl) (by kernel_rfl) (by kernel_rfl) (fun _ _ _ h => h) (Or.inl ⟨by rfl, ?hy7x11⟩) (by assumption) ?rest7x11
        case hy7x11 => (intro w hSw; (try dsimp only at hSw); go_simp; try with_reducible rfl)
        (try simp only [Act.put, List.getElem_toArray, List.getElem_cons_zero, List.getElem_cons_succ, List.setIfInBounds_toArray, List.set_cons_zero, List.set_cons_succ])
        refine wpAnyH_take (i := 8) (v := ?va8x12) rfl (by kernel_rfl) (by kernel_rfl) (by kernel_rfl) (fun _ _ _ h => h) (Or.inl ⟨by rfl, ?hy8x12⟩) (by assumption) ?rest8x12
        case hy8x12 => (intro w hSw; (try dsimp only at hSw); go_simp; try with_reducible rfl)
        (try simp only [Act.put, List.getElem_toArray, List.getElem_cons_zero, List.getElem_cons_succ, List.setIfInBounds_toArray, List.set_cons_zero, List.set_cons_succ])
        refine wpAnyH_take (i := 9) (v := ?va9x13) rfl (by kernel_rfl) (by kernel_rfl) (by kernel_rfl) (fun _ _ _ h => h) (Or.inl ⟨by rfl, ?hy9x13⟩) (by assumption) ?rest9x13
        case hy9x13 => (intro w hSw; (try dsimp only at hSw); go_simp; try with_reducible rfl)
        (try simp only [Act.put, List.getElem_toArray, List.getElem_cons_zero, List.getElem_cons_succ, List.setIfInBounds_toArray, List.set_cons_zero, List.set_cons_succ])
        refine wpAnyH_ready (rs := [10]) (by kernel_rfl) (by simp) ?_
        refine AllReadyH.cons rfl (fun K hK => ?_) AllReadyH.nil
        go_simp
        refine (c_isBefore _ x t zr a zl zr _ AP.out HZR.out).mono ?_
        rintro e w2 ⟨rfl, hb2⟩
        have B2 := Lib.hid (bst BP.out hb2 BP.out.size)
        have A2 := Lib.hid (AP.out.below hb2)
        have L2 := Lib.hid (LP.out.trans (hb2.mono LP.out.size))
        replace kk := hHeld
        refine hK.out _ _ (⟨cellBelow hb2 (Nat.le_refl _) kk.1, cellBelow hb2 (Nat.le_refl _) kk.2.1, cellBelow hb2 (Nat.le_refl _) kk.2.2.1, cellBelow hb2 (Nat.le_refl _) kk.2.2.2.1, cellBelow hb2 (Nat.le_refl _) kk.2.2.2.2⟩) (fun hHeld => ?_)
        clear hK K hb2 AP BP LP
        have AP := A2; have BP := B2; have LP := L2; clear A2 B2 L2
        (try simp only [Act.put, List.getElem_toArray, List.getElem_cons_zero, List.getElem_cons_succ, List.setIfInBounds_toArray, List.set_cons_zero, List.set_cons_succ])
        generalize hb2 : bef x zr a = b2 at *
        have HB2 := Lib.hid hb2; clear hb2
        cases b2
        case true =>
          refine wpAnyH_take (i := 11) (v := ?va11x14) rfl (by kernel_rfl) (by kernel_rfl) (by kernel_rfl) (fun _ _ _ h => h) (Or.inl ⟨by rfl, ?hy11x14⟩) (by assumption) ?rest11x14
          case hy11x14 => (intro w hSw; (try dsimp only at hSw); go_simp; try with_reducible rfl)
          (try simp only [Act.put, List.getElem_toArray, List.getElem_cons_zero, List.getElem_cons_succ, List.setIfInBounds_toArray, List.set_cons_zero, List.set_cons_succ])
          refine wpAnyH_take (i := 12) (v := ?va12x15) rfl (by kernel_rfl) (by kernel_rfl) (by kernel_rfl) (fun _ _ _ h => h) (Or.inl ⟨by rfl, ?hy12x15⟩) (by assumption) ?rest12x15
          case hy12x15 => (intro w hSw; (try dsimp only at hSw); go_simp; try with_reducible rfl)
          (try simp only [Act.put, List.getElem_toArray, List.getElem_cons_zero, List.getElem_cons_succ, List.setIfInBounds_toArray, List.set_cons_zero, List.set_cons_succ])
          refine wpAnyH_take (i := 13) (v := undef) rfl (by kernel_rfl) (by kernel_rfl) (by kernel_rfl) (fun _ _ _ h => h) (Or.inr ⟨by rfl, rfl⟩) (by assumption) ?_
          (try simp only [Act.put, List.getElem_toArray, List.getElem_cons_zero, List.getElem_cons_succ, List.setIfInBounds_toArray, List.set_cons_zero, List.set_cons_succ])
          refine wpAnyH_take (i := 14) (v := undef) rfl (by kernel_rfl) (by kernel_rfl) (by kernel_rfl) (fun _ _ _ h => h) (Or.inr ⟨by rfl, rfl⟩) (by assumption) ?_
          (try simp only [Act.put, List.getElem_toArray, List.getElem_cons_zero, List.getElem_cons_succ, List.setIfInBounds_toArray, List.set_cons_zero, List.set_cons_succ])
          refine wpAnyH_take (i := 15) (v := undef) rfl (by kernel_rfl) (by kernel_rfl) (by kernel_rfl) (fun _ _ _ h => h) (Or.inr ⟨by rfl, rfl⟩) (by assumption) ?_
          (try simp only [Act.put, List.getElem_toArray, List.getElem_cons_zero, List.getElem_cons_succ, List.setIfInBounds_toArray, List.set_cons_zero, List.set_cons_succ])
          refine wpAnyH_take (i := 16) (v := undef) rfl (by kernel_rfl) (by kernel_rfl) (by kernel_rfl) (fun _ _ _ h => h) (Or.inr ⟨by rfl, rfl⟩) (by assumption) ?_
          (try simp only [Act.put, List.getElem_toArray, List.getElem_cons_zero, List.getElem_cons_succ, List.setIfInBounds_toArray, List.set_cons_zero, List.set_cons_succ])
          refine wpAnyH_take (i := 17) (v := undef) rfl (by kernel_rfl) (by kernel_rfl) (by kernel_rfl) (fun _ _ _ h => h) (Or.inr ⟨by rfl, rfl⟩) (by assumption) ?_
          (try simp only [Act.put, List.getElem_toArray, List.getElem_cons_zero, List.getElem_cons_succ, List.setIfInBounds_toArray, List.set_cons_zero, List.set_cons_succ])
          refine wpAnyH_take (i := 18) (v := ?va18x16) rfl (by kernel_rfl) (by kernel_rfl) (by kernel_rfl) (fun _ _ _ h => h) (Or.inl ⟨by rfl, ?hy18x16⟩) (by assumption) ?rest18x16
          case hy18x16 => (intro w hSw; (try dsimp only at hSw); go_simp; try with_reducible rfl)
          (try simp only [Act.put, List.getElem_toArray, List.getElem_cons_zero, List.getElem_cons_succ, List.setIfInBounds_toArray, List.set_cons_zero, List.set_cons_succ])
          refine wpAnyH_done (by kernel_rfl) ?_ _
          clear hHeld kk d0 d1 d2 d3 d4
          go_wp2_with fail
          go_ret
          exact ⟨false, rfl, ⟨fun h => absurd h (by decide), fun h => by exfalso; have h1 := h k hlt; exact bef_yes HZR.out.1 HB2.out (HORD.out.1 h1.1).2⟩, BP.out⟩
        case false =>
          refine wpAnyH_take (i := 11) (v := ?va11x17) rfl (by kernel_rfl) (by kernel_rfl) (by kernel_rfl) (fun _ _ _ h => h) (Or.inl ⟨by rfl, ?hy11x17⟩) (by assumption) ?rest11x17
          case hy11x17 => (intro w hSw; (try dsimp only at hSw); go_simp; try with_reducible rfl)
          (try simp only [Act.put, List.getElem_toArray, List.getElem_cons_zero, List.getElem_cons_succ, List.setIfInBounds_toArray, List.set_cons_zero, List.set_cons_succ])
          refine wpAnyH_take (i := 12) (v := ?va12x18) rfl (by kernel_rfl) (by kernel_rfl) (by kernel_rfl) (fun _ _ _ h => h) (Or.inl ⟨by rfl, ?hy12x18⟩) (by assumption) ?rest12x18
          case hy12x18 => (intro w hSw; (try dsimp only at hSw); go_simp; try with_reducible rfl)
          (try simp only [Act.put, List.getElem_toArray, List.getElem_cons_zero, List.getElem_cons_succ, List.setIfInBounds_toArray, List.set_cons_zero, List.set_cons_succ])
          refine wpAnyH_take (i := 13) (v := ?va13x19) rfl (by kernel_rfl) (by kernel_rfl) (by kernel_rfl) (fun _ _ _ h => h) (Or.inl ⟨by rfl, ?hy13x19⟩) (by assumption) ?rest13x19
          case hy13x19 => (intro w hSw; (try dsimp only at hSw); go_simp; try with_reducible rfl)
          (try simp only [Act.put, List.getElem_toArray, List.getElem_cons_zero, List.getElem_cons_succ, List.setIfInBounds_toArray, List.set_cons_zero, List.set_cons_succ])
          refine wpAnyH_take (i := 14) (v := ?va14x20) rfl (by kernel_rfl) (by kernel_rfl) (by kernel_rfl) (fun _ _ _ h => h) (Or.inl ⟨by rfl, ?hy14x20⟩) (by assumption) ?rest14x20
          case hy14x20 => (intro w hSw; (try dsimp only at hSw); go_simp; try with_reducible rfl)
          (try simp only [Act.put, List.getElem_toArray, List.getElem_cons_zero, List.getElem_cons_succ, List.setIfInBounds_toArray, List.set_cons_zero, List.set_cons_succ])
          refine wpAnyH_take (i := 16) (v := ?va16x21) rfl (by kernel_rfl) (by kernel_rfl) (by kernel_rfl) (fun _ _ _ h => h) (Or.inl ⟨by rfl, ?hy16x21⟩) (by assumption) ?rest16x21
          case hy16x21 => (intro w hSw; (try dsimp only at hSw); go_simp; try with_reducible rfl)
          (try simp only [Act.put, List.getElem_toArray, List.getElem_cons_zero, List.getElem_cons_succ, List.setIfInBounds_toArray, List.set_cons_zero, List.set_cons_succ])
          refine wpAnyH_ready (rs := [15]) (by kernel_rfl) (by simp) ?_
          refine AllReadyH.cons rfl (fun K hK => ?_) AllReadyH.nil
          go_simp
          refine (c_leaning _ x t a zl zr ta tb _ AP.out RA.out RB.out SHP.out.l HSA.out).mono ?_
          rintro e w3 ⟨rfl, hb3⟩
          have B3 := Lib.hid (bst BP.out hb3 BP.out.size)
          have A3 := Lib.hid (AP.out.below hb3)
          have L3 := Lib.hid (LP.out.trans (hb3.mono LP.out.size))
          replace kk := hHeld
          refine hK.out _ _ (⟨cellBelow hb3 (Nat.le_refl _) kk.1, cellBelow hb3 (Nat.le_refl _) kk.2.1, cellBelow hb3 (Nat.le_refl _) kk.2.2.1, cellBelow hb3 (Nat.le_refl _) kk.2.2.2.1, cellBelow hb3 (Nat.le_refl _) kk.2.2.2.2⟩) (fun hHeld => ?_)
          clear hK K hb3 AP BP LP
          have AP := A3; have BP := B3; have LP := L3; clear A3 B3 L3
          (try simp only [Act.put, List.getElem_toArray, List.getElem_cons_zero, List.getElem_cons_succ, List.setIfInBounds_toArray, List.set_cons_zero, List.set_cons_succ])
          have HOK : Hid (OrdAt x k) := HORD.out.2 ⟨bef_no HZL.out.1 HB1.out, bef_no HZR.out.1 HB2.out⟩
          by_cases hrk : ta.rk < tb.rk
          · have hne := HNEQ.out hrk
            have HRK := Lib.hid hrk
            rw [if_pos hrk] at *
            clear hrk
            refine wpAnyH_take (i := 17) (v := ?va17x22) rfl (by kernel_rfl) (by kernel_rfl) (by kernel_rfl) (fun _ _ _ h => h) (Or.inl ⟨by rfl, ?hy17x22⟩) (by assumption) ?rest17x22
            case hy17x22 => (intro w hSw; (try dsimp only at hSw); go_simp; try with_reducible rfl)
            (try simp only [Act.put, List.getElem_toArray, List.getElem_cons_zero, List.getElem_cons_succ, List.setIfInBounds_toArray, List.set_cons_zero, List.set_cons_succ])
            refine wpAnyH_take (i := 18) (v := ?va18x23) rfl (by kernel_rfl) (by kernel_rfl) (by kernel_rfl) (fun _ _ _ h => h) (Or.inl ⟨by rfl, ?hy18x23⟩) (by assumption) ?rest18x23
            case hy18x23 => (intro w hSw; (try dsimp only at hSw); go_simp; try with_reducible rfl)
            (try simp only [Act.put, List.getElem_toArray, List.getElem_cons_zero, List.getElem_cons_succ, List.setIfInBounds_toArray, List.set_cons_zero, List.set_cons_succ])
            refine wpAnyH_done (by kernel_rfl) ?_ _
            clear hHeld kk d0 d1 d2 d3 d4
            go_wp2_with fail
            go_ret
            exact ⟨false, rfl, ⟨fun h => absurd h (by decide), fun h => by exfalso; have h1 := h k hlt; exact HLI.out.1 h1.2 HRK.out⟩, BP.out⟩
          · have HRK := Lib.hid hrk
            rw [if_neg hrk] at *
            clear hrk
            refine wpAnyH_take (i := 17) (v := ?va17x24) rfl (by kernel_rfl) (by kernel_rfl) (by kernel_rfl) (fun _ _ _ h => h) (Or.inl ⟨by rfl, ?hy17x24⟩) (by assumption) ?rest17x24
            case hy17x24 => (intro w hSw; (try dsimp only at hSw); go_simp; try with_reducible rfl)
            (try simp only [Act.put, List.getElem_toArray, List.getElem_cons_zero, List.getElem_cons_succ, List.setIfInBounds_toArray, List.set_cons_zero, List.set_cons_succ])
            refine wpAnyH_take (i := 18) (v := ?va18x25) rfl (by kernel_rfl) (by kernel_rfl) (by kernel_rfl) (fun _ _ _ h => h) (Or.inl ⟨by rfl, ?hy18x25⟩) (by assumption) ?rest18x25
            case hy18x25 => (intro w hSw; (try dsimp only at hSw); go_simp; try with_reducible rfl)
            (try simp only [Act.put, List.getElem_toArray, List.getElem_cons_zero, List.getElem_cons_succ, List.setIfInBounds_toArray, List.set_cons_zero, List.set_cons_succ])
            refine wpAnyH_done (by kernel_rfl) ?_ _
            clear hHeld kk d0 d1 d2 d3 d4
            have HNX : Hid (∀ i, i < k + 1 → OrdAt x i ∧ LeanAt x i) := fun i hi => by
              by_cases e : i = k
              · subst e; exact ⟨HOK.out, HLI.out.2 HRK.out⟩
              · exact hok.out i (by omega)
            go_wp2_with fail
            go_roundw
            case rel => exact ⟨k + 1, by omega, by go_num, HNX, LP⟩
            case measure => simp [intOf]; omega
    · obtain rfl : k = n := by omega
      have BP := Lib.hid (HB.out.trans (hb.out.mono HB.out.size))
      go_wp2_with fail
      go_ret
      exact ⟨true, rfl, ⟨fun _ => hok.out, fun _ => rfl⟩, BP.out⟩
end Go.Proofs.Ytejaebmbhcgngaa
namespace Go.Proofs.Ytejaebmbhcgngaa.Ph
/-- The first index, from k on, that is not live (so far all below k are). -/
def placeOf (l : List Bool) : Nat := l.findIdx (fun b => !b)
theorem place_le (l : List Bool) : placeOf l ≤ l.length := List.findIdx_le_length
theorem place_of {l : List Bool} {k : Nat} (hk : k < l.length) (h1 : ∀ i, i < k → l.getD i false = true) (h2 : l.getD k false = false) : placeOf l = k := by
  unfold placeOf
  have e : l[k] = false := by simpa [List.getD, List.getElem?_eq_getElem hk] using h2
  refine (List.findIdx_eq hk).2 ⟨by rw [e]; rfl, fun j hj => ?_⟩
  have := h1 j hj
  have hj' : j < l.length := by omega
  have e2 : l[j] = true := by simpa [List.getD, List.getElem?_eq_getElem hj'] using this
  rw [e2]; rfl
theorem place_none {l : List Bool} (h1 : ∀ i, i < l.length → l.getD i false = true) : placeOf l = l.length := by
  unfold placeOf
  rw [List.findIdx_eq_length]
  intro x hx
  obtain ⟨i, hi, rfl⟩ := List.getElem_of_mem hx
  have := h1 i hi
  have e : l[i] = true := by simpa [List.getD, List.getElem?_eq_getElem hi] using this
  rw [e]; rfl
end Go.Proofs.Ytejaebmbhcgngaa.Ph
namespace Go.Proofs.Ytejaebmbhcgngaa
open Go.RowKit Ph

set_option maxHeartbeats 1600000 in
theorem c_slIndex (v : Value) (l : List Bool) (w : World) (hA : BoolsAt w v l) (hm : l.length ≤ 1000) : Calls Try.prog 148 #[v, .bool false] w fun e w' => e = .returned (.int .i64 (if placeOf l < l.length then (placeOf l : Int) else -1)) ∧ w = w' := by
  obtain ⟨a, c, rfl, hA⟩ := hA
  have HP := Lib.hid (fun k => place_of (l := l) (k := k)); have HQ := Lib.hid (place_none (l := l))
  generalize hr : (if placeOf l < l.length then (placeOf l : Int) else -1) = r
  have HR : Hid (r = if placeOf l < l.length then (placeOf l : Int) else -1) := hr.symm
  clear hr
  have HA := Lib.hid hA
  clear hA
  generalize hn : l.length = n at *
  clear hn
  go_enter Try.func148, Try.ntmps148
  go_wp2
  go_loop [8] (fun i => ∃ k : Nat, k ≤ n ∧ i = .int .i64 k ∧ Hid (∀ i, i < k → l.getD i false = true)) (fun i => n - (intOf i).toNat)
  case atStart => exact ⟨0, Nat.zero_le _, rfl, fun i hi => by omega⟩
  case round =>
    obtain ⟨k, hk, rfl, ht⟩ := hrel
    by_cases hlt : k < n
    · obtain ⟨g, off, rfl, hc⟩ := HA.out (by omega)
      have q := hc k hlt
      have i1 : (k : Int) < (n : Int) := by omega
      clear hc
      generalize hx : l.getD k false = x at *
      have HX := Lib.hid hx
      clear hx
      cases x
      · have hp := HP.out k hlt ht.out HX.out
        have HE : Hid (r = (k : Int)) := by unfold Hid; rw [HR.out, hp, if_pos hlt]
        clear hp
        go_wp2
        go_ret
        exact ⟨r_i HE.out.symm, rfl⟩
      · have HE : Hid (∀ i, i < k + 1 → l.getD i false = true) := fun i hi => by
          by_cases e : i = k
          · subst e; exact HX.out
          · exact ht.out i (by omega)
        go_wp2
        go_round
        case rel => exact ⟨k + 1, by omega, by go_num, HE.out⟩
        case measure => simp [intOf]; omega
    · obtain rfl : k = n := by omega
      have hp := HQ.out ht.out
      have HE : Hid (r = -1) := by unfold Hid; rw [HR.out, hp, if_neg (by omega)]
      clear hp
      go_wp2
      go_ret
      exact ⟨r_i HE.out.symm, rfl⟩
end Go.Proofs.Ytejaebmbhcgngaa
namespace Go.Proofs.Ytejaebmbhcgngaa
open Go.RowKit Ph

/-- What is appended, cell by cell. -/
def SrcAt (w : World) (x : Value) (ys : List Value) : Prop := ∃ ao c, x = .slice ao ys.length c ∧ (∀ u ∈ ys, u.oneCell' = true) ∧ (0 < ys.length → ∃ b off, ao = some ⟨b, off, none⟩ ∧ ∀ j, j < ys.length → w.cell? ⟨b, off + j, none⟩ = ys[j]?)
theorem IntsAt.src {w : World} {x : Value} {zs : List Int} (h : IntsAt w x zs) : SrcAt w x (zs.map (Value.int .i64)) := by
  obtain ⟨ao, c, rfl, hc⟩ := h
  refine ⟨ao, c, by rw [List.length_map], fun u hu => by obtain ⟨_, _, rfl⟩ := List.mem_map.1 hu; rfl, fun h0 => ?_⟩
  rw [List.length_map] at h0 ⊢
  obtain ⟨b, off, ha, hcc⟩ := hc h0
  exact ⟨b, off, ha, fun j hj => by rw [hcc j hj, List.getElem?_map, List.getElem?_eq_getElem hj]; simp [List.getD, List.getElem?_eq_getElem hj]⟩
theorem run_appOwn {P : Program} (w : World) (base : Nat) (t ty e : TypeId) (i : TypeInfo) (z : Value) (bytes : Nat) (ht : P.underlying t = some (.slice e)) (hi : P.info? e = some i) (hz : i.zero = some z) (hsize : i.size = 1) (hby : i.bytes = bytes) (hzs : z.cells.size = 1)
    (v : Value) (n : Nat) (xs : List Value) (hown : w.ownsRow base e 1 v n xs) (x : Value) (ys : List Value) (hs : SrcAt w x ys) (h63 : n + ys.length ≤ maxLen) (hbytes : (n + ys.length) * bytes ≤ 140737488355328) (hbase : base ≤ w.heap.size) :
    ∃ v' w', (Builtin.append_ #[t, t] ty #[v, x]).run P w = .ok v' w' ∧ w'.ownsRow base e 1 v' (n + ys.length) (xs ++ ys) ∧ w.grownBy w' v.ownBlock ∧ (v'.ownBlock = v.ownBlock ∨ v'.ownBlock = some w.heap.size) := by
  obtain ⟨ao, c, rfl, h1, hc⟩ := hs
  by_cases h0 : 0 < ys.length
  · obtain ⟨b, off, rfl, hcc⟩ := hc h0
    obtain ⟨v', w', hr, ho, hg, _, hb⟩ := run_append_own_at w base t ty e i z 1 bytes ht hi hz hsize hby hzs (by omega) v n xs hown ⟨b, off, none⟩ ys.length c ys (by omega) (fun j u hu => by
      have hj : j < ys.length := by obtain ⟨h1, _⟩ := List.getElem?_eq_some_iff.1 hu; exact h1
      rw [Addr.add_lit, hcc j hj, hu]) h1 h63 hbytes hbase
    exact ⟨v', w', hr, ho, hg, hb⟩
  · have hy : ys = [] := List.eq_nil_of_length_eq_zero (by omega)
    subst hy
    have hsrc : Src P i.size t (.slice ao 0 c) 0 [] w := by
      cases ao with
      | none => exact Src.ofNil w ht c
      | some ad => exact Src.ofSlice w ht ad 0 c [] (by simp) (fun j u hu => by simp at hu) (fun u hu => by simp at hu)
    have hv : ∃ base' len cap, v = .slice base' len cap ∧ len ≤ cap := by
      rcases hown.2 with ⟨rfl, _⟩ | ⟨g, cap, cur, rfl, _, _, hle, _⟩
      · exact ⟨none, 0, 0, rfl, Nat.le_refl _⟩
      · exact ⟨_, _, _, rfl, hle⟩
    obtain ⟨base', len, cap, rfl, hle⟩ := hv
    exact ⟨_, w, run_append_nothing w t t ty e i ht hi base' len cap hle _ hsrc, by simpa using hown, World.grownBy.refl _ _, .inl rfl⟩
theorem wl_appOwn {P : Program} (w : World) {ops : Array Oper} {rest : List Oper} {o : Oper} {q : Act} {Q : Exit → Act → World → Prop} (hgd : o.guard = none) (s x : Operand) (t : TypeId) (hop : o.op = Op.call { callee := Callee.builtin Builtin.append, args := #[s, x], argTypes := #[t, t] })
    (base : Nat) (e : TypeId) (i : TypeInfo) (z : Value) (bytes : Nat) (ht : P.underlying t = some (.slice e)) (hi : P.info? e = some i) (hz : i.zero = some z) (hsize : i.size = 1) (hby : i.bytes = bytes) (hzs : z.cells.size = 1)
    (v : Value) (n : Nat) (xs : List Value) (hs : q.eval s = v) (hown : w.ownsRow base e 1 v n xs) (y : Value) (ys : List Value) (hx : q.eval x = y) (hy : SrcAt w y ys) (h63 : n + ys.length ≤ maxLen) (hbytes : (n + ys.length) * bytes ≤ 140737488355328) (hbase : base ≤ w.heap.size)
    (hK : ∀ v' w', w'.ownsRow base e 1 v' (n + ys.length) (xs ++ ys) → w.grownBy w' v.ownBlock → (v'.ownBlock = v.ownBlock ∨ v'.ownBlock = some w.heap.size) → wpList P ops Q rest (q.put o.dst v') w') : wpList P ops Q (o :: rest) q w := by
  obtain ⟨v', w', hrun, h1, h2, h3⟩ := run_appOwn (P := P) w base t o.type e i z bytes ht hi hz hsize hby hzs v n xs hown y ys hy h63 hbytes hbase
  refine wpList_plain hgd fun K hK' => ?_
  unfold Oper.wp
  simp [execOp, hop, resolve, invoke, builtin, hs, hx, hrun, Result.andThen]
  exact hK' _ _ (hK v' w' h1 h2 h3)
end Go.Proofs.Ytejaebmbhcgngaa
namespace Go.Proofs.Ytejaebmbhcgngaa
open Go.RowKit Ph

theorem op_app {P : Program} {o : Oper} {q : Act} {w w' : World} {K : Act → World → Prop} {Q : Exit → Act → World → Prop} {vs vx v' : Value} (s x : Operand) (t : TypeId) (hop : o.op = Op.call { callee := Callee.builtin Builtin.append, args := #[s, x], argTypes := #[t, t] }) (hs : q.eval s = vs) (hx : q.eval x = vx)
    (hrun : (Builtin.append_ #[t, t] o.type #[vs, vx]).run P w = .ok v' w') (h : K (q.put o.dst v') w') : Oper.wp P o q w K Q := by
  unfold Oper.wp
  simp [execOp, hop, resolve, invoke, builtin, hs, hx, hrun, Result.andThen]
  exact h
section
variable {w W : World} {fa la ra vA vB : Value} {lA : List Bool} {rB : List Int}
theorem own_empty (W : World) (T : TypeId) : (W.alloc (.cells #[] T)).ownsRow W.heap.size T 1 (.slice (some ⟨W.heap.size, 0, none⟩) 0 0) 0 [] := ⟨rfl, .inr ⟨W.heap.size, 0, #[], rfl, Nat.le_refl _, heap_alloc_new _ _, Nat.le_refl _, by unfold maxLen; omega, rfl, rfl⟩⟩
end
end Go.Proofs.Ytejaebmbhcgngaa
