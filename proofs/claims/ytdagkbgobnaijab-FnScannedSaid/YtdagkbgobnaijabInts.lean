/- Slices that read as lists of integers; contracts of the laws' own helpers over them. -/
import Derived.Test.YtdagkbgobnaijabProg
import Derived.WalkKit
import Derived.WalkSpells
import Derived.WalkLawsBesides
import Derived.Lib.Hide
import Derived.Deep.QuietTactic
import Derived.BigQuiet
namespace Go.Proofs.Ytdagkbgobnaijab
open Go.RowKit

theorem r_i {a a' : Int} (h : a = a') : Ending.returned (.int .i64 a) = .returned (.int .i64 a') := by rw [h]
theorem r_b {a a' : Bool} (h : a = a') : Ending.returned (.bool a) = .returned (.bool a') := by rw [h]
theorem r_ib {a a' : Int} {b b' : Bool} (h : a = a') (k : b = b') : Ending.returned (.tuple #[.int .i64 a, .bool b]) = .returned (.tuple #[.int .i64 a', .bool b']) := by rw [h, k]
theorem r_iib {a a' c c' : Int} {b b' : Bool} (h : a = a') (l : c = c') (k : b = b') : Ending.returned (.tuple #[.int .i64 a, .int .i64 c, .bool b]) = .returned (.tuple #[.int .i64 a', .int .i64 c', .bool b']) := by rw [h, k, l]
theorem run_index_arr {P : Program} (w : World) (t e : TypeId) (n : Nat) (cs : Array Value) (i : Nat) (v : Value) (k : IntKind) (ht : P.underlying t = some (.array n e)) (he : P.underlying e = some (.int k)) (hz : (P.info? e).map (·.size) = some 1)
    (hi : i < n) (hv : cs[i]? = some v) : (Instr.index t (.agg cs) (.int .i64 (i : Int))).run P w = .ok v w := by
  have h1 : (0 : Int) ≤ (i : Int) ∧ (i : Int) < (n : Int) := by omega
  have hagg : (isAgg e).run P w = .ok false w := by
    unfold isAgg
    rw [Sem.run_bind, run_underlying he w]
    simp
  cases hq : P.info? e with
  | none => simp [hq] at hz
  | some inf =>
    have hs : inf.size = 1 := by simpa [hq] using hz
    simp [Instr.index, run_underlying ht, asIntOf, h1, sizeOf, typeInfo, hq, hs, hi, hagg, hv, go_sem]
/-- The slice value v reads, in the world w, as the list zs of ints. -/
def IntsAt (w : World) (v : Value) (zs : List Int) : Prop :=
  ∃ a cap, v = .slice a zs.length cap ∧ (0 < zs.length → ∃ b off, a = some ⟨b, off, none⟩ ∧ ∀ i, i < zs.length → w.cell? ⟨b, off + i, none⟩ = some (.int .i64 (zs.getD i 0)))
theorem IntsAt.below {w w' : World} {v : Value} {zs : List Int} (h : IntsAt w v zs) (hb : Below w.heap.size w w') : IntsAt w' v zs := by
  obtain ⟨a, cap, hv, hc⟩ := h
  refine ⟨a, cap, hv, fun h0 => ?_⟩
  obtain ⟨b, off, ha, hc⟩ := hc h0
  refine ⟨b, off, ha, fun i hi => ?_⟩
  have h1 := hc i hi
  rw [hb.cell (p := ⟨b, off + i, none⟩) (block_lt_of_cell h1)]
  exact h1
theorem IntsAt.drewN {w : World} {v : Value} {zs : List Int} (h : IntsAt w v zs) (n : Nat) : IntsAt (w.drewN n) v zs := h
/-- The slice value v reads, in the world w, as the list zs of bytes. -/
def BytesAt (w : World) (v : Value) (zs : List Int) : Prop :=
  zs.length ≤ 9223372036854775807 ∧ (∀ z ∈ zs, 0 ≤ z ∧ z ≤ 255) ∧ ∃ a cap, v = .slice a zs.length cap ∧ (0 < zs.length → ∃ b off, a = some ⟨b, off, none⟩ ∧ ∀ i, i < zs.length → w.cell? ⟨b, off + i, none⟩ = some (.int .u8 (zs.getD i 0)))
theorem BytesAt.below {w w' : World} {v : Value} {zs : List Int} (h : BytesAt w v zs) (hb : Below w.heap.size w w') : BytesAt w' v zs := by
  obtain ⟨h1, h2, a, cap, hv, hc⟩ := h
  refine ⟨h1, h2, a, cap, hv, fun h0 => ?_⟩
  obtain ⟨b, off, ha, hc⟩ := hc h0
  refine ⟨b, off, ha, fun i hi => ?_⟩
  have h1 := hc i hi
  rw [hb.cell (p := ⟨b, off + i, none⟩) (block_lt_of_cell h1)]
  exact h1
/-- A row of ints that the call itself has made. -/
def Own (w : World) (B : Nat) (v : Value) (zs : List Int) : Prop := w.ownsRow B 3 1 v zs.length (zs.map (Value.int .i64))
theorem Own.ints {w : World} {B : Nat} {v : Value} {zs : List Int} (h : Own w B v zs) : IntsAt w v zs := by
  have h' := h
  obtain ⟨h1, h2⟩ := h
  rcases h2 with ⟨rfl, h2⟩ | ⟨g, cap, cur, rfl, hg, hh, _⟩
  · exact ⟨none, 0, by rw [h2], fun h => by omega⟩
  · refine ⟨_, cap, rfl, fun _ => ⟨g, 0, rfl, fun i hi => ?_⟩⟩
    rw [Nat.zero_add, World.ownsRow.cellAt h' i (by omega), List.getElem?_map, List.getElem?_eq_getElem hi]
    simp [List.getD, List.getElem?_eq_getElem hi]
theorem Own.below {w w' : World} {B : Nat} {v : Value} {zs : List Int} (h : Own w B v zs) (hb : Below w.heap.size w w') : Own w' B v zs := by
  obtain ⟨h1, h2⟩ := h
  refine ⟨h1, ?_⟩
  rcases h2 with h2 | ⟨g, cap, cur, hv, hg, hh, r⟩
  · exact .inl h2
  · have hlt : g < w.heap.size := by
      by_cases e : g < w.heap.size
      · exact e
      · have hn : w.heap[g]? = none := by simp; omega
        simp [hn] at hh
    exact .inr ⟨g, cap, cur, hv, hg, by rw [hb.block g hlt]; exact hh, r⟩
theorem Own.drewN {w : World} {B : Nat} {v : Value} {zs : List Int} (h : Own w B v zs) (n : Nat) : Own (w.drewN n) B v zs := h
theorem Own.mono {w : World} {B B' : Nat} {v : Value} {zs : List Int} (h : Own w B v zs) (hB : B' ≤ B) : Own w B' v zs := by
  obtain ⟨h1, h2⟩ := h
  refine ⟨h1, ?_⟩
  rcases h2 with h2 | ⟨g, cap, cur, hv, hg, r⟩
  · exact .inl h2
  · exact .inr ⟨g, cap, cur, hv, by omega, r⟩
theorem below_drewN {B : Nat} {a w : World} (h : Below B a w) (n : Nat) : Below B a (w.drewN n) := h.trans ⟨rfl, rfl, rfl, Nat.le_refl _, fun _ _ => rfl⟩
theorem drewN_refl (w : World) : ∃ n, w = w.drewN n := ⟨0, rfl⟩
theorem take_eq_succ {za zb : List Int} {k : Nat} (h : za.take k = zb.take k) (ha : k < za.length) (hb : k < zb.length) (e : za.getD k 0 = zb.getD k 0) : za.take (k + 1) = zb.take (k + 1) := by
  rw [List.take_succ_eq_append_getElem ha, List.take_succ_eq_append_getElem hb, h]
  simp only [List.getD, List.getElem?_eq_getElem ha, List.getElem?_eq_getElem hb, Option.getD_some] at e
  rw [e]
theorem ne_of_getD {za zb : List Int} {k : Nat} (e : ¬ za.getD k 0 = zb.getD k 0) : ¬ za = zb := fun h => e (by rw [h])

theorem take_all_eq {za zb : List Int} {n : Nat} (ha : za.length = n) (hb : zb.length = n) (h : za.take n = zb.take n) : za = zb := by
  rwa [List.take_of_length_le (by omega), List.take_of_length_le (by omega)] at h


set_option maxHeartbeats 400000 in
theorem c_eqIntS (va vb : Value) (za zb : List Int) (w : World) (hA : IntsAt w va za) (hB : IntsAt w vb zb) (hm : za.length ≤ 9223372036854775806) :
    Calls Try.prog 67 #[va, vb] w fun e w' => e = .returned (.bool (decide (za = zb))) ∧ ∃ n, w' = w.drewN n := by
  obtain ⟨a, ca, rfl, hA⟩ := hA
  obtain ⟨b, cb, rfl, hB⟩ := hB
  by_cases hl : za.length = zb.length
  · rw [← hl] at hB ⊢
    generalize hn : za.length = n at *
    have HN := Lib.hid hn; have HL := Lib.hid hl; clear hn hl
    have hbq : ((n : Int) != (n : Int)) = false := by simp
    by_cases h0 : n = 0
    · subst h0
      obtain rfl : za = [] := List.eq_nil_of_length_eq_zero HN.out
      obtain rfl : zb = [] := List.eq_nil_of_length_eq_zero HL.out.symm
      clear hA hB
      go_enter Try.func67, Try.ntmps67
      go_wp2
      refine wp_loop_rounds 1 ?_
      rw [rounds_succ]
      go_wp2
      go_ret
      exact ⟨rfl, drewN_refl _⟩
    · obtain ⟨ba, oa, rfl, hca⟩ := hA (by omega)
      obtain ⟨bb, ob, rfl, hcb⟩ := hB (by omega)
      clear hA hB
      have HCA := Lib.hid hca; have HCB := Lib.hid hcb; clear hca hcb
      go_enter Try.func67, Try.ntmps67
      go_wp2
      go_loopw [5] (fun i wr => ∃ k : Nat, k ≤ n ∧ i = .int .i64 k ∧ Hid (za.take k = zb.take k) ∧ ∃ n, wr = w.drewN n) (fun i _ => n - (intOf i).toNat)
      case atStart => exact ⟨0, Nat.zero_le _, rfl, by simp [Hid], drewN_refl _⟩
      case round =>
        obtain ⟨k, hk, rfl, ht, nd, rfl⟩ := hrel
        by_cases hlt : k < n
        · have q1 := HCA.out k hlt
          have q2 := HCB.out k hlt
          have i1 : (k : Int) < (n : Int) := by omega
          generalize hx : za.getD k 0 = x at q1
          generalize hy : zb.getD k 0 = y at q2
          have HX := Lib.hid hx; have HY := Lib.hid hy; clear hx hy
          by_cases exy : x = y
          · subst exy
            go_wp2
            go_quiet (fail)
            go_wp2
            go_roundw
            case rel => exact ⟨k + 1, by omega, by go_num, take_eq_succ ht.out (by rw [HN.out]; exact hlt) (by rw [← HL.out]; exact hlt) (HX.out.trans HY.out.symm), nd + nq, by simp⟩
            case measure => simp [intOf]; omega
          · have hne : (x != y) = true := by rw [bne_iff_ne]; exact exy
            have HNE : Hid (decide (za = zb) = false) := decide_eq_false (ne_of_getD (k := k) (by rw [HX.out, HY.out]; exact exy))
            clear exy
            go_wp2
            go_quiet (fail)
            go_wp2
            go_ret
            exact ⟨r_b HNE.out.symm, nd + nq, by simp⟩
        · have HE : Hid (decide (za = zb) = true) := decide_eq_true (take_all_eq (n := k) (by rw [HN.out]; omega) (by rw [← HL.out]; omega) ht.out)
          go_wp2
          go_ret
          exact ⟨r_b HE.out.symm, _, rfl⟩
  · generalize hna : za.length = na at *
    generalize hnb : zb.length = nb at *
    have hbq : ((na : Int) != (nb : Int)) = true := by rw [bne_iff_ne]; omega
    have HN : Hid (decide (za = zb) = false) := decide_eq_false (fun h => hl (by rw [← hna, ← hnb, h]))
    clear hl hA hB hna hnb
    go_enter Try.func67, Try.ntmps67
    go_wp2
    go_ret
    exact ⟨r_b HN.out.symm, drewN_refl _⟩

set_option maxHeartbeats 400000 in
theorem c_sameInts (va vb : Value) (za zb : List Int) (w : World) (hA : IntsAt w va za) (hB : IntsAt w vb zb) (hm : za.length ≤ 9223372036854775806) :
    Calls Try.prog 33 #[va, vb] w fun e w' => e = .returned (.bool (decide (za = zb))) ∧ ∃ n, w' = w.drewN n := by
  obtain ⟨a, ca, rfl, hA⟩ := hA
  obtain ⟨b, cb, rfl, hB⟩ := hB
  by_cases hl : za.length = zb.length
  · rw [← hl] at hB ⊢
    generalize hn : za.length = n at *
    have HN := Lib.hid hn; have HL := Lib.hid hl; clear hn hl
    have hbq : ((n : Int) != (n : Int)) = false := by simp
    by_cases h0 : n = 0
    · subst h0
      obtain rfl : za = [] := List.eq_nil_of_length_eq_zero HN.out
      obtain rfl : zb = [] := List.eq_nil_of_length_eq_zero HL.out.symm
      clear hA hB
      go_enter Try.func33, Try.ntmps33
      go_wp2
      refine wp_loop_rounds 1 ?_
      rw [rounds_succ]
      go_wp2
      go_ret
      exact ⟨rfl, drewN_refl _⟩
    · obtain ⟨ba, oa, rfl, hca⟩ := hA (by omega)
      obtain ⟨bb, ob, rfl, hcb⟩ := hB (by omega)
      clear hA hB
      have HCA := Lib.hid hca; have HCB := Lib.hid hcb; clear hca hcb
      go_enter Try.func33, Try.ntmps33
      go_wp2
      go_loopw [13] (fun i wr => ∃ k : Nat, k ≤ n ∧ i = .int .i64 k ∧ Hid (za.take k = zb.take k) ∧ ∃ n, wr = w.drewN n) (fun i _ => n - (intOf i).toNat)
      case atStart => exact ⟨0, Nat.zero_le _, rfl, by simp [Hid], drewN_refl _⟩
      case round =>
        obtain ⟨k, hk, rfl, ht, nd, rfl⟩ := hrel
        by_cases hlt : k < n
        · have q1 := HCA.out k hlt
          have q2 := HCB.out k hlt
          have i1 : (k : Int) < (n : Int) := by omega
          generalize hx : za.getD k 0 = x at q1
          generalize hy : zb.getD k 0 = y at q2
          have HX := Lib.hid hx; have HY := Lib.hid hy; clear hx hy
          by_cases exy : x = y
          · subst exy
            go_wp2
            go_quiet (fail)
            go_wp2
            go_roundw
            case rel => exact ⟨k + 1, by omega, by go_num, take_eq_succ ht.out (by rw [HN.out]; exact hlt) (by rw [← HL.out]; exact hlt) (HX.out.trans HY.out.symm), nd + nq, by simp⟩
            case measure => simp [intOf]; omega
          · have hne : (x != y) = true := by rw [bne_iff_ne]; exact exy
            have HNE : Hid (decide (za = zb) = false) := decide_eq_false (ne_of_getD (k := k) (by rw [HX.out, HY.out]; exact exy))
            clear exy
            go_wp2
            go_quiet (fail)
            go_wp2
            go_ret
            exact ⟨r_b HNE.out.symm, nd + nq, by simp⟩
        · have HE : Hid (decide (za = zb) = true) := decide_eq_true (take_all_eq (n := k) (by rw [HN.out]; omega) (by rw [← HL.out]; omega) ht.out)
          go_wp2
          go_ret
          exact ⟨r_b HE.out.symm, _, rfl⟩
  · generalize hna : za.length = na at *
    generalize hnb : zb.length = nb at *
    have hbq : ((na : Int) != (nb : Int)) = true := by rw [bne_iff_ne]; omega
    have HN : Hid (decide (za = zb) = false) := decide_eq_false (fun h => hl (by rw [← hna, ← hnb, h]))
    clear hl hA hB hna hnb
    go_enter Try.func33, Try.ntmps33
    go_wp2
    go_ret
    exact ⟨r_b HN.out.symm, drewN_refl _⟩

theorem grownBy_trans {a b c : World} {r : Option Nat} (h : a.grownBy b r) (k : b.grownBy c r) : a.grownBy c r :=
  ⟨k.os.trans h.os, k.tape.trans h.tape, k.output.trans h.output, Nat.le_trans h.size k.size, fun i hi hr => (k.block i (Nat.lt_of_lt_of_le hi h.size) hr).trans (h.block i hi hr)⟩
/-- n numbers, from k on. -/
def upFrom (k : Int) (n : Nat) : List Int := (List.range n).map (fun i : Nat => k + (i : Int))
theorem upFrom_length (k : Int) (n : Nat) : (upFrom k n).length = n := by simp [upFrom]
theorem upFrom_getD (k : Int) {n i : Nat} (h : i < n) : (upFrom k n).getD i 0 = k + i := by simp [upFrom, List.getD, h]
/-- What lies in a row of which the first j have been marked. -/
def markTo (k : Int) (zs : List Int) (j : Nat) : List Int := upFrom k j ++ zs.drop j
theorem markTo_length (k : Int) (zs : List Int) {j : Nat} (h : j ≤ zs.length) : (markTo k zs j).length = zs.length := by simp [markTo, upFrom_length]; omega
theorem markTo_zero (k : Int) (zs : List Int) : markTo k zs 0 = zs := by simp [markTo, upFrom]
theorem markTo_all (k : Int) (zs : List Int) : markTo k zs zs.length = upFrom k zs.length := by simp [markTo]
theorem markTo_set (k : Int) (zs : List Int) {j : Nat} (h : j < zs.length) : (markTo k zs j).set j (k + j) = markTo k zs (j + 1) := by
  unfold markTo
  have e : zs.drop j = zs[j] :: zs.drop (j + 1) := (List.drop_eq_getElem_cons h)
  rw [e, List.set_append_right _ _ (by rw [upFrom_length]; omega), upFrom_length, Nat.sub_self, List.set_cons_zero]
  simp [upFrom, List.range_succ]


set_option maxHeartbeats 400000 in
theorem c_markIntS (v : Value) (zs : List Int) (B : Nat) (k : Int) (w : World) (hown : Own w B v zs) (h0 : 0 ≤ k) (hm : k + zs.length ≤ 9223372036854775806) :
    Calls Try.prog 68 #[v, .int .i64 k] w fun e w' => e = .returned (.int .i64 (k + zs.length)) ∧ Own w' B v (upFrom k zs.length) ∧ w.grownBy w' v.ownBlock := by
  have hv : (v = .slice none 0 0 ∧ zs = []) ∨ ∃ g cap, v = .slice (some ⟨g, 0, none⟩) zs.length cap := by
    rcases hown.2 with ⟨h1, h2⟩ | ⟨g, cap, cur, h1, _⟩
    · exact .inl ⟨h1, List.eq_nil_of_length_eq_zero h2⟩
    · exact .inr ⟨g, cap, h1⟩
  rcases hv with ⟨rfl, rfl⟩ | ⟨g, cap, rfl⟩
  · go_enter Try.func68, Try.ntmps68
    go_wp2
    refine wp_loop_rounds 1 ?_
    rw [rounds_succ]
    go_wp2
    go_ret
    exact ⟨r_i (by simp), hown, World.grownBy.refl _ _⟩
  · have HO := Lib.hid hown; clear hown
    generalize hn : zs.length = n at *
    have HN := Lib.hid hn; clear hn
    go_enter Try.func68, Try.ntmps68
    go_wp2
    go_loopw [1, 5] (fun kk i wr => ∃ j : Nat, j ≤ n ∧ i = .int .i64 j ∧ kk = .int .i64 (k + j) ∧ Own wr B (.slice (some ⟨g, 0, none⟩) n cap) (markTo k zs j) ∧ w.grownBy wr (some g)) (fun _ i _ => n - (intOf i).toNat)
    case atStart => exact ⟨0, Nat.zero_le _, rfl, by simp, by rw [markTo_zero]; exact HO.out, World.grownBy.refl _ _⟩
    case round =>
      obtain ⟨j, hj, rfl, rfl, hown, hg⟩ := hrel
      by_cases hlt : j < n
      · have hlen := markTo_length k zs (j := j) (by rw [HN.out]; exact hj)
        have hown' : wr.ownsRow B 3 1 (.slice (some ⟨g, 0, none⟩) n cap) n ((markTo k zs j).map (Value.int .i64)) := by
          have := hown; unfold Own at this; rwa [hlen, HN.out] at this
        have hfr := hown'.frozenAt j
        obtain ⟨x, hx⟩ : ∃ x, wr.cell? ⟨g, j, none⟩ = some x := by
          rw [hown'.cellAt j (by omega), List.getElem?_map, List.getElem?_eq_getElem (by rw [hlen, HN.out]; exact hlt)]
          exact ⟨_, rfl⟩
        obtain ⟨s1, s2⟩ := hown'.stored j (.int .i64 (k + j))
        have S1 : Hid (Own (wr.setCell ⟨g, j, none⟩ (.int .i64 (k + j))) B (.slice (some ⟨g, 0, none⟩) n cap) (markTo k zs (j + 1))) := by
          unfold Hid Own
          rw [markTo_length k zs (by rw [HN.out]; omega), HN.out, ← markTo_set k zs (by rw [HN.out]; exact hlt), List.map_set]
          exact s1
        have S2 := Lib.hid s2
        clear s1 s2 hown hown' hlen
        go_wp2
        go_roundw
        case rel => exact ⟨j + 1, by omega, by go_num, by go_num, S1.out, grownBy_trans hg S2.out⟩
        case measure => simp [intOf]; omega
      · obtain rfl : j = n := by omega
        go_wp2
        go_ret
        exact ⟨rfl, by rw [← HN.out, ← markTo_all, HN.out]; exact hown, hg⟩


set_option maxHeartbeats 400000 in
theorem c_heldIntS (v : Value) (n : Nat) (k : Int) (w : World) (hA : IntsAt w v (upFrom k n)) (h0 : 0 ≤ k) (hm : k + n ≤ 9223372036854775806) :
    Calls Try.prog 69 #[v, .int .i64 k] w fun e w' => e = .returned (.int .i64 (k + n)) ∧ w = w' := by
  obtain ⟨a, ca, rfl, hA⟩ := hA
  rw [upFrom_length] at hA ⊢
  by_cases hz : n = 0
  · subst hz
    clear hA
    go_enter Try.func69, Try.ntmps69
    go_wp2
    refine wp_loop_rounds 1 ?_
    rw [rounds_succ]
    go_wp2
    go_ret
    exact ⟨r_i (by simp), rfl⟩
  · obtain ⟨b, off, rfl, hc⟩ := hA (by omega)
    clear hA
    have HC := Lib.hid hc; clear hc
    go_enter Try.func69, Try.ntmps69
    go_wp2
    go_loop [1, 5] (fun kk i => ∃ j : Nat, j ≤ n ∧ i = .int .i64 j ∧ kk = .int .i64 (k + j)) (fun _ i => n - (intOf i).toNat)
    case atStart => exact ⟨0, Nat.zero_le _, rfl, by simp⟩
    case round =>
      obtain ⟨j, hj, rfl, rfl⟩ := hrel
      by_cases hlt : j < n
      · have q := HC.out j hlt
        rw [upFrom_getD k hlt] at q
        go_wp2
        go_round
        case rel => exact ⟨j + 1, by omega, by go_num, by go_num⟩
        case measure => simp [intOf]; omega
      · obtain rfl : j = n := by omega
        go_wp2
        go_ret
        exact ⟨rfl, rfl⟩

/-- What lies in a row of zeros of which the first j have been filled. -/
def fillTo (zs : List Int) (j : Nat) : List Int := zs.take j ++ List.replicate (zs.length - j) 0
theorem fillTo_length (zs : List Int) {j : Nat} (h : j ≤ zs.length) : (fillTo zs j).length = zs.length := by simp [fillTo]; omega
theorem fillTo_zero (zs : List Int) : fillTo zs 0 = List.replicate zs.length 0 := by simp [fillTo]
theorem fillTo_all (zs : List Int) : fillTo zs zs.length = zs := by simp [fillTo]
theorem fillTo_set (zs : List Int) {j : Nat} (h : j < zs.length) : (fillTo zs j).set j (zs.getD j 0) = fillTo zs (j + 1) := by
  unfold fillTo
  have e : List.replicate (zs.length - j) (0 : Int) = 0 :: List.replicate (zs.length - (j + 1)) 0 := by
    rw [show zs.length - j = (zs.length - (j + 1)) + 1 by omega, List.replicate_succ]
  rw [e, List.set_append_right _ _ (by simp; omega), List.length_take, Nat.min_eq_left (by omega), Nat.sub_self, List.set_cons_zero, List.take_succ_eq_append_getElem h]
  have e2 : zs.getD j 0 = zs[j] := by simp [List.getD, List.getElem?_eq_getElem h]
  rw [e2, List.append_assoc]
  rfl

theorem info_int : (Try.prog.info? 3).map (fun i => (i.zero, i.size, i.bytes)) = some (some (.int .i64 0), 1, 8) := by kernel_rfl

set_option maxHeartbeats 400000 in
theorem c_toIntS (v : Value) (zs : List Int) (w : World) (hA : IntsAt w v zs) (hm : zs.length ≤ 1048576) :
    Calls Try.prog 66 #[v] w fun e w' => ∃ v', e = .returned v' ∧ Own w' w.heap.size v' zs ∧ Below w.heap.size w w' := by
  obtain ⟨i0, hi, hz0, hz1, hz2⟩ := info_parts info_int
  obtain ⟨a, ca, rfl, hA⟩ := hA
  generalize hn : zs.length = n at *
  have HN := Lib.hid hn; clear hn
  have HA := Lib.hid hA; clear hA
  go_enter Try.func66, Try.ntmps66
  go_wp2_with (refine wpList_make_full _ rfl _ _ 25 rfl w.heap.size 3 i0 (.int .i64 0) 1 Try.underlying25 hi hz0 hz1 .i64 .i64 _ _ n rfl rfl rfl rfl (by rw [hz2]; omega) (by unfold maxLen; omega) (Nat.le_refl _) ?_; intro w1 hown hgr; rw [Nat.mul_one, show (Value.int .i64 0).cells = #[.int .i64 0] from rfl, toList_madeCells_one] at hown; have hb := (Below.refl w.heap.size w).grown hgr (Nat.le_refl _) (fun k hk => by cases hk); have HO := Lib.hid hown; clear hown hgr)
  go_loopw [4] (fun i wr => ∃ j : Nat, j ≤ n ∧ i = .int .i64 j ∧ Own wr w.heap.size (.slice (some ⟨w.heap.size, 0, none⟩) n n) (fillTo zs j) ∧ Below w.heap.size w wr) (fun i _ => n - (intOf i).toNat)
  case atStart =>
    refine ⟨0, Nat.zero_le _, rfl, ?_, hb⟩
    unfold Own
    rw [fillTo_length zs (Nat.zero_le _), HN.out, fillTo_zero, HN.out, List.map_replicate]
    exact HO.out
  case round =>
    obtain ⟨j, hj, rfl, hown, hbr⟩ := hrel
    by_cases hlt : j < n
    · obtain ⟨b, off, ha, hc⟩ := HA.out (by omega)
      have hq := hc j hlt
      have q : wr.cell? ⟨b, off + j, none⟩ = some (.int .i64 (zs.getD j 0)) := (hbr.cell (p := ⟨b, off + j, none⟩) (block_lt_of_cell hq)).trans hq
      clear hq hc
      have hlen := fillTo_length zs (j := j) (by rw [HN.out]; exact hj)
      have hown' : wr.ownsRow w.heap.size 3 1 (.slice (some ⟨w.heap.size, 0, none⟩) n n) n ((fillTo zs j).map (Value.int .i64)) := by
        have := hown; unfold Own at this; rwa [hlen, HN.out] at this
      have hfr := hown'.frozenAt j
      obtain ⟨x, hx⟩ : ∃ x, wr.cell? ⟨w.heap.size, j, none⟩ = some x := by
        rw [hown'.cellAt j (by omega), List.getElem?_map, List.getElem?_eq_getElem (by rw [hlen, HN.out]; exact hlt)]
        exact ⟨_, rfl⟩
      obtain ⟨s1, s2⟩ := hown'.stored j (.int .i64 (zs.getD j 0))
      have S1 : Hid (Own (wr.setCell ⟨w.heap.size, j, none⟩ (.int .i64 (zs.getD j 0))) w.heap.size (.slice (some ⟨w.heap.size, 0, none⟩) n n) (fillTo zs (j + 1))) := by
        unfold Hid Own
        rw [fillTo_length zs (by rw [HN.out]; omega), HN.out, ← fillTo_set zs (by rw [HN.out]; exact hlt), List.map_set]
        exact s1
      have S2 := Lib.hid (hbr.setCell (p := ⟨w.heap.size, j, none⟩) (Nat.le_refl _) (.int .i64 (zs.getD j 0)))
      clear s1 s2 hown hown' hlen
      generalize hz : zs.getD j 0 = z at *
      clear hz
      subst ha
      go_wp2
      go_roundw
      case rel => exact ⟨j + 1, by omega, by go_num, S1.out, S2.out⟩
      case measure => simp [intOf]; omega
    · obtain rfl : j = n := by omega
      go_wp2
      go_ret
      refine ⟨_, rfl, ?_, hbr⟩
      have := hown
      rw [← HN.out, fillTo_all, HN.out] at this
      exact this
end Go.Proofs.Ytdagkbgobnaijab
