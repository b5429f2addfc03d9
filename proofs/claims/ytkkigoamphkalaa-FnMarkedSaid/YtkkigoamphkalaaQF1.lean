/- What the laws rest on, part 1. -/
import Derived.Test.YtkkigoamphkalaaProg
import Derived.WalkKit
import Derived.WalkSpells
import Derived.WalkLawsBesides
import Derived.Lib.Hide
import Derived.Deep.QuietTactic
import Derived.BigQuiet
import Derived.Deep.RegionHeld3
import Derived.RegionTactic
import Derived.Deep.Upon
import Derived.Maps.AppendAt
import Derived.Laws.EntriesVeiled
namespace Go.Proofs.Ytkkigoamphkalaa
open Go.RowKit

theorem r_i {a a' : Int} (h : a = a') : Ending.returned (.int .i64 a) = .returned (.int .i64 a') := by rw [h]
theorem r_b {a a' : Bool} (h : a = a') : Ending.returned (.bool a) = .returned (.bool a') := by rw [h]
/-- The slice value v reads, in the world w, as the list zs of ints. -/
def IntsAt (w : World) (v : Value) (zs : List Int) : Prop :=
  ∃ a cap, v = .slice a zs.length cap ∧ (0 < zs.length → ∃ b off, a = some ⟨b, off, none⟩ ∧ ∀ i, i < zs.length → w.cell? ⟨b, off + i, none⟩ = some (.int .i64 (zs.getD i 0)))
theorem IntsAt.below {w w' : World} {v : Value} {zs : List Int} (h : IntsAt w v zs) (hb : Below w.heap.size w w') : IntsAt w' v zs := by
  obtain ⟨a, cap, hv, hc⟩ := h
  refine ⟨a, cap, hv, fun h0 => ?_⟩
  obtain ⟨b, off, ha, hc⟩ := hc h0
  refine ⟨b, off, ha, fun i hi => ?_⟩
  have h1 := hc i hi
  rw [hb.cell (p := ⟨b, off + i, none⟩) (block_lt_of_cell h1)]
  exact h1
/-- The slice value v reads, in the world w, as the list zs of bytes. -/
def BytesAt (w : World) (v : Value) (zs : List Int) : Prop :=
  zs.length ≤ 9223372036854775807 ∧ (∀ z ∈ zs, 0 ≤ z ∧ z ≤ 255) ∧ ∃ a cap, v = .slice a zs.length cap ∧ (0 < zs.length → ∃ b off, a = some ⟨b, off, none⟩ ∧ ∀ i, i < zs.length → w.cell? ⟨b, off + i, none⟩ = some (.int .u8 (zs.getD i 0)))
theorem BytesAt.below {w w' : World} {v : Value} {zs : List Int} (h : BytesAt w v zs) (hb : Below w.heap.size w w') : BytesAt w' v zs := by
  obtain ⟨h1, h2, a, cap, hv, hc⟩ := h
  refine ⟨h1, h2, a, cap, hv, fun h0 => ?_⟩
  obtain ⟨b, off, ha, hc⟩ := hc h0
  refine ⟨b, off, ha, fun i hi => ?_⟩
  have h1 := hc i hi
  rw [hb.cell (p := ⟨b, off + i, none⟩) (block_lt_of_cell h1)]
  exact h1
/-- A row of ints that the call itself has made. -/
def Own (w : World) (B : Nat) (v : Value) (zs : List Int) : Prop := w.ownsRow B 3 1 v zs.length (zs.map (Value.int .i64))
theorem Own.ints {w : World} {B : Nat} {v : Value} {zs : List Int} (h : Own w B v zs) : IntsAt w v zs := by
  have h' := h
  obtain ⟨h1, h2⟩ := h
  rcases h2 with ⟨rfl, h2⟩ | ⟨g, cap, cur, rfl, hg, hh, _⟩
  · exact ⟨none, 0, by rw [h2], fun h => by omega⟩
  · refine ⟨_, cap, rfl, fun _ => ⟨g, 0, rfl, fun i hi => ?_⟩⟩
    rw [Nat.zero_add, World.ownsRow.cellAt h' i (by omega), List.getElem?_map, List.getElem?_eq_getElem hi]
    simp [List.getD, List.getElem?_eq_getElem hi]
theorem Own.below {w w' : World} {B : Nat} {v : Value} {zs : List Int} (h : Own w B v zs) (hb : Below w.heap.size w w') : Own w' B v zs := by
  obtain ⟨h1, h2⟩ := h
  refine ⟨h1, ?_⟩
  rcases h2 with h2 | ⟨g, cap, cur, hv, hg, hh, r⟩
  · exact .inl h2
  · have hlt : g < w.heap.size := by
      by_cases e : g < w.heap.size
      · exact e
      · have hn : w.heap[g]? = none := by simp; omega
        simp [hn] at hh
    exact .inr ⟨g, cap, cur, hv, hg, by rw [hb.block g hlt]; exact hh, r⟩
theorem Own.mono {w : World} {B B' : Nat} {v : Value} {zs : List Int} (h : Own w B v zs) (hB : B' ≤ B) : Own w B' v zs := by
  obtain ⟨h1, h2⟩ := h
  refine ⟨h1, ?_⟩
  rcases h2 with h2 | ⟨g, cap, cur, hv, hg, r⟩
  · exact .inl h2
  · exact .inr ⟨g, cap, cur, hv, by omega, r⟩
theorem below_drewN {B : Nat} {a w : World} (h : Below B a w) (n : Nat) : Below B a (w.drewN n) := h.trans ⟨rfl, rfl, rfl, Nat.le_refl _, fun _ _ => rfl⟩
theorem drewN_refl (w : World) : ∃ n, w = w.drewN n := ⟨0, rfl⟩
theorem take_eq_succ {za zb : List Int} {k : Nat} (h : za.take k = zb.take k) (ha : k < za.length) (hb : k < zb.length) (e : za.getD k 0 = zb.getD k 0) : za.take (k + 1) = zb.take (k + 1) := by
  rw [List.take_succ_eq_append_getElem ha, List.take_succ_eq_append_getElem hb, h]
  simp only [List.getD, List.getElem?_eq_getElem ha, List.getElem?_eq_getElem hb, Option.getD_some] at e
  rw [e]
theorem ne_of_getD {za zb : List Int} {k : Nat} (e : ¬ za.getD k 0 = zb.getD k 0) : ¬ za = zb := fun h => e (by rw [h])

theorem take_all_eq {za zb : List Int} {n : Nat} (ha : za.length = n) (hb : zb.length = n) (h : za.take n = zb.take n) : za = zb := by
  rwa [List.take_of_length_le (by omega), List.take_of_length_le (by omega)] at h


set_option maxHeartbeats 400000 in
theorem c_sameInts (va vb : Value) (za zb : List Int) (w : World) (hA : IntsAt w va za) (hB : IntsAt w vb zb) (hm : za.length ≤ 9223372036854775806) :
    Calls Try.prog 70 #[va, vb] w fun e w' => e = .returned (.bool (decide (za = zb))) ∧ ∃ n, w' = w.drewN n := by
  obtain ⟨a, ca, rfl, hA⟩ := hA
  obtain ⟨b, cb, rfl, hB⟩ := hB
  by_cases hl : za.length = zb.length
  · rw [← hl] at hB ⊢
    generalize hn : za.length = n at *
    have HN := Lib.hid hn; have HL := Lib.hid hl; clear hn hl
    have hbq : ((n : Int) != (n : Int)) = false := by simp
    by_cases h0 : n = 0
    · subst h0
      obtain rfl : za = [] := List.eq_nil_of_length_eq_zero HN.out
      obtain rfl : zb = [] := List.eq_nil_of_length_eq_zero HL.out.symm
      clear hA hB
      go_enter Try.func70, Try.ntmps70
      go_wp2
      refine wp_loop_rounds 1 ?_
      rw [rounds_succ]
      go_wp2
      go_ret
      exact ⟨rfl, drewN_refl _⟩
    · obtain ⟨ba, oa, rfl, hca⟩ := hA (by omega)
      obtain ⟨bb, ob, rfl, hcb⟩ := hB (by omega)
      clear hA hB
      have HCA := Lib.hid hca; have HCB := Lib.hid hcb; clear hca hcb
      go_enter Try.func70, Try.ntmps70
      go_wp2
      go_loopw [13] (fun i wr => ∃ k : Nat, k ≤ n ∧ i = .int .i64 k ∧ Hid (za.take k = zb.take k) ∧ ∃ n, wr = w.drewN n) (fun i _ => n - (intOf i).toNat)
      case atStart => exact ⟨0, Nat.zero_le _, rfl, by simp [Hid], drewN_refl _⟩
      case round =>
        obtain ⟨k, hk, rfl, ht, nd, rfl⟩ := hrel
        by_cases hlt : k < n
        · have q1 := HCA.out k hlt
          have q2 := HCB.out k hlt
          have i1 : (k : Int) < (n : Int) := by omega
          generalize hx : za.getD k 0 = x at q1
          generalize hy : zb.getD k 0 = y at q2
          have HX := Lib.hid hx; have HY := Lib.hid hy; clear hx hy
          by_cases exy : x = y
          · subst exy
            go_wp2
            go_quiet (fail)
            go_wp2
            go_roundw
            case rel => exact ⟨k + 1, by omega, by go_num, take_eq_succ ht.out (by rw [HN.out]; exact hlt) (by rw [← HL.out]; exact hlt) (HX.out.trans HY.out.symm), nd + nq, by simp⟩
            case measure => simp [intOf]; omega
          · have hne : (x != y) = true := by rw [bne_iff_ne]; exact exy
            have HNE : Hid (decide (za = zb) = false) := decide_eq_false (ne_of_getD (k := k) (by rw [HX.out, HY.out]; exact exy))
            clear exy
            go_wp2
            go_quiet (fail)
            go_wp2
            go_ret
            exact ⟨r_b HNE.out.symm, nd + nq, by simp⟩
        · have HE : Hid (decide (za = zb) = true) := decide_eq_true (take_all_eq (n := k) (by rw [HN.out]; omega) (by rw [← HL.out]; omega) ht.out)
          go_wp2
          go_ret
          exact ⟨r_b HE.out.symm, _, rfl⟩
  · generalize hna : za.length = na at *
    generalize hnb : zb.length = nb at *
    have hbq : ((na : Int) != (nb : Int)) = true := by rw [bne_iff_ne]; omega
    have HN : Hid (decide (za = zb) = false) := decide_eq_false (fun h => hl (by rw [← hna, ← hnb, h]))
    clear hl hA hB hna hnb
    go_enter Try.func70, Try.ntmps70
    go_wp2
    go_ret
    exact ⟨r_b HN.out.symm, drewN_refl _⟩

theorem grownBy_trans {a b c : World} {r : Option Nat} (h : a.grownBy b r) (k : b.grownBy c r) : a.grownBy c r :=
  ⟨k.os.trans h.os, k.tape.trans h.tape, k.output.trans h.output, Nat.le_trans h.size k.size, fun i hi hr => (k.block i (Nat.lt_of_lt_of_le hi h.size) hr).trans (h.block i hi hr)⟩


theorem info_int : (Try.prog.info? 3).map (fun i => (i.zero, i.size, i.bytes)) = some (some (.int .i64 0), 1, 8) := by kernel_rfl
end Go.Proofs.Ytkkigoamphkalaa
namespace Go.Proofs.Ytkkigoamphkalaa
open Go.RowKit

/-- The slice v reads as the bytes zs, in blocks below c. -/
def BytesLow (w : World) (c : Nat) (v : Value) (zs : List Int) : Prop :=
  zs.length ≤ 9223372036854775807 ∧ (∀ z ∈ zs, 0 ≤ z ∧ z ≤ 255) ∧ ∃ a cap, v = .slice a zs.length cap ∧ (0 < zs.length → ∃ b off, a = some ⟨b, off, none⟩ ∧ b < c ∧ ∀ i, i < zs.length → w.cell? ⟨b, off + i, none⟩ = some (.int .u8 (zs.getD i 0)))
/-- Block c holds a reader that has taken at most n bytes. -/
def CurIs (w : World) (c : Nat) (n : Nat) : Prop :=
  ∃ (v : Value) (zs : List Int) (p : Nat) (s : Int), w.heap[c]? = some (.cells #[v, .int .i64 p, .int .u64 s] 128 (0, 0)) ∧ p ≤ n ∧ BytesLow w c v zs
theorem BytesLow.kept {w w' : World} {c : Nat} {v : Value} {zs : List Int} (h : BytesLow w c v zs) (hb : ∀ k, k < c → w'.heap[k]? = w.heap[k]?) : BytesLow w' c v zs := by
  obtain ⟨h1, h2, a, cap, hv, hc⟩ := h
  refine ⟨h1, h2, a, cap, hv, fun h0 => ?_⟩
  obtain ⟨b, off, ha, hlt, hc⟩ := hc h0
  exact ⟨b, off, ha, hlt, fun i hi => (World.cell?_of_block (w := w) (hb b hlt)).trans (hc i hi)⟩
theorem CurIs.lt {w : World} {c n : Nat} (h : CurIs w c n) : c < w.heap.size := by
  obtain ⟨v, zs, p, s, hh, _⟩ := h
  by_cases e : c < w.heap.size
  · exact e
  · have hn : w.heap[c]? = none := by simp; omega
    simp [hn] at hh
theorem CurIs.kept {w w' : World} {c n : Nat} (h : CurIs w c n) (hb : ∀ k, k < c + 1 → w'.heap[k]? = w.heap[k]?) : CurIs w' c n := by
  obtain ⟨v, zs, p, s, hh, hp, hl⟩ := h
  exact ⟨v, zs, p, s, (hb c (by omega)).trans hh, hp, hl.kept (fun k hk => hb k (by omega))⟩
theorem CurIs.mono {w : World} {c n m : Nat} (h : CurIs w c n) (hnm : n ≤ m) : CurIs w c m := by
  obtain ⟨v, zs, p, s, hh, hp, hl⟩ := h
  exact ⟨v, zs, p, s, hh, by omega, hl⟩

theorem byte_of (y : Int) : 0 ≤ wrap64 (bits .and .u64 (IntKind.u64.wrap y / 1099511627776) 255) ∧ wrap64 (bits .and .u64 (IntKind.u64.wrap y / 1099511627776) 255) ≤ 255 := by
  have h1 : 0 ≤ IntKind.u64.wrap y ∧ IntKind.u64.wrap y < 18446744073709551616 := by rw [IntKind.wrap_u64]; omega
  generalize IntKind.u64.wrap y = u at h1
  have h2 : 0 ≤ u / 1099511627776 ∧ u / 1099511627776 < 18446744073709551616 := by omega
  generalize u / 1099511627776 = d at h2
  have e : bits .and .u64 d 255 = ((d.toNat % 256 : Nat) : Int) := by
    rw [u64_and d 255 h2.1 h2.2 (by omega) (by omega)]
    rw [show (255 : Int).toNat = 255 from rfl, nat_mask8]
  rw [e]
  have b : d.toNat % 256 < 256 := Nat.mod_lt _ (by omega)
  generalize d.toNat % 256 = k at b
  have : wrap64 (k : Int) = k := by unfold wrap64; omega
  rw [this]
  omega

/-- Two stores into the reader's block. -/
theorem cur_step {w : World} {c n k j : Nat} {v : Value} {zs : List Int} {p : Nat} {s : Int} (hh : w.heap[c]? = some (.cells #[v, .int .i64 p, .int .u64 s] 128 (0, 0))) (hp : p ≤ n) (hl : BytesLow w c v zs) (y : Int) :
    CurIs ((((w.drewN k).setCell ⟨c, 1, none⟩ (.int .i64 (p + 1))).setCell ⟨c, 2, none⟩ (.int .u64 y)).drewN j) c (n + 1) ∧ w.grownBy ((((w.drewN k).setCell ⟨c, 1, none⟩ (.int .i64 (p + 1))).setCell ⟨c, 2, none⟩ (.int .u64 y)).drewN j) (some c) := by
  have h1 : ((w.drewN k).setCell ⟨c, 1, none⟩ (.int .i64 (p + 1))).heap[c]? = some (.cells #[v, .int .i64 (p + 1), .int .u64 s] 128 (0, 0)) := heap_setCell_same (w.drewN k) c 1 _ _ _ hh
  have h2 : (((w.drewN k).setCell ⟨c, 1, none⟩ (.int .i64 (p + 1))).setCell ⟨c, 2, none⟩ (.int .u64 y)).heap[c]? = some (.cells #[v, .int .i64 (p + 1), .int .u64 y] 128 (0, 0)) := heap_setCell_same _ c 2 _ _ _ h1
  have ho : ∀ i, i ≠ c → (((w.drewN k).setCell ⟨c, 1, none⟩ (.int .i64 (p + 1))).setCell ⟨c, 2, none⟩ (.int .u64 y)).heap[i]? = w.heap[i]? := fun i hi =>
    (heap_setCell_other _ ⟨c, 2, none⟩ i _ hi).trans (heap_setCell_other (w.drewN k) ⟨c, 1, none⟩ i _ hi)
  refine ⟨⟨v, zs, p + 1, y, ?_, by omega, hl.kept (fun i hi => ho i (by omega))⟩, ⟨rfl, rfl, rfl, ?_, fun i _ hi => ho i (fun e => hi (by rw [e]))⟩⟩
  · rw [show (((p + 1 : Nat) : Int)) = (p : Int) + 1 by omega]; exact h2
  · show w.heap.size ≤ (((w.drewN k).setCell ⟨c, 1, none⟩ (.int .i64 (p + 1))).setCell ⟨c, 2, none⟩ (.int .u64 y)).heap.size
    simp [World.setCell]

set_option maxHeartbeats 1000000 in
theorem c_next (c n : Nat) (w : World) (hc : CurIs w c n) (hn : n ≤ 1000000000) :
    Calls Try.prog 167 #[.pointer (some ⟨c, 0, none⟩)] w fun e w' => ∃ x : Int, (0 ≤ x ∧ x ≤ 255) ∧ e = .returned (.int .i64 x) ∧ CurIs w' c (n + 1) ∧ w.grownBy w' (some c) := by
  obtain ⟨v, zs, p, s, hh, hp, HL⟩ := hc
  obtain ⟨hl, hby, a, cap, rfl, hcell⟩ := id HL
  have q0 : w.cell? ⟨c, 0, none⟩ = some (.slice a zs.length cap) := by rw [cell_of_row w c 0 _ _ _ hh]; rfl
  have q1 : w.cell? ⟨c, 1, none⟩ = some (.int .i64 p) := by rw [cell_of_row w c 1 _ _ _ hh]; rfl
  have q2 : w.cell? ⟨c, 2, none⟩ = some (.int .u64 s) := by rw [cell_of_row w c 2 _ _ _ hh]; rfl
  have f1 := frozen_of_row w c 1 _ _ hh
  have f2 := frozen_of_row w c 2 _ _ hh
  have R := fun k j => cur_step (k := k) (j := j) hh hp HL
  have HR := Lib.hid R; clear R hh HL
  by_cases hlt : p < zs.length
  · obtain ⟨b, off, rfl, hbc, hcc⟩ := hcell (by omega)
    have hx := hcc p hlt
    have hne : b ≠ c := by omega
    have hxb := hby (zs.getD p 0) (by simp [List.getD, List.getElem?_eq_getElem hlt])
    generalize zs.getD p 0 = x at *
    generalize zs.length = m at *
    have i1 : (p : Int) < (m : Int) := by omega
    clear hcell hcc hby
    go_enter Try.func167, Try.ntmps167
    go_wp2
    go_quiet (fail)
    go_wp2
    go_quiet (fail)
    go_wp2
    go_quiet (fail)
    go_wp2
    go_ret
    exact ⟨x, hxb, rfl, (HR.out _ _ _).1, (HR.out _ _ _).2⟩
  · generalize zs.length = m at *
    have i1 : ¬ (p : Int) < (m : Int) := by omega
    clear hcell hby
    go_enter Try.func167, Try.ntmps167
    go_wp2
    go_quiet (fail)
    go_wp2
    go_quiet (fail)
    go_wp2
    go_ret
    exact ⟨_, byte_of _, rfl, (HR.out _ _ _).1, (HR.out _ _ _).2⟩

set_option maxHeartbeats 400000 in
theorem c_pick (c n : Nat) (k : Int) (w : World) (hc : CurIs w c n) (hn : n ≤ 999999990) (hk : 1 ≤ k) (hk' : k ≤ 65536) :
    Calls Try.prog 122 #[.pointer (some ⟨c, 0, none⟩), .int .i64 k] w fun e w' => ∃ x : Int, (0 ≤ x ∧ x < k) ∧ e = .returned (.int .i64 x) ∧ CurIs w' c (n + 2) ∧ w.grownBy w' (some c) := by
  by_cases h1 : k ≤ 1
  · go_enter Try.func122, Try.ntmps122
    go_wp2
    go_ret
    exact ⟨0, by omega, rfl, hc.mono (by omega), World.grownBy.refl _ _⟩
  · by_cases h2 : 200 < k
    · go_enter Try.func122, Try.ntmps122
      go_wp2_with fail
      refine (c_next c n _ hc (by omega)).mono ?_
      rintro e w1 ⟨x, hx, rfl, hc1, hg1⟩
      go_wp2_with fail
      refine (c_next c (n + 1) _ hc1 (by omega)).mono ?_
      rintro e w2 ⟨y, hy, rfl, hc2, hg2⟩
      go_wp2
      go_ret
      exact ⟨_, ⟨Int.emod_nonneg _ (by omega), Int.emod_lt_of_pos _ (by omega)⟩, rfl, hc2, grownBy_trans hg1 hg2⟩
    · go_enter Try.func122, Try.ntmps122
      go_wp2_with fail
      refine (c_next c n _ hc (by omega)).mono ?_
      rintro e w1 ⟨x, hx, rfl, hc1, hg1⟩
      go_wp2
      go_ret
      exact ⟨_, ⟨Int.emod_nonneg _ (by omega), Int.emod_lt_of_pos _ (by omega)⟩, rfl, hc1.mono (by omega), hg1⟩

theorem c_one (c n : Nat) (k : Int) (w : World) (hc : CurIs w c n) (hn : n ≤ 999999990) (hk : 1 ≤ k) (hk' : k ≤ 65536) :
    Calls Try.prog 121 #[.pointer (some ⟨c, 0, none⟩), .int .i64 k] w fun e w' => ∃ x : Bool, e = .returned (.bool x) ∧ CurIs w' c (n + 2) ∧ w.grownBy w' (some c) := by
  go_enter Try.func121, Try.ntmps121
  go_wp2_with fail
  refine (c_pick c n k _ hc hn hk hk').mono ?_
  rintro e w1 ⟨x, hx, rfl, hc1, hg1⟩
  go_wp2
  go_ret
  exact ⟨_, rfl, hc1, hg1⟩

theorem c_among (c n : Nat) (v : Value) (zs : List Int) (lo hi : Int) (w : World) (hc : CurIs w c n) (hn : n ≤ 999999990) (hv : Own w (c + 1) v zs) (h0 : 0 < zs.length) (h1 : zs.length ≤ 65536) (hb : ∀ z ∈ zs, lo ≤ z ∧ z ≤ hi) :
    Calls Try.prog 166 #[.pointer (some ⟨c, 0, none⟩), v] w fun e w' => ∃ x : Int, (lo ≤ x ∧ x ≤ hi) ∧ e = .returned (.int .i64 x) ∧ CurIs w' c (n + 2) ∧ w.grownBy w' (some c) := by
  have hv' := Lib.hid hv
  obtain ⟨g, cap, hvs, hg⟩ : ∃ g cap, v = .slice (some ⟨g, 0, none⟩) zs.length cap ∧ c + 1 ≤ g := by
    rcases hv.2 with ⟨_, h2⟩ | ⟨g, cap, cur, h1, h2, _⟩
    · omega
    · exact ⟨g, cap, h1, h2⟩
  subst hvs
  clear hv
  have HB := Lib.hid hb; clear hb
  generalize hm : zs.length = m at *
  have HM := Lib.hid hm; clear hm
  go_enter Try.func166, Try.ntmps166
  go_wp2_with fail
  refine (c_pick c n (m : Int) _ hc hn (by omega) (by omega)).mono ?_
  rintro e w1 ⟨x, hx, rfl, hc1, hg1⟩
  have o1 : Own w1 (c + 1) (.slice (some ⟨g, 0, none⟩) m cap) zs := World.ownsRow.kept (by have := hv'.out; exact this) hg1 (.inr (by simp [Value.ownBlock]; omega))
  have hxm : x.toNat < zs.length := by rw [HM.out]; omega
  have q : w1.cell? ⟨g, x.toNat, none⟩ = some (.int .i64 (zs.getD x.toNat 0)) := by
    obtain ⟨a, cap', e, hh⟩ := o1.ints
    obtain ⟨b, off, e2, hcl⟩ := hh (by omega)
    have := hcl x.toNat hxm
    simp only [Value.slice.injEq] at e
    rw [e2] at e
    simp only [Option.some.injEq, Addr.mk.injEq, and_true] at e
    obtain ⟨⟨rfl, rfl⟩, _⟩ := e
    simpa using this
  have hr := HB.out (zs.getD x.toNat 0) (by simp [List.getD, List.getElem?_eq_getElem hxm])
  generalize zs.getD x.toNat 0 = z at *
  clear o1 hxm
  go_wp2
  go_ret
  exact ⟨z, hr, rfl, hc1, hg1⟩
/-- A reader that a draw has just laid: nothing is taken yet. -/
theorem cur_new {w : World} {v : Value} {zs : List Int} (h : BytesAt w v zs) : CurIs (w.alloc (.cells #[v, .int .i64 0, .int .u64 0] 128)) w.heap.size 0 := by
  obtain ⟨h1, h2, a, cap, hv, hc⟩ := h
  refine ⟨v, zs, 0, 0, heap_alloc_new _ _, by omega, h1, h2, a, cap, hv, fun h0 => ?_⟩
  obtain ⟨b, off, ha, hc⟩ := hc h0
  refine ⟨b, off, ha, block_lt_of_cell (hc 0 h0), fun i hi => ?_⟩
  have hlt : b < w.heap.size := block_lt_of_cell (hc i hi)
  rw [World.cell?_of_block (w := w) (a := ⟨b, off + i, none⟩) (Below.heap_alloc w _ b hlt)]
  exact hc i hi
theorem below_of_cur {w w' : World} {o : Obj} (hg : (w.alloc o).grownBy w' (some w.heap.size)) : Below w.heap.size w w' :=
  ((Below.refl w.heap.size w).alloc (Nat.le_refl _) o).grown hg (by simp) (fun k hk => by simp at hk; omega)
end Go.Proofs.Ytkkigoamphkalaa
namespace Go.Proofs.Ytkkigoamphkalaa
open Go.RowKit

/-- The block g, of type T, holds the cells cs. -/
def Row (w : World) (g : Nat) (T : TypeId) (cs : Array Value) : Prop := w.heap[g]? = some (.cells cs T (0, 0))
theorem Row.cell {w : World} {g : Nat} {T : TypeId} {cs : Array Value} (h : Row w g T cs) (k : Nat) : w.cell? ⟨g, k, none⟩ = cs[k]? := cell_of_row w g k _ _ _ h
theorem Row.frozen {w : World} {g : Nat} {T : TypeId} {cs : Array Value} (h : Row w g T cs) (k : Nat) : w.frozen? ⟨g, k, none⟩ = false := frozen_of_row w g k _ _ h
theorem Row.lt {w : World} {g : Nat} {T : TypeId} {cs : Array Value} (h : Row w g T cs) : g < w.heap.size := by
  by_cases e : g < w.heap.size
  · exact e
  · have hn : w.heap[g]? = none := by simp; omega
    rw [Row, hn] at h; cases h
theorem Row.below {w w' : World} {g : Nat} {T : TypeId} {cs : Array Value} (h : Row w g T cs) (hb : Below w.heap.size w w') : Row w' g T cs := by
  unfold Row; rw [hb.block g h.lt]; exact h
theorem Row.below' {w w' : World} {B g : Nat} {T : TypeId} {cs : Array Value} (h : Row w g T cs) (hb : Below B w w') (hg : g < B) : Row w' g T cs := by
  unfold Row; rw [hb.block g hg]; exact h
theorem Row.alloc {w : World} {g : Nat} {T : TypeId} {cs : Array Value} (h : Row w g T cs) (o : Obj) : Row (w.alloc o) g T cs := by
  unfold Row; rw [Below.heap_alloc w o g h.lt]; exact h
theorem Row.new (w : World) (T : TypeId) (cs : Array Value) : Row (w.alloc (.cells cs T)) w.heap.size T cs := heap_alloc_new _ _
theorem Row.new1 (w : World) (o : Obj) (T : TypeId) (cs : Array Value) : Row ((w.alloc o).alloc (.cells cs T)) (w.heap.size + 1) T cs := by
  have := Row.new (w.alloc o) T cs; simpa using this
theorem Row.new2 (w : World) (o o' : Obj) (T : TypeId) (cs : Array Value) : Row (((w.alloc o).alloc o').alloc (.cells cs T)) (w.heap.size + 1 + 1) T cs := by
  have := Row.new ((w.alloc o).alloc o') T cs; simpa using this
theorem Row.other {w : World} {g : Nat} {T : TypeId} {cs : Array Value} (h : Row w g T cs) (a : Addr) (ha : g ≠ a.block) (x : Value) : Row (w.setCell a x) g T cs := by
  unfold Row; rw [heap_setCell_other w a g _ ha]; exact h
theorem Row.set {w : World} {g : Nat} {T : TypeId} {cs : Array Value} (h : Row w g T cs) (k : Nat) (x : Value) : Row (w.setCell ⟨g, k, none⟩ x) g T (cs.setIfInBounds k x) := heap_setCell_same w g k _ _ _ h
theorem Row.put {w : World} {g : Nat} {T : TypeId} {cs : Array Value} (h : Row w g T cs) (ds : Array Value) : Row (w.setRow g ds) g T ds := setRow_heap w g cs ds T (0, 0) h
theorem Row.putOther {w : World} {g g' : Nat} {T : TypeId} {cs : Array Value} (h : Row w g T cs) (ds : Array Value) (hn : g ≠ g') : Row (w.setRow g' ds) g T cs := by
  unfold Row; rw [setRow_other w g' g ds hn]; exact h
theorem below_setRow {B g : Nat} {w0 w : World} (hb : Below B w0 w) (hBg : B ≤ g) (cs : Array Value) : Below B w0 (w.setRow g cs) :=
  ⟨hb.os, hb.tape, hb.output, by rw [size_setRow]; exact hb.size, fun i hi => (setRow_other w g i cs (by omega)).trans (hb.block i hi)⟩
theorem below_drew {B : Nat} {w0 w : World} (hb : Below B w0 w) : Below B w0 w.drew := hb.trans ⟨rfl, rfl, rfl, Nat.le_refl _, fun _ _ => rfl⟩
theorem res_row {P : Program} {fn : Func} {p : Tmp} {ty : TypeId} (h : fn.results = #[.cell p ty]) {tmps : Array Value} {w : World} {g : Nat} {t : TypeId} {cs : Array Value} {d : TypeDesc} (hg : Row w g t cs)
    (hp : tmps.getD p undef = .pointer (some ⟨g, 0, none⟩)) (hu : P.underlying ty = some d) (hd : (match d with | .struct _ | .array _ _ => true | _ => false) = true) (hi : (P.info? ty).map (·.size) = some cs.size) :
    (results fn tmps).run P w = .ok (.agg cs) w := results_cell_row h tmps w g t cs (0, 0) d hp hg hu hd hi
theorem res_row_slot {P : Program} {fn : Func} {p q : Tmp} {ty : TypeId} (h : fn.results = #[.cell p ty, .tmp q]) {tmps : Array Value} {w : World} {g : Nat} {t : TypeId} {cs : Array Value} {d : TypeDesc} {v : Value} (hg : Row w g t cs)
    (hp : tmps.getD p undef = .pointer (some ⟨g, 0, none⟩)) (hq : tmps.getD q undef = v) (hu : P.underlying ty = some d) (hd : (match d with | .struct _ | .array _ _ => true | _ => false) = true) (hi : (P.info? ty).map (·.size) = some cs.size) :
    (results fn tmps).run P w = .ok (.tuple #[.agg cs, v]) w := by
  have hp' : tmps[p]?.getD undef = .pointer (some ⟨g, 0, none⟩) := by simpa using hp
  have hq' : tmps[q]?.getD undef = v := by simpa using hq
  simp [results, h, hp', hq', asAddr, run_loadVar_row w g t ty cs (0, 0) d hg hu hd hi]
theorem Row.grown {w w1 : World} {g : Nat} {T : TypeId} {cs : Array Value} (h : Row w g T cs) (hg : w.grownBy w1 none) : Row w1 g T cs := (hg.block g h.lt (by simp)).trans h
theorem Row.grownBy {w w1 : World} {g : Nat} {T : TypeId} {cs : Array Value} {c : Option Nat} (h : Row w g T cs) (hg : w.grownBy w1 c) (hn : c ≠ some g) : Row w1 g T cs := (hg.block g h.lt (fun e => hn e.symm)).trans h
theorem bst {B : Nat} {w w1 w2 : World} (h : Below B w w1) (k : Below w1.heap.size w1 w2) (hB : B ≤ w1.heap.size) : Below B w w2 := h.trans (k.mono hB)
end Go.Proofs.Ytkkigoamphkalaa
namespace Go.Proofs.Ytkkigoamphkalaa.Ph

structure H where
  f : List (List Int)
  l : List Bool
  r : List Int

def liveB (l : List Bool) (z : Int) : Bool := decide (0 ≤ z) && l.getD z.toNat false
def refB (l : List Bool) (z : Int) : Bool := decide (z = -1) || liveB l z
def refsB (l : List Bool) (zs : List Int) : Bool := zs.all (refB l)
def rowB (l : List Bool) (on : Bool) (zs : List Int) : Bool := decide (zs.length ≤ 3) && (on || zs.isEmpty) && refsB l zs
def rowsB (l : List Bool) (fs : List (List Int)) (n : Nat) : Bool := (List.range n).all fun i => rowB l (l.getD i false) (fs.getD i [])
def good (h : H) : Bool := decide (h.f.length ≤ 12) && decide (h.l.length = h.f.length) && rowsB h.l h.f h.f.length && decide (h.r.length ≤ 4) && refsB h.l h.r

theorem getD_lt {l : List Bool} {k : Nat} (h : l.getD k false = true) : k < l.length := by
  by_cases e : k < l.length
  · exact e
  · simp [List.getD, List.getElem?_eq_none (Nat.le_of_not_lt e)] at h
theorem liveB_iff {l : List Bool} {z : Int} : liveB l z = true ↔ 0 ≤ z ∧ l.getD z.toNat false = true := by simp [liveB]
theorem liveB_lt {l : List Bool} {z : Int} (h : liveB l z = true) : 0 ≤ z ∧ z < l.length := by
  obtain ⟨h1, h2⟩ := liveB_iff.1 h
  have := getD_lt h2
  omega
theorem refB_iff {l : List Bool} {z : Int} : refB l z = true ↔ z = -1 ∨ liveB l z = true := by simp [refB]
theorem refsB_iff {l : List Bool} {zs : List Int} : refsB l zs = true ↔ ∀ z ∈ zs, refB l z = true := by simp [refsB]
theorem refsB_take_succ {l : List Bool} {zs : List Int} {k : Nat} (h : k < zs.length) : refsB l (zs.take (k + 1)) = (refsB l (zs.take k) && refB l (zs.getD k 0)) := by
  have e : zs.getD k 0 = zs[k] := by simp [List.getD, List.getElem?_eq_getElem h]
  unfold refsB
  rw [List.take_succ_eq_append_getElem h, List.all_append, e]; simp
theorem refsB_false {l : List Bool} {zs : List Int} {k : Nat} (h : k < zs.length) (hn : refB l (zs.getD k 0) = false) : refsB l zs = false := by
  cases hq : refsB l zs with
  | false => rfl
  | true =>
    have e : zs.getD k 0 = zs[k] := by simp [List.getD, List.getElem?_eq_getElem h]
    have := refsB_iff.1 hq zs[k] (List.getElem_mem h)
    rw [e] at hn; rw [hn] at this; cases this
theorem rowsB_succ {l : List Bool} {fs : List (List Int)} {n : Nat} : rowsB l fs (n + 1) = (rowsB l fs n && rowB l (l.getD n false) (fs.getD n [])) := by
  simp [rowsB, List.range_succ]
theorem rowsB_iff {l : List Bool} {fs : List (List Int)} {n : Nat} : rowsB l fs n = true ↔ ∀ i, i < n → rowB l (l.getD i false) (fs.getD i []) = true := by simp [rowsB]
theorem rowsB_false {l : List Bool} {fs : List (List Int)} {n k : Nat} (h : k < n) (hn : rowB l (l.getD k false) (fs.getD k []) = false) : rowsB l fs n = false := by
  cases hq : rowsB l fs n with
  | false => rfl
  | true => have := rowsB_iff.1 hq k h; rw [hn] at this; cases this
theorem rowB_iff {l : List Bool} {on : Bool} {zs : List Int} : rowB l on zs = true ↔ zs.length ≤ 3 ∧ (on = true ∨ zs = []) ∧ refsB l zs = true := by simp [rowB, and_assoc]
structure Good (h : H) : Prop where
  n : h.f.length ≤ 12
  ll : h.l.length = h.f.length
  row : ∀ i, i < h.f.length → (h.f.getD i []).length ≤ 3 ∧ (h.l.getD i false = true ∨ h.f.getD i [] = []) ∧ refsB h.l (h.f.getD i []) = true
  rn : h.r.length ≤ 4
  rr : refsB h.l h.r = true
theorem good_iff {h : H} : good h = true ↔ Good h := by
  unfold good
  simp only [Bool.and_eq_true, decide_eq_true_eq, rowsB_iff, rowB_iff]
  constructor
  · rintro ⟨⟨⟨⟨a, b⟩, c⟩, d⟩, e⟩; exact ⟨a, b, c, d, e⟩
  · rintro ⟨a, b, c, d, e⟩; exact ⟨⟨⟨⟨a, b⟩, c⟩, d⟩, e⟩
/-- A field of a valid heap is no object or one that there is. -/
theorem Good.field {h : H} (g : Good h) {i : Nat} {z : Int} (hz : z ∈ h.f.getD i []) : z = -1 ∨ (0 ≤ z ∧ z < h.f.length ∧ h.l.getD z.toNat false = true) := by
  by_cases hi : i < h.f.length
  · have := refsB_iff.1 (g.row i hi).2.2 z hz
    rcases refB_iff.1 this with h1 | h1
    · exact .inl h1
    · have h2 := liveB_lt h1
      rw [g.ll] at h2
      exact .inr ⟨h2.1, h2.2, (liveB_iff.1 h1).2⟩
  · rw [List.getD, List.getElem?_eq_none (by omega)] at hz
    simp at hz
theorem refs_bound {h : H} (g : Good h) {zs : List Int} (hr : refsB h.l zs = true) : ∀ z ∈ zs, z = -1 ∨ (0 ≤ z ∧ z < h.f.length ∧ h.l.getD z.toNat false = true) := by
  intro z hz
  rcases refB_iff.1 (refsB_iff.1 hr z hz) with h1 | h1
  · exact .inl h1
  · have h2 := liveB_lt h1
    rw [g.ll] at h2
    exact .inr ⟨h2.1, h2.2, (liveB_iff.1 h1).2⟩

/-- The object k is reached from the references zs over the fields fs. -/
inductive Reach (fs : List (List Int)) (zs : List Int) : Nat → Prop
  | root {k : Nat} : (k : Int) ∈ zs → Reach fs zs k
  | step {y k : Nat} : Reach fs zs y → (k : Int) ∈ fs.getD y [] → Reach fs zs k
/-- What is reached, object for object. -/
noncomputable def reachL (fs : List (List Int)) (zs : List Int) : List Bool := (List.range fs.length).map fun k => @decide (Reach fs zs k) (Classical.propDecidable _)
theorem reachL_length (fs : List (List Int)) (zs : List Int) : (reachL fs zs).length = fs.length := by simp [reachL]
theorem reachL_getD {fs : List (List Int)} {zs : List Int} {k : Nat} : (reachL fs zs).getD k false = true ↔ k < fs.length ∧ Reach fs zs k := by
  unfold reachL
  by_cases hk : k < fs.length
  · simp [List.getD, hk]
  · simp [List.getD, hk]
theorem eq_reachL {fs : List (List Int)} {zs : List Int} {S : List Bool} (hl : S.length = fs.length) (h : ∀ k, S.getD k false = true ↔ k < fs.length ∧ Reach fs zs k) : S = reachL fs zs := by
  apply List.ext_getElem?
  intro k
  by_cases hk : k < fs.length
  · have h1 := h k
    have h2 := reachL_getD (fs := fs) (zs := zs) (k := k)
    have e1 : S[k]? = some (S.getD k false) := by simp [List.getD, List.getElem?_eq_getElem (show k < S.length by omega)]
    have e2 : (reachL fs zs)[k]? = some ((reachL fs zs).getD k false) := by simp [List.getD, List.getElem?_eq_getElem (show k < (reachL fs zs).length by rw [reachL_length]; exact hk)]
    rw [e1, e2]
    congr 1
    rw [Bool.eq_iff_iff, h1, h2]
  · rw [List.getElem?_eq_none (by omega), List.getElem?_eq_none (by rw [reachL_length]; omega)]

/-- The object k is reached from the references zs over the fields of objects that are not in S. -/
inductive ReachS (fs : List (List Int)) (S : List Bool) (zs : List Int) : Nat → Prop
  | root {k : Nat} : (k : Int) ∈ zs → ReachS fs S zs k
  | step {y k : Nat} : ReachS fs S zs y → S.getD y false = false → (k : Int) ∈ fs.getD y [] → ReachS fs S zs k
theorem ReachS.mono {fs : List (List Int)} {S T : List Bool} {zs zs' : List Int} {k : Nat} (h : ReachS fs T zs k) (hT : ∀ k, S.getD k false = true → T.getD k false = true) (hs : ∀ k : Nat, (k : Int) ∈ zs → ReachS fs S zs' k) : ReachS fs S zs' k := by
  induction h with
  | root hz => exact hs _ hz
  | @step y k _ hy hk ih =>
    refine .step ih ?_ hk
    cases e : S.getD y false
    · rfl
    · rw [hT y e] at hy; cases hy
theorem ReachS.reach {fs : List (List Int)} {S : List Bool} {zs : List Int} {k : Nat} (h : ReachS fs S zs k) : Reach fs zs k := by
  induction h with
  | root hz => exact .root hz
  | step _ _ hk ih => exact .step ih hk
/-- What one visit of the references zs makes of the marks S. -/
structure Vis (fs : List (List Int)) (zs : List Int) (S S' : List Bool) : Prop where
  len : S'.length = S.length
  sub : ∀ k, S.getD k false = true → S'.getD k false = true
  has : ∀ k : Nat, (k : Int) ∈ zs → S'.getD k false = true
  cl : ∀ k, S'.getD k false = true → S.getD k false = true ∨ ∀ j : Nat, (j : Int) ∈ fs.getD k [] → S'.getD j false = true
  src : ∀ k, S'.getD k false = true → S.getD k false = true ∨ ReachS fs S zs k
theorem Vis.start (fs : List (List Int)) (zs : List Int) (S : List Bool) : Vis fs (zs.take 0) S S := ⟨rfl, fun _ h => h, fun _ h => by simp at h, fun _ h => .inl h, fun _ h => .inl h⟩
theorem mem_take_succ {zs : List Int} {i : Nat} (hi : i < zs.length) (z : Int) : z ∈ zs.take (i + 1) ↔ z ∈ zs.take i ∨ z = zs.getD i 0 := by
  have e : zs.getD i 0 = zs[i] := by simp [List.getD, List.getElem?_eq_getElem hi]
  rw [List.take_succ_eq_append_getElem hi, e, List.mem_append, List.mem_singleton]
theorem ReachS.take {fs : List (List Int)} {S : List Bool} {zs : List Int} {i k : Nat} (hi : i < zs.length) (h : ReachS fs S (zs.take i) k) : ReachS fs S (zs.take (i + 1)) k := h.mono (fun _ q => q) fun _ hz => .root ((mem_take_succ hi _).2 (.inl hz))
theorem Vis.skip {fs : List (List Int)} {zs : List Int} {S S' : List Bool} {i : Nat} (h : Vis fs (zs.take i) S S') (hi : i < zs.length) (hz : zs.getD i 0 = -1 ∨ S'.getD (zs.getD i 0).toNat false = true) : Vis fs (zs.take (i + 1)) S S' := by
  refine ⟨h.len, h.sub, fun k hk => ?_, h.cl, fun k hk => (h.src k hk).imp id (ReachS.take hi)⟩
  rcases (mem_take_succ hi _).1 hk with h1 | h1
  · exact h.has k h1
  · rcases hz with h2 | h2
    · omega
    · rw [← h1] at h2; simpa using h2
theorem getD_set {S : List Bool} {z k : Nat} {b : Bool} (hz : z < S.length) : (S.set z b).getD k false = if k = z then b else S.getD k false := by
  by_cases e : k = z
  · subst e; simp [List.getD, hz]
  · have : ¬ z = k := fun h => e h.symm
    simp [List.getD, e, this]
theorem Vis.down {fs : List (List Int)} {zs : List Int} {S S' S2 : List Bool} {i z : Nat} (h : Vis fs (zs.take i) S S') (hi : i < zs.length) (hz : zs.getD i 0 = (z : Int)) (hn : z < S'.length) (hx : S'.getD z false = false) (hv : Vis fs (fs.getD z []) (S'.set z true) S2) : Vis fs (zs.take (i + 1)) S S2 := by
  have key : ∀ k, (S'.set z true).getD k false = true ↔ k = z ∨ S'.getD k false = true := fun k => by
    rw [getD_set hn]; by_cases e : k = z <;> simp [e]
  have hzm : ReachS fs S (zs.take (i + 1)) z := .root ((mem_take_succ hi _).2 (.inr hz.symm))
  have hz0 : S.getD z false = false := by
    cases e : S.getD z false
    · rfl
    · rw [h.sub z e] at hx; cases hx
  refine ⟨by rw [hv.len, List.length_set, h.len], fun k hk => hv.sub k ((key k).2 (.inr (h.sub k hk))), fun k hk => ?_, fun k hk => ?_, fun k hk => ?_⟩
  · rcases (mem_take_succ hi _).1 hk with h1 | h1
    · exact hv.sub k ((key k).2 (.inr (h.has k h1)))
    · exact hv.sub k ((key k).2 (.inl (by omega)))
  · rcases hv.cl k hk with h1 | h1
    · rcases (key k).1 h1 with rfl | h2
      · exact .inr hv.has
      · rcases h.cl k h2 with h3 | h3
        · exact .inl h3
        · exact .inr fun j hj => hv.sub j ((key j).2 (.inr (h3 j hj)))
    · exact .inr h1
  · rcases hv.src k hk with h1 | h1
    · rcases (key k).1 h1 with rfl | h2
      · exact .inr hzm
      · exact (h.src k h2).imp id (ReachS.take hi)
    · exact .inr (h1.mono (fun j hj => (key j).2 (.inr (h.sub j hj))) fun j hj => .step hzm hz0 hj)
theorem Vis.done {fs : List (List Int)} {zs : List Int} {S : List Bool} (h : Vis fs zs (List.replicate fs.length false) S) : S = reachL fs zs := by
  have hf : ∀ k, ¬ (List.replicate fs.length false).getD k false = true := fun k hk => by
    by_cases e : k < fs.length
    · simp [List.getD, e] at hk
    · simp [List.getD, e] at hk
  have hl : S.length = fs.length := by rw [h.len]; simp
  have up : ∀ k, Reach fs zs k → S.getD k false = true := fun k hr => by
    induction hr with
    | root hz => exact h.has _ hz
    | step hy hk ih => exact ((h.cl _ ih).resolve_left (hf _)) _ hk
  exact eq_reachL hl fun k => ⟨fun hk => ⟨by have := getD_lt hk; omega, ((h.src k hk).resolve_left (hf k)).reach⟩, fun ⟨_, hr⟩ => up k hr⟩
/-- How many are not marked yet. -/
def left (S : List Bool) : Nat := S.count false
theorem left_set {S : List Bool} {z : Nat} (hz : z < S.length) (h : S.getD z false = false) : left (S.set z true) + 1 = left S := by
  unfold left
  induction S generalizing z with
  | nil => simp at hz
  | cons b S ih =>
    cases z with
    | zero =>
      have hb : b = false := by simpa using h
      subst hb
      simp
    | succ z =>
      have h1 := ih (z := z) (by simpa using hz) (by simpa using h)
      cases b <;> simp <;> omega
/-- A queue's round. -/
structure Bfs (fs : List (List Int)) (zs q : List Int) (S : List Bool) : Prop where
  len : S.length = fs.length
  has : ∀ k : Nat, (k : Int) ∈ zs → S.getD k false = true ∨ (k : Int) ∈ q
  cl : ∀ k, S.getD k false = true → ∀ j : Nat, (j : Int) ∈ fs.getD k [] → S.getD j false = true ∨ (j : Int) ∈ q
  src : ∀ k, S.getD k false = true → Reach fs zs k
  srq : ∀ k : Nat, (k : Int) ∈ q → Reach fs zs k
theorem Bfs.start (fs : List (List Int)) (zs : List Int) : Bfs fs zs zs (List.replicate fs.length false) := by
  have hf : ∀ k, ¬ (List.replicate fs.length false).getD k false = true := fun k hk => by
    by_cases e : k < fs.length
    · simp [List.getD, e] at hk
    · simp [List.getD, e] at hk
  exact ⟨by simp, fun k h => .inr h, fun k h => absurd h (hf k), fun k h => absurd h (hf k), fun k h => .root h⟩
theorem Bfs.skip {fs : List (List Int)} {zs q : List Int} {S : List Bool} {z : Int} (h : Bfs fs zs (z :: q) S) (hz : z < 0 ∨ S.getD z.toNat false = true) : Bfs fs zs q S := by
  have key : ∀ k : Nat, (S.getD k false = true ∨ (k : Int) ∈ z :: q) → (S.getD k false = true ∨ (k : Int) ∈ q) := fun k hk => by
    rcases hk with hk | hk
    · exact .inl hk
    · rcases List.mem_cons.1 hk with e | e
      · rcases hz with h1 | h1
        · omega
        · rw [← e] at h1; exact .inl (by simpa using h1)
      · exact .inr e
  exact ⟨h.len, fun k hk => key k (h.has k hk), fun k hk j hj => key j (h.cl k hk j hj), h.src, fun k hk => h.srq k (List.mem_cons_of_mem _ hk)⟩
theorem Bfs.take {fs : List (List Int)} {zs q : List Int} {S : List Bool} {z : Nat} (h : Bfs fs zs ((z : Int) :: q) S) (hz : z < fs.length) : Bfs fs zs (q ++ fs.getD z []) (S.set z true) := by
  have hzs : z < S.length := by rw [h.len]; exact hz
  have key : ∀ k, (S.set z true).getD k false = true ↔ k = z ∨ S.getD k false = true := fun k => by
    rw [getD_set hzs]; by_cases e : k = z <;> simp [e]
  have hrz : Reach fs zs z := h.srq z (by simp)
  have mv : ∀ k : Nat, (S.getD k false = true ∨ (k : Int) ∈ (z : Int) :: q) → ((S.set z true).getD k false = true ∨ (k : Int) ∈ q ++ fs.getD z []) := fun k hk => by
    rcases hk with hk | hk
    · exact .inl ((key k).2 (.inr hk))
    · rcases List.mem_cons.1 hk with e | e
      · exact .inl ((key k).2 (.inl (by omega)))
      · exact .inr (List.mem_append.2 (.inl e))
  refine ⟨by rw [List.length_set, h.len], fun k hk => mv k (h.has k hk), fun k hk j hj => ?_, fun k hk => ?_, fun k hk => ?_⟩
  · rcases (key k).1 hk with rfl | h1
    · exact .inr (List.mem_append.2 (.inr hj))
    · exact mv j (h.cl k h1 j hj)
  · rcases (key k).1 hk with rfl | h1
    · exact hrz
    · exact h.src k h1
  · rcases List.mem_append.1 hk with h1 | h1
    · exact h.srq k (List.mem_cons_of_mem _ h1)
    · exact .step hrz h1
theorem Bfs.done {fs : List (List Int)} {zs : List Int} {S : List Bool} (h : Bfs fs zs [] S) : S = reachL fs zs := by
  have up : ∀ k, Reach fs zs k → S.getD k false = true := fun k hr => by
    induction hr with
    | root hz => rcases h.has _ hz with h1 | h1; exact h1; simp at h1
    | step hy hk ih => rcases h.cl _ ih _ hk with h1 | h1; exact h1; simp at h1
  exact eq_reachL h.len fun k => ⟨fun hk => ⟨by have := getD_lt hk; have := h.len; omega, h.src k hk⟩, fun ⟨_, hr⟩ => up k hr⟩
end Go.Proofs.Ytkkigoamphkalaa.Ph
namespace Go.Proofs.Ytkkigoamphkalaa
open Go.RowKit Ph

/-- The slice value v reads, in the world w, as the list bs of bools. -/
def BoolsAt (w : World) (v : Value) (bs : List Bool) : Prop :=
  ∃ a cap, v = .slice a bs.length cap ∧ (0 < bs.length → ∃ b off, a = some ⟨b, off, none⟩ ∧ ∀ i, i < bs.length → w.cell? ⟨b, off + i, none⟩ = some (.bool (bs.getD i false)))
/-- The slice value v reads, in the world w, as the list fs of lists of ints. -/
def RowsAt (w : World) (v : Value) (fs : List (List Int)) : Prop :=
  ∃ a cap, v = .slice a fs.length cap ∧ (0 < fs.length → ∃ b off, a = some ⟨b, off, none⟩ ∧ ∀ i, i < fs.length → ∃ u, w.cell? ⟨b, off + i, none⟩ = some u ∧ IntsAt w u (fs.getD i []))
theorem BoolsAt.below {w w' : World} {v : Value} {bs : List Bool} (h : BoolsAt w v bs) (hb : Below w.heap.size w w') : BoolsAt w' v bs := by
  obtain ⟨a, cap, hv, hc⟩ := h
  refine ⟨a, cap, hv, fun h0 => ?_⟩
  obtain ⟨b, off, ha, hc⟩ := hc h0
  refine ⟨b, off, ha, fun i hi => ?_⟩
  have h1 := hc i hi
  rw [hb.cell (p := ⟨b, off + i, none⟩) (block_lt_of_cell h1)]
  exact h1
theorem RowsAt.below {w w' : World} {v : Value} {fs : List (List Int)} (h : RowsAt w v fs) (hb : Below w.heap.size w w') : RowsAt w' v fs := by
  obtain ⟨a, cap, hv, hc⟩ := h
  refine ⟨a, cap, hv, fun h0 => ?_⟩
  obtain ⟨b, off, ha, hc⟩ := hc h0
  refine ⟨b, off, ha, fun i hi => ?_⟩
  obtain ⟨u, h1, h2⟩ := hc i hi
  rw [hb.cell (p := ⟨b, off + i, none⟩) (block_lt_of_cell h1)]
  exact ⟨u, h1, h2.below hb⟩
theorem IntsAt.shape {w : World} {v : Value} {zs : List Int} (h : IntsAt w v zs) : ∃ a c, v = .slice a zs.length c := by obtain ⟨a, c, h, _⟩ := h; exact ⟨a, c, h⟩
theorem BoolsAt.shape {w : World} {v : Value} {zs : List Bool} (h : BoolsAt w v zs) : ∃ a c, v = .slice a zs.length c := by obtain ⟨a, c, h, _⟩ := h; exact ⟨a, c, h⟩
theorem RowsAt.shape {w : World} {v : Value} {zs : List (List Int)} (h : RowsAt w v zs) : ∃ a c, v = .slice a zs.length c := by obtain ⟨a, c, h, _⟩ := h; exact ⟨a, c, h⟩
theorem IntsAt.at' {w : World} {a : Option Addr} {n c : Nat} {zs : List Int} (h : IntsAt w (.slice a n c) zs) (h0 : 0 < n) : ∃ b off, a = some ⟨b, off, none⟩ ∧ ∀ i, i < n → w.cell? ⟨b, off + i, none⟩ = some (.int .i64 (zs.getD i 0)) := by
  obtain ⟨a', c', hv, hc⟩ := h
  cases hv
  exact hc h0
theorem BoolsAt.at' {w : World} {a : Option Addr} {n c : Nat} {zs : List Bool} (h : BoolsAt w (.slice a n c) zs) (h0 : 0 < n) : ∃ b off, a = some ⟨b, off, none⟩ ∧ ∀ i, i < n → w.cell? ⟨b, off + i, none⟩ = some (.bool (zs.getD i false)) := by
  obtain ⟨a', c', hv, hc⟩ := h
  cases hv
  exact hc h0
theorem RowsAt.at' {w : World} {a : Option Addr} {n c : Nat} {zs : List (List Int)} (h : RowsAt w (.slice a n c) zs) (h0 : 0 < n) : ∃ b off, a = some ⟨b, off, none⟩ ∧ ∀ i, i < n → ∃ u, w.cell? ⟨b, off + i, none⟩ = some u ∧ IntsAt w u (zs.getD i []) := by
  obtain ⟨a', c', hv, hc⟩ := h
  cases hv
  exact hc h0
/-- A heap by value. -/
abbrev hv (a b c : Value) : Value := .agg #[a, b, c]
abbrev c3 (a b c : Value) : Array Value := #[a, b, c]
structure HeapAt (w : World) (a b c : Value) (h : H) : Prop where
  f : RowsAt w a h.f
  l : BoolsAt w b h.l
  r : IntsAt w c h.r
theorem HeapAt.below {w w' : World} {a b c : Value} {h : H} (k : HeapAt w a b c h) (hb : Below w.heap.size w w') : HeapAt w' a b c h := ⟨k.f.below hb, k.l.below hb, k.r.below hb⟩
theorem cellBelow {w w' : World} {p : Addr} {x : Value} {B : Nat} (hb : Below B w w') (hB : w.heap.size ≤ B) (h : w.cell? p = some x) : w'.cell? p = some x := (hb.cell (Nat.lt_of_lt_of_le (block_lt_of_cell h) hB)).trans h
theorem below1 (w : World) (o : Obj) : Below w.heap.size w (w.alloc o) := (Below.refl w.heap.size w).alloc (Nat.le_refl _) o
def RowH (w : World) (g : Nat) (a b c : Value) : Prop := Row w g 30 (c3 a b c)
theorem info_heap : (Try.prog.info? 30).map (·.size) = some 3 := by kernel_rfl
theorem RowH.c0 {w : World} {g : Nat} {a b c : Value} (h : RowH w g a b c) : w.cell? ⟨g, 0, none⟩ = some a := Row.cell h 0
theorem RowH.c1 {w : World} {g : Nat} {a b c : Value} (h : RowH w g a b c) : w.cell? ⟨g, 1, none⟩ = some b := Row.cell h 1
theorem RowH.c2 {w : World} {g : Nat} {a b c : Value} (h : RowH w g a b c) : w.cell? ⟨g, 2, none⟩ = some c := Row.cell h 2
theorem RowH.below {w w' : World} {g : Nat} {a b c : Value} (h : RowH w g a b c) (hb : Below w.heap.size w w') : RowH w' g a b c := Row.below h hb
theorem wl_loadH {ops : Array Oper} {rest : List Oper} {o : Oper} {q : Act} {w : World} {Q : Exit → Act → World → Prop} (hgd : o.guard = none) (x : Operand) (ho : o.op = .load 30 x) (g : Nat) (a b c : Value) (hg : RowH w g a b c)
    (hx : q.eval x = .pointer (some ⟨g, 0, none⟩)) (h : wpList Try.prog ops Q rest (q.put o.dst (hv a b c)) w) : wpList Try.prog ops Q (o :: rest) q w :=
  wpList_load_row hgd 30 x ho g hx 30 (c3 a b c) (0, 0) _ hg Try.underlying30 rfl info_heap h
/-- What a call owns: n rows of cells, each in a block of its own, all blocks between lo and hi. -/
structure Fam (w : World) (lo hi n : Nat) (T : Nat → TypeId) (v : Nat → Value) (cs : Nat → List Value) : Prop where
  own : ∀ k, k < n → w.ownsRow lo (T k) 1 (v k) (cs k).length (cs k)
  lt : ∀ k, k < n → ∀ g, (v k).ownBlock = some g → g < hi
  ap : ∀ j k, j < n → k < n → j ≠ k → (v j).ownBlock = none ∨ (v j).ownBlock ≠ (v k).ownBlock
theorem owns_lt {w : World} {B : Nat} {T : TypeId} {v : Value} {n : Nat} {xs : List Value} (h : w.ownsRow B T 1 v n xs) {g : Nat} (hg : v.ownBlock = some g) : B ≤ g ∧ g < w.heap.size := by
  rcases h.2 with ⟨rfl, _⟩ | ⟨g', cap, cur, rfl, h1, h2, _⟩
  · cases hg
  · cases hg
    refine ⟨h1, ?_⟩
    by_cases e : g' < w.heap.size
    · exact e
    · have hn : w.heap[g']? = none := by simp; omega
      rw [hn] at h2; cases h2
/-- Blocks beyond lo .. hi are as they were. -/
structure Chg (lo hi : Nat) (w w' : World) : Prop where
  os : w'.os = w.os
  tape : w'.tape = w.tape
  output : w'.output = w.output
  size : w.heap.size ≤ w'.heap.size
  block : ∀ i, i < w.heap.size → (i < lo ∨ hi ≤ i) → w'.heap[i]? = w.heap[i]?
theorem Chg.trans {lo hi : Nat} {a b c : World} (h : Chg lo hi a b) (k : Chg lo hi b c) : Chg lo hi a c := ⟨k.os.trans h.os, k.tape.trans h.tape, k.output.trans h.output, Nat.le_trans h.size k.size, fun i hi hr => (k.block i (Nat.lt_of_lt_of_le hi h.size) hr).trans (h.block i hi hr)⟩
theorem Chg.of_below {lo hi : Nat} {w w' : World} (h : Below w.heap.size w w') : Chg lo hi w w' := ⟨h.os, h.tape, h.output, h.size, fun i hi _ => h.block i hi⟩
theorem Chg.of_grown {lo hi : Nat} {w w' : World} {row : Option Nat} (h : w.grownBy w' row) (hr : ∀ g, row = some g → lo ≤ g ∧ g < hi) : Chg lo hi w w' := ⟨h.os, h.tape, h.output, h.size, fun i hi hx => h.block i hi (fun e => by have := hr i e.symm; omega)⟩
theorem owns_block {w w' : World} {B : Nat} {T : TypeId} {v : Value} {n : Nat} {xs : List Value} (h : w.ownsRow B T 1 v n xs) (hb : ∀ g, v.ownBlock = some g → w'.heap[g]? = w.heap[g]?) : w'.ownsRow B T 1 v n xs := by
  refine ⟨h.1, ?_⟩
  rcases h.2 with h2 | ⟨g, cap, cur, hv, hg, hh, r⟩
  · exact .inl h2
  · exact .inr ⟨g, cap, cur, hv, hg, by rw [hb g (by rw [hv]; rfl)]; exact hh, r⟩
theorem owns_mono {w : World} {B B' : Nat} {T : TypeId} {v : Value} {n : Nat} {xs : List Value} (h : w.ownsRow B T 1 v n xs) (hB : ∀ g, v.ownBlock = some g → B' ≤ g) : w.ownsRow B' T 1 v n xs := by
  refine ⟨h.1, ?_⟩
  rcases h.2 with h2 | ⟨g, cap, cur, hv, hg, hh, r⟩
  · exact .inl h2
  · exact .inr ⟨g, cap, cur, hv, hB g (by rw [hv]; rfl), hh, r⟩
section
variable {w w' : World} {lo hi n : Nat} {T : Nat → TypeId} {v : Nat → Value} {cs : Nat → List Value}
theorem Fam.blk (h : Fam w lo hi n T v cs) {k g : Nat} (hk : k < n) (hg : (v k).ownBlock = some g) : lo ≤ g ∧ g < hi ∧ g < w.heap.size := ⟨(owns_lt (h.own k hk) hg).1, h.lt k hk g hg, (owns_lt (h.own k hk) hg).2⟩
theorem Fam.keep (h : Fam w lo hi n T v cs) (hb : ∀ g, lo ≤ g → g < hi → g < w.heap.size → w'.heap[g]? = w.heap[g]?) : Fam w' lo hi n T v cs :=
  ⟨fun k hk => owns_block (h.own k hk) fun g hg => by obtain ⟨a, b, c⟩ := h.blk hk hg; exact hb g a b c, h.lt, h.ap⟩
theorem Fam.below (h : Fam w lo hi n T v cs) (hb : Below w.heap.size w w') : Fam w' lo hi n T v cs := h.keep fun g _ _ hg => hb.block g hg
theorem Fam.chg {lo' hi' : Nat} (h : Fam w lo hi n T v cs) (hc : Chg lo' hi' w w') (hd : hi ≤ lo' ∨ hi' ≤ lo) : Fam w' lo hi n T v cs := h.keep fun g h1 h2 h3 => hc.block g h3 (by omega)
theorem Fam.wide (h : Fam w lo hi n T v cs) {lo' hi' : Nat} (h1 : lo' ≤ lo) (h2 : hi ≤ hi') : Fam w lo' hi' n T v cs :=
  ⟨fun k hk => owns_mono (h.own k hk) fun g hg => by have := h.blk hk hg; omega, fun k hk g hg => by have := h.lt k hk g hg; omega, h.ap⟩
def upd {α : Type} (f : Nat → α) (k : Nat) (x : α) : Nat → α := fun i => if i = k then x else f i
theorem upd_same {α : Type} (f : Nat → α) (k : Nat) (x : α) : upd f k x k = x := by simp [upd]
theorem upd_other {α : Type} (f : Nat → α) {k i : Nat} (x : α) (h : i ≠ k) : upd f k x i = f i := by simp [upd, h]
/-- One row's content changes in its own block. -/
theorem Fam.set (h : Fam w lo hi n T v cs) {k : Nat} (hk : k < n) {ds : List Value} (hg : w.grownBy w' (v k).ownBlock) (ho : w'.ownsRow lo (T k) 1 (v k) ds.length ds) : Fam w' lo hi n T v (upd cs k ds) := by
  refine ⟨fun j hj => ?_, h.lt, h.ap⟩
  by_cases e : j = k
  · subst e; rw [upd_same]; exact ho
  · rw [upd_other _ _ e]
    refine owns_block (h.own j hj) fun g hjg => hg.block g (owns_lt (h.own j hj) hjg).2 fun e2 => ?_
    rcases h.ap j k hj hk e with h1 | h1
    · rw [hjg] at h1; cases h1
    · exact h1 (by rw [hjg, ← e2])
/-- A row is put in another's place: nothing's, or a block of its own. -/
theorem Fam.put (h : Fam w lo hi n T v cs) {k : Nat} {u : Value} {ds : List Value} (ho : w.ownsRow lo (T k) 1 u ds.length ds) {hi' : Nat} (hh : hi ≤ hi') (hu : ∀ g, u.ownBlock = some g → (hi ≤ g ∧ g < hi') ∨ (v k).ownBlock = some g) (hk : k < n) : Fam w lo hi' n T (upd v k u) (upd cs k ds) := by
  have far : ∀ j, j < n → j ≠ k → ∀ g, u.ownBlock = some g → (v j).ownBlock ≠ some g := fun j hj e g hg hjg => by
    rcases hu g hg with h1 | h1
    · have := h.lt j hj g hjg; omega
    · rcases h.ap j k hj hk e with h2 | h2
      · rw [h2] at hjg; cases hjg
      · exact h2 (by rw [hjg, h1])
  refine ⟨fun j hj => ?_, fun j hj g hg => ?_, fun i j hi hj hij => ?_⟩
  · by_cases e : j = k
    · subst e; rw [upd_same, upd_same]; exact ho
    · rw [upd_other _ _ e, upd_other _ _ e]; exact h.own j hj
  · by_cases e : j = k
    · subst e; rw [upd_same] at hg
      rcases hu g hg with h1 | h1
      · exact h1.2
      · have := h.lt j hj g h1; omega
    · rw [upd_other _ _ e] at hg; have := h.lt j hj g hg; omega
  · by_cases e : i = k
    · have e' : j ≠ k := fun h => hij (by omega)
      subst e; rw [upd_same, upd_other _ _ e']
      cases hq : u.ownBlock with
      | none => exact .inl rfl
      | some g => exact .inr fun e2 => far j hj e' g hq e2.symm
    · by_cases e' : j = k
      · subst e'; rw [upd_same, upd_other _ _ e]
        cases hq : (v i).ownBlock with
        | none => exact .inl rfl
        | some g => exact .inr fun e2 => far i hi e g e2.symm hq
      · rw [upd_other _ _ e, upd_other _ _ e']; exact h.ap i j hi hj hij
end
end Go.Proofs.Ytkkigoamphkalaa
namespace Go.Proofs.Ytkkigoamphkalaa
open Go.RowKit Ph

theorem Fam.congr {w : World} {lo hi n : Nat} {T : Nat → TypeId} {v v' : Nat → Value} {cs cs' : Nat → List Value} (h : Fam w lo hi n T v cs) (hv : ∀ k, k < n → v' k = v k) (hc : ∀ k, k < n → cs' k = cs k) : Fam w lo hi n T v' cs' :=
  ⟨fun k hk => by rw [hv k hk, hc k hk]; exact h.own k hk, fun k hk => by rw [hv k hk]; exact h.lt k hk, fun j k hj hk => by rw [hv j hj, hv k hk]; exact h.ap j k hj hk⟩
theorem Fam.grow {w : World} {lo hi n : Nat} {T : Nat → TypeId} {v : Nat → Value} {cs : Nat → List Value} (h : Fam w lo hi n T v cs) {u : Value} {ds : List Value} (ho : w.ownsRow lo (T n) 1 u ds.length ds) {hi' : Nat} (hh : hi ≤ hi') (hu : ∀ g, u.ownBlock = some g → hi ≤ g ∧ g < hi') : Fam w lo hi' (n + 1) T (upd v n u) (upd cs n ds) := by
  refine ⟨fun j hj => ?_, fun j hj g hg => ?_, fun i j hi hj hij => ?_⟩
  · by_cases e : j = n
    · subst e; rw [upd_same, upd_same]; exact ho
    · rw [upd_other _ _ e, upd_other _ _ e]; exact h.own j (by omega)
  · by_cases e : j = n
    · subst e; rw [upd_same] at hg; exact (hu g hg).2
    · rw [upd_other _ _ e] at hg; have := h.lt j (by omega) g hg; omega
  · by_cases e : i = n
    · have e' : j ≠ n := fun h => hij (by omega)
      subst e; rw [upd_same, upd_other _ _ e']
      cases hq : u.ownBlock with
      | none => exact .inl rfl
      | some g => exact .inr fun e2 => by have := h.lt j (by omega) g e2.symm; have := hu g hq; omega
    · by_cases e' : j = n
      · subst e'; rw [upd_same, upd_other _ _ e]
        cases hq : (v i).ownBlock with
        | none => exact .inl rfl
        | some g => exact .inr fun e2 => by have := h.lt i (by omega) g hq; have := hu g e2.symm; omega
      · rw [upd_other _ _ e, upd_other _ _ e']; exact h.ap i j (by omega) (by omega) hij

/-- A row of bools that the call itself has made. -/
def OwnBs (w : World) (B : Nat) (v : Value) (bs : List Bool) : Prop := w.ownsRow B 4 1 v bs.length (bs.map Value.bool)
theorem owns_bools {w : World} {B : Nat} {v : Value} {bs : List Bool} (h : OwnBs w B v bs) : BoolsAt w v bs := by
  have h' := h
  obtain ⟨h1, h2⟩ := h
  rcases h2 with ⟨rfl, h2⟩ | ⟨g, cap, cur, rfl, hg, hh, _⟩
  · exact ⟨none, 0, by rw [h2], fun h => by omega⟩
  · refine ⟨_, cap, rfl, fun _ => ⟨g, 0, rfl, fun i hi => ?_⟩⟩
    rw [Nat.zero_add, World.ownsRow.cellAt h' i (by omega), List.getElem?_map, List.getElem?_eq_getElem hi]
    simp [List.getD, List.getElem?_eq_getElem hi]
theorem OwnBs.below {w w' : World} {B : Nat} {v : Value} {bs : List Bool} (h : OwnBs w B v bs) (hb : Below w.heap.size w w') : OwnBs w' B v bs := owns_block h fun g hg => hb.block g (owns_lt h hg).2
theorem Own.nil (w : World) (B : Nat) : Own w B (.slice none 0 0) [] := ⟨rfl, .inl ⟨rfl, rfl⟩⟩
theorem OwnBs.shape {w : World} {B : Nat} {v : Value} {bs : List Bool} (h : OwnBs w B v bs) : (v = .slice none 0 0 ∧ bs = []) ∨ ∃ g c, v = .slice (some ⟨g, 0, none⟩) bs.length c := by
  rcases h.2 with ⟨h1, h2⟩ | ⟨g, cap, cur, h1, _⟩
  · exact .inl ⟨h1, List.eq_nil_of_length_eq_zero h2⟩
  · exact .inr ⟨g, cap, h1⟩
theorem Own.shape' {w : World} {B : Nat} {v : Value} {bs : List Int} (h : Own w B v bs) : (v = .slice none 0 0 ∧ bs = []) ∨ ∃ g c, v = .slice (some ⟨g, 0, none⟩) bs.length c := by
  rcases h.2 with ⟨h1, h2⟩ | ⟨g, cap, cur, h1, _⟩
  · exact .inl ⟨h1, List.eq_nil_of_length_eq_zero h2⟩
  · exact .inr ⟨g, cap, h1⟩

def tyH : Nat → TypeId
  | 0 => 24
  | 1 => 4
  | _ + 2 => 3
def vH (a b c : Value) (us : Nat → Value) : Nat → Value
  | 0 => a
  | 1 => b
  | 2 => c
  | i + 3 => us i
def cH (us : Nat → Value) (h : H) : Nat → List Value
  | 0 => (List.range h.f.length).map us
  | 1 => h.l.map Value.bool
  | 2 => h.r.map (Value.int .i64)
  | i + 3 => (h.f.getD i []).map (Value.int .i64)
def FamH (w : World) (lo hi : Nat) (a b c : Value) (us : Nat → Value) (h : H) : Prop := Fam w lo hi (h.f.length + 3) tyH (vH a b c us) (cH us h)
def OwnH (w : World) (lo hi : Nat) (a b c : Value) (h : H) : Prop := ∃ us, FamH w lo hi a b c us h
section
variable {w w' : World} {lo hi : Nat} {a b c : Value} {us : Nat → Value} {h : H}
theorem FamH.outer (k : FamH w lo hi a b c us h) : w.ownsRow lo 24 1 a h.f.length ((List.range h.f.length).map us) := by
  have := k.own 0 (by omega)
  simp only [tyH, vH, cH, List.length_map, List.length_range] at this
  exact this
theorem FamH.live (k : FamH w lo hi a b c us h) : OwnBs w lo b h.l := by
  have := k.own 1 (by omega)
  simp only [tyH, vH, cH, List.length_map] at this
  exact this
theorem FamH.roots (k : FamH w lo hi a b c us h) : Own w lo c h.r := by
  have := k.own 2 (by omega)
  simp only [tyH, vH, cH, List.length_map] at this
  exact this
theorem FamH.row (k : FamH w lo hi a b c us h) {i : Nat} (hi : i < h.f.length) : Own w lo (us i) (h.f.getD i []) := by
  have := k.own (i + 3) (by omega)
  simp only [tyH, vH, cH, List.length_map] at this
  exact this
theorem FamH.cell (k : FamH w lo hi a b c us h) {g cap i : Nat} (ha : a = .slice (some ⟨g, 0, none⟩) h.f.length cap) (hi : i < h.f.length) : w.cell? ⟨g, i, none⟩ = some (us i) ∧ w.frozen? ⟨g, i, none⟩ = false := by
  have o := k.outer
  subst ha
  refine ⟨?_, o.frozenAt i⟩
  rw [o.cellAt i (by omega)]
  simp [hi]
theorem FamH.shape (k : FamH w lo hi a b c us h) : (a = .slice none 0 0 ∧ h.f = []) ∨ ∃ g cap, a = .slice (some ⟨g, 0, none⟩) h.f.length cap := by
  rcases k.outer.2 with ⟨h1, h2⟩ | ⟨g, cap, cur, h1, _⟩
  · exact .inl ⟨h1, List.eq_nil_of_length_eq_zero h2⟩
  · exact .inr ⟨g, cap, h1⟩
theorem FamH.reads (k : FamH w lo hi a b c us h) : HeapAt w a b c h := by
  refine ⟨?_, owns_bools k.live, k.roots.ints⟩
  rcases k.shape with ⟨h1, h2⟩ | ⟨g, cap, h1⟩
  · exact ⟨none, 0, by rw [h1, h2]; rfl, fun h => by rw [h2] at h; simp at h⟩
  · exact ⟨_, cap, h1, fun _ => ⟨g, 0, rfl, fun i hi => ⟨us i, by rw [Nat.zero_add]; exact (k.cell h1 hi).1, (k.row hi).ints⟩⟩⟩
theorem OwnH.reads (k : OwnH w lo hi a b c h) : HeapAt w a b c h := by obtain ⟨us, k⟩ := k; exact k.reads
theorem OwnH.below (k : OwnH w lo hi a b c h) (hb : Below w.heap.size w w') : OwnH w' lo hi a b c h := by obtain ⟨us, k⟩ := k; exact ⟨us, Fam.below k hb⟩
theorem OwnH.chg {lo' hi' : Nat} (k : OwnH w lo hi a b c h) (hc : Chg lo' hi' w w') (hd : hi ≤ lo' ∨ hi' ≤ lo) : OwnH w' lo hi a b c h := by obtain ⟨us, k⟩ := k; exact ⟨us, Fam.chg k hc hd⟩
theorem OwnH.wide (k : OwnH w lo hi a b c h) {lo' hi' : Nat} (h1 : lo' ≤ lo) (h2 : hi ≤ hi') : OwnH w lo' hi' a b c h := by obtain ⟨us, k⟩ := k; exact ⟨us, Fam.wide k h1 h2⟩
theorem OwnH.nil (w : World) (lo hi : Nat) : OwnH w lo hi (.slice none 0 0) (.slice none 0 0) (.slice none 0 0) ⟨[], [], []⟩ := by
  refine ⟨fun _ => .slice none 0 0, fun k hk => ?_, fun k hk g hg => ?_, fun j k hj _ _ => ?_⟩
  · match k, hk with
    | 0, _ => exact ⟨rfl, .inl ⟨rfl, rfl⟩⟩
    | 1, _ => exact ⟨rfl, .inl ⟨rfl, rfl⟩⟩
    | 2, _ => exact ⟨rfl, .inl ⟨rfl, rfl⟩⟩
  · match k, hk with
    | 0, _ => cases hg
    | 1, _ => cases hg
    | 2, _ => cases hg
  · match j, hj with
    | 0, _ => exact .inl rfl
    | 1, _ => exact .inl rfl
    | 2, _ => exact .inl rfl
theorem getD_setL {fs : List (List Int)} {i j : Nat} {zs : List Int} (hi : i < fs.length) : (fs.set i zs).getD j [] = if j = i then zs else fs.getD j [] := by
  by_cases e : j = i
  · subst e; simp [List.getD, hi]
  · have : ¬ i = j := fun h => e h.symm
    simp [List.getD, e, this]
/-- A row's content changes where it lies. -/
theorem FamH.setRow (k : FamH w lo hi a b c us h) {i : Nat} (hi0 : i < h.f.length) {zs : List Int} (hg : w.grownBy w' (us i).ownBlock) (ho : Own w' lo (us i) zs) : FamH w' lo hi a b c us ⟨h.f.set i zs, h.l, h.r⟩ := by
  have := Fam.set k (k := i + 3) (by omega) (ds := zs.map (Value.int .i64)) hg (by simp only [tyH, vH, List.length_map]; exact ho)
  unfold FamH
  rw [List.length_set]
  refine this.congr (fun _ _ => rfl) fun j hj => ?_
  match j with
  | 0 => rw [upd_other _ _ (by omega)]; simp [cH]
  | 1 => rw [upd_other _ _ (by omega)]; rfl
  | 2 => rw [upd_other _ _ (by omega)]; rfl
  | j + 3 =>
    by_cases e : j = i
    · subst e; rw [upd_same]; simp only [cH]; rw [getD_setL hi0, if_pos rfl]
    · rw [upd_other _ _ (by omega)]; simp only [cH]; rw [getD_setL hi0, if_neg e]
theorem FamH.setLive (k : FamH w lo hi a b c us h) {bs : List Bool} (hg : w.grownBy w' b.ownBlock) (ho : OwnBs w' lo b bs) : FamH w' lo hi a b c us ⟨h.f, bs, h.r⟩ := by
  have := Fam.set k (k := 1) (by omega) (ds := bs.map Value.bool) hg (by simp only [tyH, vH, List.length_map]; exact ho)
  refine this.congr (fun _ _ => rfl) fun j hj => ?_
  match j with
  | 0 => rw [upd_other _ _ (by omega)]; rfl
  | 1 => rw [upd_same]; rfl
  | 2 => rw [upd_other _ _ (by omega)]; rfl
  | j + 3 => rw [upd_other _ _ (by omega)]; rfl
theorem FamH.setRoots (k : FamH w lo hi a b c us h) {zs : List Int} (hg : w.grownBy w' c.ownBlock) (ho : Own w' lo c zs) : FamH w' lo hi a b c us ⟨h.f, h.l, zs⟩ := by
  have := Fam.set k (k := 2) (by omega) (ds := zs.map (Value.int .i64)) hg (by simp only [tyH, vH, List.length_map]; exact ho)
  refine this.congr (fun _ _ => rfl) fun j hj => ?_
  match j with
  | 0 => rw [upd_other _ _ (by omega)]; rfl
  | 1 => rw [upd_other _ _ (by omega)]; rfl
  | 2 => rw [upd_same]; rfl
  | j + 3 => rw [upd_other _ _ (by omega)]; rfl
/-- Another list for what is live. -/
theorem FamH.putLive (k : FamH w lo hi a b c us h) {b' : Value} {bs : List Bool} (ho : OwnBs w lo b' bs) {hi' : Nat} (hh : hi ≤ hi') (hu : ∀ g, b'.ownBlock = some g → (hi ≤ g ∧ g < hi') ∨ b.ownBlock = some g) : FamH w lo hi' a b' c us ⟨h.f, bs, h.r⟩ := by
  have := Fam.put k (k := 1) (u := b') (ds := bs.map Value.bool) (by simp only [tyH, List.length_map]; exact ho) hh hu (by omega)
  refine this.congr (fun j hj => ?_) fun j hj => ?_
  · match j with
    | 0 => rw [upd_other _ _ (by omega)]; rfl
    | 1 => rw [upd_same]; rfl
    | 2 => rw [upd_other _ _ (by omega)]; rfl
    | j + 3 => rw [upd_other _ _ (by omega)]; rfl
  · match j with
    | 0 => rw [upd_other _ _ (by omega)]; rfl
    | 1 => rw [upd_same]; rfl
    | 2 => rw [upd_other _ _ (by omega)]; rfl
    | j + 3 => rw [upd_other _ _ (by omega)]; rfl
theorem FamH.putRoots (k : FamH w lo hi a b c us h) {c' : Value} {zs : List Int} (ho : Own w lo c' zs) {hi' : Nat} (hh : hi ≤ hi') (hu : ∀ g, c'.ownBlock = some g → (hi ≤ g ∧ g < hi') ∨ c.ownBlock = some g) : FamH w lo hi' a b c' us ⟨h.f, h.l, zs⟩ := by
  have := Fam.put k (k := 2) (u := c') (ds := zs.map (Value.int .i64)) (by simp only [tyH, List.length_map]; exact ho) hh hu (by omega)
  refine this.congr (fun j hj => ?_) fun j hj => ?_
  · match j with
    | 0 => rw [upd_other _ _ (by omega)]; rfl
    | 1 => rw [upd_other _ _ (by omega)]; rfl
    | 2 => rw [upd_same]; rfl
    | j + 3 => rw [upd_other _ _ (by omega)]; rfl
  · match j with
    | 0 => rw [upd_other _ _ (by omega)]; rfl
    | 1 => rw [upd_other _ _ (by omega)]; rfl
    | 2 => rw [upd_same]; rfl
    | j + 3 => rw [upd_other _ _ (by omega)]; rfl
theorem range_set (us : Nat → Value) (n i : Nat) (u : Value) : ((List.range n).map us).set i u = (List.range n).map (upd us i u) := by
  apply List.ext_getElem?
  intro j
  rw [List.getElem?_set]
  by_cases hj : j < n
  · by_cases e : i = j
    · subst e; simp [hj, upd]
    · have : ¬ j = i := fun h => e h.symm
      simp [hj, e, upd, this]
  · have h1 : ((List.range n).map (upd us i u))[j]? = none := by simp; omega
    have h2 : ((List.range n).map us)[j]? = none := by simp; omega
    rw [h1, h2]
    split
    · split
      · rename_i p q; simp at q; omega
      · rfl
    · rfl
/-- Another list for a row: the outer list's cell is stored. -/
theorem FamH.putRow (k : FamH w lo hi a b c us h) {i : Nat} (hi0 : i < h.f.length) {u : Value} {zs : List Int} (ho : Own w lo u zs) {hi' : Nat} (hh : hi ≤ hi') (hu : ∀ g, u.ownBlock = some g → (hi ≤ g ∧ g < hi') ∨ (us i).ownBlock = some g) {g cap : Nat} (ha : a = .slice (some ⟨g, 0, none⟩) h.f.length cap) :
    FamH (w.setCell ⟨g, i, none⟩ u) lo hi' a b c (upd us i u) ⟨h.f.set i zs, h.l, h.r⟩ ∧ w.grownBy (w.setCell ⟨g, i, none⟩ u) (some g) := by
  subst ha
  obtain ⟨s1, s2⟩ := k.outer.stored i u
  refine ⟨?_, s2⟩
  have k1 := Fam.put k (k := i + 3) (u := u) (ds := zs.map (Value.int .i64)) (by simp only [tyH, List.length_map]; exact ho) hh hu (by omega)
  have k2 := Fam.set k1 (k := 0) (by omega) (ds := (List.range h.f.length).map (upd us i u)) (w' := w.setCell ⟨g, i, none⟩ u) (by rw [upd_other _ _ (by omega)]; exact s2) (by rw [upd_other _ _ (by omega)]; simp only [tyH, vH, List.length_map, List.length_range]; rw [← range_set]; exact s1)
  unfold FamH
  rw [List.length_set]
  refine k2.congr (fun j hj => ?_) fun j hj => ?_
  · match j with
    | 0 => rw [upd_other _ _ (by omega)]; rfl
    | 1 => rw [upd_other _ _ (by omega)]; rfl
    | 2 => rw [upd_other _ _ (by omega)]; rfl
    | j + 3 =>
      by_cases e : j = i
      · subst e; rw [upd_same]; simp only [vH]; rw [upd_same]
      · rw [upd_other _ _ (by omega)]; simp only [vH]; rw [upd_other _ _ e]
  · match j with
    | 0 => rw [upd_same]; simp [cH]
    | 1 => rw [upd_other _ _ (by omega), upd_other _ _ (by omega)]; rfl
    | 2 => rw [upd_other _ _ (by omega), upd_other _ _ (by omega)]; rfl
    | j + 3 =>
      rw [upd_other _ _ (by omega)]
      by_cases e : j = i
      · subst e; rw [upd_same]; simp only [cH]; rw [getD_setL hi0, if_pos rfl]
      · rw [upd_other _ _ (by omega)]; simp only [cH]; rw [getD_setL hi0, if_neg e]
end
end Go.Proofs.Ytkkigoamphkalaa
namespace Go.Proofs.Ytkkigoamphkalaa
open Go.RowKit Ph

/-- How many numbers the first k rows hold. -/
def sumL (fs : List (List Int)) (k : Nat) : Nat := ((fs.take k).map List.length).sum
theorem sumL_succ {fs : List (List Int)} {k : Nat} (h : k < fs.length) : sumL fs (k + 1) = sumL fs k + (fs.getD k []).length := by
  have e : fs.getD k [] = fs[k] := by simp [List.getD, List.getElem?_eq_getElem h]
  unfold sumL
  rw [List.take_succ_eq_append_getElem h, List.map_append, List.sum_append, e]; simp
theorem sumL_zero (fs : List (List Int)) : sumL fs 0 = 0 := by simp [sumL]
/-- How much a list of lists weighs. -/
def wt (fs : List (List Int)) : Nat := fs.length + sumL fs fs.length
end Go.Proofs.Ytkkigoamphkalaa
namespace Go.Proofs.Ytkkigoamphkalaa
open Go.RowKit Ph

theorem info_boolz : (Try.prog.info? 4).map (fun i => (i.zero, i.size, i.bytes)) = some (some (.bool false), 1, 1) := by kernel_rfl
theorem info_ints : (Try.prog.info? 24).map (fun i => (i.zero, i.size, i.bytes)) = some (some (.slice none 0 0), 1, 24) := by kernel_rfl
end Go.Proofs.Ytkkigoamphkalaa
namespace Go.Proofs.Ytkkigoamphkalaa
open Go.RowKit Ph

/-- One row moves, or changes where it lies. -/
theorem Fam.turn {w w' : World} {lo hi n : Nat} {T : Nat → TypeId} {v : Nat → Value} {cs : Nat → List Value} (h : Fam w lo hi n T v cs) {k : Nat} (hk : k < n) {u : Value} {ds : List Value} (hg : w.grownBy w' (v k).ownBlock) (ho : w'.ownsRow lo (T k) 1 u ds.length ds) {hi' : Nat} (hh : hi ≤ hi') (hu : ∀ g, u.ownBlock = some g → (hi ≤ g ∧ g < hi') ∨ (v k).ownBlock = some g) : Fam w' lo hi' n T (upd v k u) (upd cs k ds) := by
  have far : ∀ j, j < n → j ≠ k → ∀ g, u.ownBlock = some g → (v j).ownBlock ≠ some g := fun j hj e g hg hjg => by
    rcases hu g hg with h1 | h1
    · have := h.lt j hj g hjg; omega
    · rcases h.ap j k hj hk e with h2 | h2
      · rw [h2] at hjg; cases hjg
      · exact h2 (by rw [hjg, h1])
  refine ⟨fun j hj => ?_, fun j hj g hg => ?_, fun i j hi hj hij => ?_⟩
  · by_cases e : j = k
    · subst e; rw [upd_same, upd_same]; exact ho
    · rw [upd_other _ _ e, upd_other _ _ e]
      refine owns_block (h.own j hj) fun g hjg => hg.block g (owns_lt (h.own j hj) hjg).2 fun e2 => ?_
      rcases h.ap j k hj hk e with h1 | h1
      · rw [hjg] at h1; cases h1
      · exact h1 (by rw [hjg, ← e2])
  · by_cases e : j = k
    · subst e; rw [upd_same] at hg
      rcases hu g hg with h1 | h1
      · exact h1.2
      · have := h.lt j hj g h1; omega
    · rw [upd_other _ _ e] at hg; have := h.lt j hj g hg; omega
  · by_cases e : i = k
    · have e' : j ≠ k := fun h => hij (by omega)
      subst e; rw [upd_same, upd_other _ _ e']
      cases hq : u.ownBlock with
      | none => exact .inl rfl
      | some g => exact .inr fun e2 => far j hj e' g hq e2.symm
    · by_cases e' : j = k
      · subst e'; rw [upd_same, upd_other _ _ e]
        cases hq : (v i).ownBlock with
        | none => exact .inl rfl
        | some g => exact .inr fun e2 => far i hi e g e2.symm hq
      · rw [upd_other _ _ e, upd_other _ _ e']; exact h.ap i j hi hj hij
theorem FamH.turnLive {w w' : World} {lo hi hi' : Nat} {a b b' c : Value} {us : Nat → Value} {h : H} (k : FamH w lo hi a b c us h) {bs : List Bool} (hg : w.grownBy w' b.ownBlock) (ho : OwnBs w' lo b' bs) (hh : hi ≤ hi') (hu : ∀ g, b'.ownBlock = some g → (hi ≤ g ∧ g < hi') ∨ b.ownBlock = some g) : FamH w' lo hi' a b' c us ⟨h.f, bs, h.r⟩ := by
  have := Fam.turn k (k := 1) (by omega) (u := b') (ds := bs.map Value.bool) hg (by simp only [tyH, List.length_map]; exact ho) hh hu
  refine this.congr (fun j hj => ?_) fun j hj => ?_
  · match j with
    | 0 => rw [upd_other _ _ (by omega)]; rfl
    | 1 => rw [upd_same]; rfl
    | 2 => rw [upd_other _ _ (by omega)]; rfl
    | j + 3 => rw [upd_other _ _ (by omega)]; rfl
  · match j with
    | 0 => rw [upd_other _ _ (by omega)]; rfl
    | 1 => rw [upd_same]; rfl
    | 2 => rw [upd_other _ _ (by omega)]; rfl
    | j + 3 => rw [upd_other _ _ (by omega)]; rfl
theorem FamH.turnRoots {w w' : World} {lo hi hi' : Nat} {a b c c' : Value} {us : Nat → Value} {h : H} (k : FamH w lo hi a b c us h) {zs : List Int} (hg : w.grownBy w' c.ownBlock) (ho : Own w' lo c' zs) (hh : hi ≤ hi') (hu : ∀ g, c'.ownBlock = some g → (hi ≤ g ∧ g < hi') ∨ c.ownBlock = some g) : FamH w' lo hi' a b c' us ⟨h.f, h.l, zs⟩ := by
  have := Fam.turn k (k := 2) (by omega) (u := c') (ds := zs.map (Value.int .i64)) hg (by simp only [tyH, List.length_map]; exact ho) hh hu
  refine this.congr (fun j hj => ?_) fun j hj => ?_
  · match j with
    | 0 => rw [upd_other _ _ (by omega)]; rfl
    | 1 => rw [upd_other _ _ (by omega)]; rfl
    | 2 => rw [upd_same]; rfl
    | j + 3 => rw [upd_other _ _ (by omega)]; rfl
  · match j with
    | 0 => rw [upd_other _ _ (by omega)]; rfl
    | 1 => rw [upd_other _ _ (by omega)]; rfl
    | 2 => rw [upd_same]; rfl
    | j + 3 => rw [upd_other _ _ (by omega)]; rfl
/-- One row more behind all: the outer list grows. -/
theorem FamH.growRow {w w' : World} {lo hi hi1 hi' : Nat} {a a' b c u : Value} {us : Nat → Value} {h : H} (k : FamH w lo hi a b c us h) {zs : List Int} (ho : Own w lo u zs) (hu : ∀ g, u.ownBlock = some g → hi ≤ g ∧ g < hi1) (hh : hi ≤ hi1) (hg : w.grownBy w' a.ownBlock)
    (hou : w'.ownsRow lo 24 1 a' (h.f.length + 1) ((List.range h.f.length).map us ++ [u])) (hh' : hi1 ≤ hi') (ha : ∀ g, a'.ownBlock = some g → (hi1 ≤ g ∧ g < hi') ∨ a.ownBlock = some g) :
    FamH w' lo hi' a' b c (upd us h.f.length u) ⟨h.f ++ [zs], h.l, h.r⟩ := by
  have k1 := Fam.grow k (u := u) (ds := zs.map (Value.int .i64)) (by simp only [tyH, List.length_map]; exact ho) hh hu
  have k2 := Fam.turn k1 (k := 0) (by omega) (u := a') (ds := (List.range h.f.length).map us ++ [u]) (w' := w') (by rw [upd_other _ _ (by omega)]; exact hg) (by simp only [tyH, List.length_append, List.length_map, List.length_range, List.length_singleton]; exact hou) hh' (by rw [upd_other _ _ (by omega)]; exact ha)
  unfold FamH
  have e : (h.f ++ [zs]).length + 3 = h.f.length + 3 + 1 := by simp
  rw [e]
  refine k2.congr (fun j hj => ?_) fun j hj => ?_
  · match j with
    | 0 => rw [upd_same]; rfl
    | 1 => rw [upd_other _ _ (by omega), upd_other _ _ (by omega)]; rfl
    | 2 => rw [upd_other _ _ (by omega), upd_other _ _ (by omega)]; rfl
    | j + 3 =>
      rw [upd_other _ _ (by omega)]
      by_cases e : j = h.f.length
      · subst e; rw [upd_same]; simp only [vH]; rw [upd_same]
      · rw [upd_other _ _ (by omega)]; simp only [vH]; rw [upd_other _ _ e]
  · match j with
    | 0 =>
      rw [upd_same]; simp only [cH, List.length_append, List.length_singleton]
      rw [List.range_succ, List.map_append]
      congr 1
      · exact List.map_congr_left fun x hx => by have : x < h.f.length := by simpa using hx
                                                 rw [upd_other _ _ (by omega)]
      · simp [upd]
    | 1 => rw [upd_other _ _ (by omega), upd_other _ _ (by omega)]; rfl
    | 2 => rw [upd_other _ _ (by omega), upd_other _ _ (by omega)]; rfl
    | j + 3 =>
      rw [upd_other _ _ (by omega)]
      by_cases e : j = h.f.length
      · subst e; rw [upd_same]; simp [cH]
      · rw [upd_other _ _ (by omega)]; simp only [cH]
        have : j < h.f.length := by omega
        simp [List.getD, List.getElem?_append_left this]
/-- A variable that holds a heap lies in none of the lists' blocks. -/
theorem owns_ne_row {w : World} {B g : Nat} {T : TypeId} {v : Value} {n : Nat} {xs : List Value} {cs : Array Value} (h : w.ownsRow B T 1 v n xs) (hr : Row w g 30 cs) (hT : T ≠ 30) {g' : Nat} (hg : v.ownBlock = some g') : g' ≠ g := by
  intro e
  subst e
  rcases h.2 with ⟨rfl, _⟩ | ⟨g2, cap, cur, rfl, _, h2, _⟩
  · cases hg
  · cases hg
    unfold Row at hr
    rw [h2] at hr
    simp only [Option.some.injEq, Obj.cells.injEq] at hr
    exact hT hr.2.1
theorem tyH_ne (k : Nat) : tyH k ≠ 30 := by
  match k with
  | 0 => exact (by decide)
  | 1 => exact (by decide)
  | k + 2 => show 3 ≠ 30; decide
theorem OwnH.keepRow {w w' : World} {lo hi g : Nat} {a b c : Value} {h : H} {cs : Array Value} (k : OwnH w lo hi a b c h) (hr : Row w g 30 cs) (hb : ∀ i, i ≠ g → i < w.heap.size → w'.heap[i]? = w.heap[i]?) : OwnH w' lo hi a b c h := by
  obtain ⟨us, k⟩ := k
  exact ⟨us, fun j hj => owns_block (k.own j hj) fun g' hg' => hb g' (owns_ne_row (k.own j hj) hr (tyH_ne j) hg') (owns_lt (k.own j hj) hg').2, k.lt, k.ap⟩
theorem OwnH.cellRow {w : World} {lo hi g : Nat} {a b c : Value} {h : H} {cs : Array Value} (k : OwnH w lo hi a b c h) (hr : Row w g 30 cs) (j : Nat) (x : Value) : OwnH (w.setCell ⟨g, j, none⟩ x) lo hi a b c h := k.keepRow hr fun i hi _ => heap_setCell_other w ⟨g, j, none⟩ i _ hi
theorem OwnH.wholeRow {w : World} {lo hi g : Nat} {a b c : Value} {h : H} {cs : Array Value} (k : OwnH w lo hi a b c h) (hr : Row w g 30 cs) (ds : Array Value) : OwnH (w.setRow g ds) lo hi a b c h := k.keepRow hr fun i hi _ => setRow_other w g i ds hi

/-- What is appended, cell by cell. -/
def SrcAt (w : World) (x : Value) (ys : List Value) : Prop := ∃ ao c, x = .slice ao ys.length c ∧ (∀ u ∈ ys, u.oneCell' = true) ∧ (0 < ys.length → ∃ b off, ao = some ⟨b, off, none⟩ ∧ ∀ j, j < ys.length → w.cell? ⟨b, off + j, none⟩ = ys[j]?)
theorem IntsAt.src {w : World} {x : Value} {zs : List Int} (h : IntsAt w x zs) : SrcAt w x (zs.map (Value.int .i64)) := by
  obtain ⟨ao, c, rfl, hc⟩ := h
  refine ⟨ao, c, by rw [List.length_map], fun u hu => by obtain ⟨_, _, rfl⟩ := List.mem_map.1 hu; rfl, fun h0 => ?_⟩
  rw [List.length_map] at h0 ⊢
  obtain ⟨b, off, ha, hcc⟩ := hc h0
  exact ⟨b, off, ha, fun j hj => by rw [hcc j hj, List.getElem?_map, List.getElem?_eq_getElem hj]; simp [List.getD, List.getElem?_eq_getElem hj]⟩
theorem BoolsAt.src {w : World} {x : Value} {zs : List Bool} (h : BoolsAt w x zs) : SrcAt w x (zs.map Value.bool) := by
  obtain ⟨ao, c, rfl, hc⟩ := h
  refine ⟨ao, c, by rw [List.length_map], fun u hu => by obtain ⟨_, _, rfl⟩ := List.mem_map.1 hu; rfl, fun h0 => ?_⟩
  rw [List.length_map] at h0 ⊢
  obtain ⟨b, off, ha, hcc⟩ := hc h0
  exact ⟨b, off, ha, fun j hj => by rw [hcc j hj, List.getElem?_map, List.getElem?_eq_getElem hj]; simp [List.getD, List.getElem?_eq_getElem hj]⟩
theorem run_appOwn {P : Program} (w : World) (base : Nat) (t ty e : TypeId) (i : TypeInfo) (z : Value) (bytes : Nat) (ht : P.underlying t = some (.slice e)) (hi : P.info? e = some i) (hz : i.zero = some z) (hsize : i.size = 1) (hby : i.bytes = bytes) (hzs : z.cells.size = 1)
    (v : Value) (n : Nat) (xs : List Value) (hown : w.ownsRow base e 1 v n xs) (x : Value) (ys : List Value) (hs : SrcAt w x ys) (h63 : n + ys.length ≤ maxLen) (hbytes : (n + ys.length) * bytes ≤ 140737488355328) (hbase : base ≤ w.heap.size) :
    ∃ v' w', (Builtin.append_ #[t, t] ty #[v, x]).run P w = .ok v' w' ∧ w'.ownsRow base e 1 v' (n + ys.length) (xs ++ ys) ∧ w.grownBy w' v.ownBlock ∧ (v'.ownBlock = v.ownBlock ∨ v'.ownBlock = some w.heap.size) := by
  obtain ⟨ao, c, rfl, h1, hc⟩ := hs
  by_cases h0 : 0 < ys.length
  · obtain ⟨b, off, rfl, hcc⟩ := hc h0
    obtain ⟨v', w', hr, ho, hg, _, hb⟩ := run_append_own_at w base t ty e i z 1 bytes ht hi hz hsize hby hzs (by omega) v n xs hown ⟨b, off, none⟩ ys.length c ys (by omega) (fun j u hu => by
      have hj : j < ys.length := by obtain ⟨h1, _⟩ := List.getElem?_eq_some_iff.1 hu; exact h1
      rw [Addr.add_lit, hcc j hj, hu]) h1 h63 hbytes hbase
    exact ⟨v', w', hr, ho, hg, hb⟩
  · have hy : ys = [] := List.eq_nil_of_length_eq_zero (by omega)
    subst hy
    have hsrc : Src P i.size t (.slice ao 0 c) 0 [] w := by
      cases ao with
      | none => exact Src.ofNil w ht c
      | some ad => exact Src.ofSlice w ht ad 0 c [] (by simp) (fun j u hu => by simp at hu) (fun u hu => by simp at hu)
    have hv : ∃ base' len cap, v = .slice base' len cap ∧ len ≤ cap := by
      rcases hown.2 with ⟨rfl, _⟩ | ⟨g, cap, cur, rfl, _, _, hle, _⟩
      · exact ⟨none, 0, 0, rfl, Nat.le_refl _⟩
      · exact ⟨_, _, _, rfl, hle⟩
    obtain ⟨base', len, cap, rfl, hle⟩ := hv
    exact ⟨_, w, run_append_nothing w t t ty e i ht hi base' len cap hle _ hsrc, by simpa using hown, World.grownBy.refl _ _, .inl rfl⟩
theorem wl_appOwn {P : Program} (w : World) {ops : Array Oper} {rest : List Oper} {o : Oper} {q : Act} {Q : Exit → Act → World → Prop} (hgd : o.guard = none) (s x : Operand) (t : TypeId) (hop : o.op = Op.call { callee := Callee.builtin Builtin.append, args := #[s, x], argTypes := #[t, t] })
    (base : Nat) (e : TypeId) (i : TypeInfo) (z : Value) (bytes : Nat) (ht : P.underlying t = some (.slice e)) (hi : P.info? e = some i) (hz : i.zero = some z) (hsize : i.size = 1) (hby : i.bytes = bytes) (hzs : z.cells.size = 1)
    (v : Value) (n : Nat) (xs : List Value) (hs : q.eval s = v) (hown : w.ownsRow base e 1 v n xs) (y : Value) (ys : List Value) (hx : q.eval x = y) (hy : SrcAt w y ys) (h63 : n + ys.length ≤ maxLen) (hbytes : (n + ys.length) * bytes ≤ 140737488355328) (hbase : base ≤ w.heap.size)
    (hK : ∀ v' w', w'.ownsRow base e 1 v' (n + ys.length) (xs ++ ys) → w.grownBy w' v.ownBlock → (v'.ownBlock = v.ownBlock ∨ v'.ownBlock = some w.heap.size) → wpList P ops Q rest (q.put o.dst v') w') : wpList P ops Q (o :: rest) q w := by
  obtain ⟨v', w', hrun, h1, h2, h3⟩ := run_appOwn (P := P) w base t o.type e i z bytes ht hi hz hsize hby hzs v n xs hown y ys hy h63 hbytes hbase
  refine wpList_plain hgd fun K hK' => ?_
  unfold Oper.wp
  simp [execOp, hop, resolve, invoke, builtin, hs, hx, hrun, Result.andThen]
  exact hK' _ _ (hK v' w' h1 h2 h3)
end Go.Proofs.Ytkkigoamphkalaa
namespace Go.Proofs.Ytkkigoamphkalaa
open Go.RowKit Ph

/-- How much a heap weighs. -/
def wtH (h : H) : Nat := wt h.f + h.l.length + h.r.length
end Go.Proofs.Ytkkigoamphkalaa
namespace Go.Proofs.Ytkkigoamphkalaa
open Go.RowKit Ph

theorem OwnH.addLive {w : World} {lo hi : Nat} {a b c : Value} {h : H} (k : OwnH w lo hi a b c h) {b' : Value} {bs : List Bool} (ho : OwnBs w hi b' bs) (hl : lo ≤ hi) (hs : hi ≤ w.heap.size) : OwnH w lo w.heap.size a b' c ⟨h.f, bs, h.r⟩ := by
  obtain ⟨us, k⟩ := k
  exact ⟨us, k.putLive (owns_mono ho fun g hg => Nat.le_trans hl (owns_lt ho hg).1) hs fun g hg => .inl (owns_lt ho hg)⟩
theorem OwnH.addRoots {w : World} {lo hi : Nat} {a b c : Value} {h : H} (k : OwnH w lo hi a b c h) {c' : Value} {zs : List Int} (ho : Own w hi c' zs) (hl : lo ≤ hi) (hs : hi ≤ w.heap.size) : OwnH w lo w.heap.size a b c' ⟨h.f, h.l, zs⟩ := by
  obtain ⟨us, k⟩ := k
  exact ⟨us, k.putRoots (owns_mono ho fun g hg => Nat.le_trans hl (owns_lt ho hg).1) hs fun g hg => .inl (owns_lt ho hg)⟩
theorem OwnH.shapes {w : World} {lo hi : Nat} {a b c : Value} {h : H} (k : OwnH w lo hi a b c h) : (∃ p q, a = .slice p h.f.length q) ∧ (∃ p q, b = .slice p h.l.length q) ∧ (∃ p q, c = .slice p h.r.length q) := ⟨k.reads.f.shape, k.reads.l.shape, k.reads.r.shape⟩
theorem RowH.set0 {w : World} {g : Nat} {a b c : Value} (k : RowH w g a b c) (x : Value) : RowH (w.setCell ⟨g, 0, none⟩ x) g x b c := (Row.set k 0 x).trans rfl
theorem RowH.set1 {w : World} {g : Nat} {a b c : Value} (k : RowH w g a b c) (x : Value) : RowH (w.setCell ⟨g, 1, none⟩ x) g a x c := (Row.set k 1 x).trans rfl
theorem RowH.set2 {w : World} {g : Nat} {a b c : Value} (k : RowH w g a b c) (x : Value) : RowH (w.setCell ⟨g, 2, none⟩ x) g a b x := (Row.set k 2 x).trans rfl
theorem wl_storeH {ops : Array Oper} {rest : List Oper} {o : Oper} {q : Act} {w : World} {Q : Exit → Act → World → Prop} (hgd : o.guard = none) (x y : Operand) (ho : o.op = .store 30 x y) (g : Nat) (a b c a0 b0 c0 : Value) (hg : RowH w g a0 b0 c0)
    (hx : q.eval x = .pointer (some ⟨g, 0, none⟩)) (hy : q.eval y = hv a b c) (h1 : a.oneCell' = true) (h2 : b.oneCell' = true) (h3 : c.oneCell' = true) (h : wpList Try.prog ops Q rest (q.put o.dst undef) (w.setRow g (c3 a b c))) : wpList Try.prog ops Q (o :: rest) q w :=
  wpList_store_row hgd 30 x y ho g (c3 a b c) hx hy 30 (c3 a0 b0 c0) hg info_heap rfl (by simp [Value.oneCell']; exact ⟨h1, h2, h3⟩) h
end Go.Proofs.Ytkkigoamphkalaa
namespace Go.Proofs.Ytkkigoamphkalaa
open Go.RowKit Ph

theorem Row.chg {w w' : World} {lo hi g : Nat} {T : TypeId} {cs : Array Value} (h : Row w g T cs) (hc : Chg lo hi w w') (hd : g < lo ∨ hi ≤ g) : Row w' g T cs := (hc.block g h.lt hd).trans h
theorem below_chg {B lo hi : Nat} {w w1 w2 : World} (h : Below B w w1) (k : Chg lo hi w1 w2) (hB : B ≤ lo) (hs : B ≤ w1.heap.size) : Below B w w2 :=
  ⟨k.os.trans h.os, k.tape.trans h.tape, k.output.trans h.output, Nat.le_trans h.size k.size, fun i hi => (k.block i (by omega) (.inl (by omega))).trans (h.block i hi)⟩
end Go.Proofs.Ytkkigoamphkalaa
namespace Go.Proofs.Ytkkigoamphkalaa
open Go.RowKit Ph

theorem OwnH.ofBools {w : World} {B : Nat} {v : Value} {bs : List Bool} (ho : OwnBs w B v bs) (hs : B ≤ w.heap.size) : OwnH w B w.heap.size (.slice none 0 0) v (.slice none 0 0) ⟨[], bs, []⟩ := (OwnH.nil w B B).addLive ho (Nat.le_refl _) hs
theorem OwnH.ofInts {w w0 : World} {v : Value} {zs : List Int} (ho : Own w w0.heap.size v zs) (hb : Below w0.heap.size w0 w) : OwnH w w0.heap.size w.heap.size (.slice none 0 0) (.slice none 0 0) v ⟨[], [], zs⟩ := (OwnH.nil w _ w0.heap.size).addRoots ho (Nat.le_refl _) hb.size
/-- A list of bools of its own, and a bool. -/
def EndB (bs : List Bool) (ok : Bool) (w : World) (e : Ending) (w' : World) : Prop := ∃ v, e = .returned (.tuple #[v, .bool ok]) ∧ OwnH w' w.heap.size w'.heap.size (.slice none 0 0) v (.slice none 0 0) ⟨[], bs, []⟩ ∧ Below w.heap.size w w'
/-- A heap of its own, and a bool. -/
def EndH (h : H) (ok : Bool) (w : World) (e : Ending) (w' : World) : Prop := ∃ a b c, e = .returned (.tuple #[hv a b c, .bool ok]) ∧ OwnH w' w.heap.size w'.heap.size a b c h ∧ Below w.heap.size w w'
def EndHI (h : H) (n : Int) (ok : Bool) (w : World) (e : Ending) (w' : World) : Prop := ∃ a b c, e = .returned (.tuple #[hv a b c, .int .i64 n, .bool ok]) ∧ OwnH w' w.heap.size w'.heap.size a b c h ∧ Below w.heap.size w w'
end Go.Proofs.Ytkkigoamphkalaa
namespace Go.Proofs.Ytkkigoamphkalaa
open Go.RowKit Ph

set_option maxHeartbeats 800000 in
theorem c_isLive (a b c : Value) (ls : List Bool) (z : Int) (w : World) (hl : BoolsAt w b ls) : Calls Try.prog 90 #[hv a b c, .int .i64 z] w fun e w' => e = .returned (.bool (liveB ls z)) ∧ Below w.heap.size w w' := by
  obtain ⟨ba, bc, rfl, hL⟩ := hl
  by_cases h0 : z < 0
  · have HE : Hid (liveB ls z = false) := by unfold Hid liveB; rw [decide_eq_false (by omega)]; rfl
    have g0 : ¬ 0 ≤ z := by omega
    clear hL
    generalize ls.length = n at *
    have HB := Lib.hid (below1 w (.cells (c3 a (.slice ba n bc) c) 30))
    go_enter Try.func90, Try.ntmps90
    go_wp2
    go_ret
    exact ⟨r_b HE.out.symm, HB.out⟩
  · obtain ⟨k, rfl⟩ : ∃ k : Nat, z = k := ⟨z.toNat, by omega⟩
    clear h0
    by_cases h1 : k < ls.length
    · obtain ⟨g, off, rfl, hc⟩ := hL (by omega)
      have q := hc k h1
      have HE : Hid (liveB ls (k : Int) = ls.getD k false) := by unfold Hid liveB; rw [decide_eq_true (by omega)]; simp
      rw [← HE.out] at q
      generalize liveB ls (k : Int) = x at *
      clear hc hL HE
      generalize ls.length = n at *
      have HB := Lib.hid (below1 w (.cells (c3 a (.slice (some ⟨g, off, none⟩) n bc) c) 30))
      have q' := cellBelow HB.out (Nat.le_refl _) q
      have i1 : (k : Int) < (n : Int) := by omega
      have i0 : (0 : Int) ≤ (k : Int) := by omega
      clear q
      go_enter Try.func90, Try.ntmps90
      go_wp2
      go_ret
      exact ⟨rfl, HB.out⟩
    · have HE : Hid (liveB ls (k : Int) = false) := by
        unfold Hid
        cases hq : liveB ls (k : Int) with
        | false => rfl
        | true => have := liveB_lt hq; omega
      clear hL
      generalize ls.length = n at *
      have HB := Lib.hid (below1 w (.cells (c3 a (.slice ba n bc) c) 30))
      have i1 : ¬ (k : Int) < (n : Int) := by omega
      have i0 : (0 : Int) ≤ (k : Int) := by omega
      go_enter Try.func90, Try.ntmps90
      go_wp2
      go_ret
      exact ⟨r_b HE.out.symm, HB.out⟩
set_option maxHeartbeats 800000 in
theorem c_isReference (a b c : Value) (ls : List Bool) (z : Int) (w : World) (hl : BoolsAt w b ls) : Calls Try.prog 124 #[hv a b c, .int .i64 z] w fun e w' => e = .returned (.bool (refB ls z)) ∧ Below w.heap.size w w' := by
  have hb0 := below1 w (.cells (c3 a b c) 30)
  have HL := Lib.hid (hl.below hb0)
  have HB := Lib.hid hb0
  have R0 := Lib.hid (show RowH _ _ a b c from Row.new w 30 (c3 a b c))
  clear hl hb0
  by_cases h0 : z = -1
  · subst h0
    have HE : Hid (refB ls (-1) = true) := by unfold Hid refB; simp
    go_enter Try.func124, Try.ntmps124
    go_wp2
    go_ret
    exact ⟨r_b HE.out.symm, HB.out⟩
  · have HE : Hid (refB ls z = liveB ls z) := by unfold Hid refB; simp [h0]
    have i0 : (z == -1) = false := by simpa using h0
    rw [HE.out]
    generalize hx : liveB ls z = x at *
    have HX := Lib.hid hx
    clear hx h0 HE
    have c0 := R0.out.c0
    have c1 := R0.out.c1
    have c2 := R0.out.c2
    go_enter Try.func124, Try.ntmps124
    go_wp2_with (go_at_call 90; refine (c_isLive a b c ls z _ HL.out).mono ?_; rintro e w1 ⟨rfl, hb1⟩; rw [HX.out]; have B1 := Lib.hid (bst HB.out hb1 HB.out.size); clear hb1)
    go_ret
    exact ⟨rfl, B1.out⟩
set_option maxHeartbeats 1600000 in
theorem c_areReferences (a b c v : Value) (ls : List Bool) (zs : List Int) (w : World) (hl : BoolsAt w b ls) (hz : IntsAt w v zs) (hm : zs.length ≤ 9223372036854775806) : Calls Try.prog 119 #[hv a b c, v] w fun e w' => e = .returned (.bool (refsB ls zs)) ∧ Below w.heap.size w w' := by
  have hb0 := below1 w (.cells (c3 a b c) 30)
  have HL := Lib.hid (hl.below hb0)
  have hz0 := hz.below hb0
  have HB := Lib.hid hb0
  have R0 := Lib.hid (show RowH _ _ a b c from Row.new w 30 (c3 a b c))
  obtain ⟨va, vc, rfl, hA⟩ := hz0
  have HA := Lib.hid hA
  clear hl hb0 hz hA
  generalize hn : zs.length = n at *
  have HN := Lib.hid hn; clear hn
  go_enter Try.func119, Try.ntmps119
  go_wp2
  generalize (w.alloc (.cells (c3 a b c) 30)) = w0 at *
  go_loopw [9] (fun i wr => ∃ k : Nat, k ≤ n ∧ i = .int .i64 k ∧ Hid (refsB ls (zs.take k) = true) ∧ Below w0.heap.size w0 wr) (fun i _ => n - (intOf i).toNat)
  case atStart => exact ⟨0, Nat.zero_le _, rfl, by simp [Hid, refsB], Below.refl _ _⟩
  case round =>
    obtain ⟨k, hk, rfl, ht, hbr⟩ := hrel
    have BW := Lib.hid (bst HB.out hbr HB.out.size)
    by_cases hlt : k < n
    · obtain ⟨g, off, rfl, hc⟩ := HA.out (by omega)
      have q := cellBelow hbr (Nat.le_refl _) (hc k hlt)
      have R1 := R0.out.below hbr
      have L1 := Lib.hid (HL.out.below hbr)
      have c0 := R1.c0
      have c1 := R1.c1
      have c2 := R1.c2
      have HBR := Lib.hid hbr
      have i1 : (k : Int) < (n : Int) := by omega
      have hs := refsB_take_succ (l := ls) (zs := zs) (k := k) (by rw [HN.out]; exact hlt)
      have hf := refsB_false (l := ls) (zs := zs) (k := k) (by rw [HN.out]; exact hlt)
      have HS := Lib.hid hs; have HF := Lib.hid hf
      clear hc hbr R1 hs hf
      generalize zs.getD k 0 = z at *
      generalize hx : refB ls z = x at *
      have HX := Lib.hid hx; clear hx
      cases x
      · have HE : Hid (refsB ls zs = false) := HF.out rfl
        clear HS HF
        go_wp2_with (go_at_call 124; refine (c_isReference a b c ls z _ L1.out).mono ?_; rintro e w1 ⟨rfl, hb1⟩; rw [HX.out]; have B1 := Lib.hid (bst BW.out hb1 BW.out.size); clear hb1)
        go_ret
        exact ⟨r_b HE.out.symm, B1.out⟩
      · have HE : Hid (refsB ls (zs.take (k + 1)) = true) := by unfold Hid; rw [HS.out, ht.out]; rfl
        clear HS HF
        go_wp2_with (go_at_call 124; refine (c_isReference a b c ls z _ L1.out).mono ?_; rintro e w1 ⟨rfl, hb1⟩; rw [HX.out]; have B1 := Lib.hid (bst HBR.out hb1 HBR.out.size); clear hb1)
        go_roundw
        case rel => exact ⟨k + 1, by omega, by go_num, HE.out, B1.out⟩
        case measure => simp [intOf]; omega
    · have HE : Hid (refsB ls zs = true) := by
        unfold Hid
        have := ht.out
        rwa [List.take_of_length_le (by rw [HN.out]; omega)] at this
      go_wp2
      go_ret
      exact ⟨r_b HE.out.symm, BW.out⟩
theorem good_many {h : H} (k : 12 < h.f.length) : good h = false := by unfold good; rw [decide_eq_false (by omega)]; rfl
theorem good_lens {h : H} (k : h.l.length ≠ h.f.length) : good h = false := by unfold good; rw [decide_eq_false (p := h.l.length = h.f.length) k]; simp
theorem good_row {h : H} {i : Nat} (hi : i < h.f.length) (k : rowB h.l (h.l.getD i false) (h.f.getD i []) = false) : good h = false := by unfold good; rw [rowsB_false hi k]; simp
theorem good_roots {h : H} (k : 4 < h.r.length) : good h = false := by unfold good; rw [decide_eq_false (p := h.r.length ≤ 4) (by omega)]; simp
theorem good_rr {h : H} (k : refsB h.l h.r = false) : good h = false := by unfold good; rw [k]; simp
theorem good_all {h : H} (h1 : h.f.length ≤ 12) (h2 : h.l.length = h.f.length) (h3 : rowsB h.l h.f h.f.length = true) (h4 : h.r.length ≤ 4) (h5 : refsB h.l h.r = true) : good h = true := by unfold good; rw [decide_eq_true h1, decide_eq_true h2, h3, decide_eq_true h4, h5]; rfl
theorem row_dead {l : List Bool} {zs : List Int} (h : 0 < zs.length) : rowB l false zs = false := by
  cases zs with
  | nil => simp at h
  | cons z zs => simp [rowB]
theorem row_long {l : List Bool} {on : Bool} {zs : List Int} (h : 3 < zs.length) : rowB l on zs = false := by unfold rowB; rw [decide_eq_false (by omega)]; simp
theorem row_bad {l : List Bool} {on : Bool} {zs : List Int} (h : refsB l zs = false) : rowB l on zs = false := by unfold rowB; rw [h]; simp
theorem row_ok {l : List Bool} {on : Bool} {zs : List Int} (h1 : zs.length ≤ 3) (h2 : on = true ∨ ¬ 0 < zs.length) (h3 : refsB l zs = true) : rowB l on zs = true := rowB_iff.2 ⟨h1, h2.imp id (fun h => List.eq_nil_of_length_eq_zero (by omega)), h3⟩
end Go.Proofs.Ytkkigoamphkalaa
namespace Go.Proofs.Ytkkigoamphkalaa
open Go.RowKit Ph

set_option maxRecDepth 100000 in
set_option maxHeartbeats 3200000 in
theorem c_GoodHeap (a b c : Value) (h : H) (w : World) (hh : HeapAt w a b c h) : Calls Try.prog 55 #[hv a b c] w fun e w' => e = .returned (.bool (good h)) ∧ Below w.heap.size w w' := by
  obtain ⟨hF, hL, hR⟩ := hh
  have hb0 := below1 w (.cells (c3 a b c) 30)
  have HF := Lib.hid (hF.below hb0)
  have HL := Lib.hid (hL.below hb0)
  have HR := Lib.hid (hR.below hb0)
  have R0 := Lib.hid (show RowH _ _ a b c from Row.new w 30 (c3 a b c))
  have HB := Lib.hid hb0
  obtain ⟨fa, fc, rfl⟩ := hF.shape
  obtain ⟨la, lc, rfl⟩ := hL.shape
  obtain ⟨ra, rc, rfl⟩ := hR.shape
  clear hF hL hR hb0
  have HM := Lib.hid (good_many (h := h))
  have HLN := Lib.hid (good_lens (h := h))
  have HG : Hid (∀ i, i < h.f.length → rowB h.l (h.l.getD i false) (h.f.getD i []) = false → good h = false) := fun i => good_row
  have HG4 : Hid (4 < h.r.length → good h = false) := good_roots
  have HGR : Hid (refsB h.l h.r = false → good h = false) := good_rr
  have HGA := Lib.hid (good_all (h := h))
  generalize hnf : h.f.length = n at *
  generalize hnl : h.l.length = nl at *
  generalize hnr : h.r.length = nr at *
  have HNF := Lib.hid hnf; have HNR := Lib.hid hnr; have HNL := Lib.hid hnl
  clear hnf hnr hnl
  by_cases n1 : 12 < n
  · have HE := Lib.hid (HM.out n1)
    have i1 : (12 : Int) < (n : Int) := by omega
    clear HF HL HR R0
    go_enter Try.func55, Try.ntmps55
    go_wp2
    go_ret
    exact ⟨r_b HE.out.symm, HB.out⟩
  · by_cases n2 : nl = n
    · have n2' := n2.symm
      subst n2'
      clear n2
      have HGB : Hid (rowsB h.l h.f n = true → nr ≤ 4 → refsB h.l h.r = true → good h = true) := fun h3 => HGA.out (by omega) rfl h3
      clear HGA
      have i1 : ¬ (12 : Int) < (n : Int) := by omega
      have i2 : ((n : Int) != (n : Int)) = false := by simp
      go_enter Try.func55, Try.ntmps55
      go_wp2
      have hsz : (w.alloc (.cells (c3 (.slice fa n fc) (.slice la n lc) (.slice ra nr rc)) 30)).heap.size = w.heap.size + 1 := World.size_alloc _ _
      generalize (w.alloc (.cells (c3 (.slice fa n fc) (.slice la n lc) (.slice ra nr rc)) 30)) = w0 at *
      have HSZ := Lib.hid hsz; clear hsz
      go_loopw [21] (fun i wr => ∃ k : Nat, k ≤ n ∧ i = .int .i64 k ∧ Hid (rowsB h.l h.f k = true) ∧ Below w0.heap.size w0 wr) (fun i _ => n - (intOf i).toNat)
      case atStart => exact ⟨0, Nat.zero_le _, rfl, by simp [Hid, rowsB], Below.refl _ _⟩
      case round =>
        obtain ⟨k, hk, rfl, ht, hbr⟩ := hrel
        have BW := Lib.hid (bst HB.out hbr HB.out.size)
        have R1 := R0.out.below hbr
        have L1 := Lib.hid (HL.out.below hbr)
        have RR1 := Lib.hid (HR.out.below hbr)
        have c0 := R1.c0
        have c1 := R1.c1
        have c2 := R1.c2
        have HBR := Lib.hid hbr
        by_cases hlt : k < n
        · obtain ⟨gf, of, rfl, hcf⟩ := HF.out.at' (by omega)
          obtain ⟨gl, ol, rfl, hcl⟩ := HL.out.at' (by omega)
          obtain ⟨u, qf, hu⟩ := hcf k hlt
          have qf' := cellBelow hbr (Nat.le_refl _) qf
          have ql' := cellBelow hbr (Nat.le_refl _) (hcl k hlt)
          have hu' := hu.below hbr
          obtain ⟨ua, uc, rfl⟩ := hu.shape
          have HU := Lib.hid hu'
          have i3 : (k : Int) < (n : Int) := by omega
          have hg := HG.out k hlt
          have hs := rowsB_succ (l := h.l) (fs := h.f) (n := k)
          rw [ht.out, Bool.true_and] at hs
          clear hcf hcl hu hu' qf hbr R1
          generalize h.f.getD k [] = zs at *
          generalize hon : h.l.getD k false = on at *
          have HS := Lib.hid hs; have HG' := Lib.hid hg
          clear hs hg hon
          by_cases m0 : on = false ∧ 0 < zs.length
          · obtain ⟨rfl, m0⟩ := m0
            have HE := Lib.hid (HG'.out (row_dead m0))
            generalize zs.length = m at *
            have j0 : (0 : Int) < (m : Int) := by omega
            go_wp2_with fail
            go_ret
            exact ⟨r_b HE.out.symm, BW.out⟩
          · by_cases m3 : 3 < zs.length
            · have HE := Lib.hid (HG'.out (row_long m3))
              have hon : on = true := by cases on; (exfalso; apply m0; exact ⟨rfl, by omega⟩); rfl
              subst hon
              clear m0
              generalize zs.length = m at *
              have j0 : (3 : Int) < (m : Int) := by omega
              go_wp2_with fail
              go_ret
              exact ⟨r_b HE.out.symm, BW.out⟩
            · have j3 : ¬ (3 : Int) < (zs.length : Int) := by omega
              have hok := row_ok (l := h.l) (on := on) (zs := zs) (by omega) (by cases on; (right; intro h0; exact m0 ⟨rfl, h0⟩); (left; rfl))
              have hbad := row_bad (l := h.l) (on := on) (zs := zs)
              have hcall := c_areReferences (.slice (some ⟨gf, of, none⟩) n fc) (.slice (some ⟨gl, ol, none⟩) n lc) (.slice ra nr rc) _ h.l zs wr L1.out HU.out (by omega)
              generalize hx : refsB h.l zs = x at *
              have HC := Lib.hid hcall
              clear hcall
              have HX := Lib.hid hx; have HOK := Lib.hid hok; have HBAD := Lib.hid hbad
              clear hx hok hbad
              have j0 : on = false → ¬ (0 : Int) < (zs.length : Int) := fun h1 h2 => m0 ⟨h1, by omega⟩
              have J0 := Lib.hid j0
              clear m0 m3 j0
              generalize zs.length = m at *
              cases x
              · have HE := Lib.hid (HG'.out (HBAD.out rfl))
                cases on
                · have j0 := J0.out rfl
                  go_wp2_with (go_at_call 119; refine HC.out.mono ?_; rintro e w1 ⟨rfl, hb1⟩; have B1 := Lib.hid (bst BW.out hb1 BW.out.size); clear hb1)
                  go_ret
                  exact ⟨r_b HE.out.symm, B1.out⟩
                · go_wp2_with (go_at_call 119; refine HC.out.mono ?_; rintro e w1 ⟨rfl, hb1⟩; have B1 := Lib.hid (bst BW.out hb1 BW.out.size); clear hb1)
                  go_ret
                  exact ⟨r_b HE.out.symm, B1.out⟩
              · have HE : Hid (rowsB h.l h.f (k + 1) = true) := by unfold Hid; rw [HS.out]; exact HOK.out rfl
                cases on
                · have j0 := J0.out rfl
                  go_wp2_with (go_at_call 119; refine HC.out.mono ?_; rintro e w1 ⟨rfl, hb1⟩; have B1 := Lib.hid (bst HBR.out hb1 HBR.out.size); clear hb1)
                  go_roundw
                  case rel => exact ⟨k + 1, by omega, by go_num, HE.out, B1.out⟩
                  case measure => simp [intOf]; omega
                · go_wp2_with (go_at_call 119; refine HC.out.mono ?_; rintro e w1 ⟨rfl, hb1⟩; have B1 := Lib.hid (bst HBR.out hb1 HBR.out.size); clear hb1)
                  go_roundw
                  case rel => exact ⟨k + 1, by omega, by go_num, HE.out, B1.out⟩
                  case measure => simp [intOf]; omega
        · obtain rfl : k = n := by omega
          clear hbr R1
          by_cases m4 : nr ≤ 4
          · have j4 : (nr : Int) ≤ 4 := by omega
            have HM : Hid (h.r.length ≤ 9223372036854775806) := by unfold Hid; rw [HNR.out]; omega
            have hga := HGB.out ht.out m4
            have hgr := HGR.out
            have HRX := Lib.hid (c_areReferences (.slice fa k fc) (.slice la k lc) (.slice ra nr rc) (.slice ra nr rc) h.l h.r wr L1.out RR1.out HM.out)
            have HE : Hid (good h = refsB h.l h.r) := by
              unfold Hid
              cases hq : refsB h.l h.r with
              | true => exact hga hq
              | false => exact hgr hq
            clear hga hgr
            generalize refsB h.l h.r = x at *
            go_wp2_with (go_at_call 119; refine HRX.out.mono ?_; rintro e w1 ⟨rfl, hb1⟩; have B1 := Lib.hid (bst BW.out hb1 BW.out.size); clear hb1)
            go_ret
            exact ⟨r_b HE.out.symm, B1.out⟩
          · have HE := Lib.hid (HG4.out (by omega))
            have j4 : ¬ (nr : Int) ≤ 4 := by omega
            go_wp2_with fail
            go_ret
            exact ⟨r_b HE.out.symm, BW.out⟩
    · have HE := Lib.hid (HLN.out n2)
      have i2 : ((nl : Int) != (n : Int)) = true := by rw [bne_iff_ne]; omega
      have i1 : ¬ (12 : Int) < (n : Int) := by omega
      clear n2 HF HL HR R0
      go_enter Try.func55, Try.ntmps55
      go_wp2
      go_ret
      exact ⟨r_b HE.out.symm, HB.out⟩
end Go.Proofs.Ytkkigoamphkalaa
namespace Go.Proofs.Ytkkigoamphkalaa
open Go.RowKit Ph

theorem good_wt {h : H} (g : Ph.Good h) : wtH h ≤ 1000 ∧ h.l.length ≤ 12 ∧ h.r.length ≤ 4 ∧ h.f.length ≤ 12 ∧ ∀ i, i < h.f.length → (h.f.getD i []).length ≤ 3 := by
  have h1 : ∀ k, k ≤ h.f.length → sumL h.f k ≤ 3 * k := fun k => by
    induction k with
    | zero => intro _; rw [sumL_zero]; exact Nat.zero_le _
    | succ k ih =>
      intro hk
      rw [sumL_succ (by omega)]
      have := ih (by omega)
      have := (g.row k (by omega)).1
      omega
  have := h1 _ (Nat.le_refl _)
  have h2 := g.n
  have h3 := g.ll
  have h4 := g.rn
  exact ⟨by unfold wtH wt; omega, by omega, h4, h2, fun i hi => (g.row i hi).1⟩
theorem RowH.set3 {w : World} {g : Nat} {a0 b0 c0 : Value} (k : RowH w g a0 b0 c0) (a b c : Value) : RowH (((w.setCell ⟨g, 0, none⟩ a).setCell ⟨g, 1, none⟩ b).setCell ⟨g, 2, none⟩ c) g a b c := ((k.set0 a).set1 b).set2 c
theorem OwnH.set3 {w : World} {lo hi g : Nat} {a b c : Value} {h : H} {a0 b0 c0 : Value} (k : OwnH w lo hi a b c h) (hr : RowH w g a0 b0 c0) (x y z : Value) : OwnH (((w.setCell ⟨g, 0, none⟩ x).setCell ⟨g, 1, none⟩ y).setCell ⟨g, 2, none⟩ z) lo hi a b c h :=
  ((k.cellRow hr 0 x).cellRow (hr.set0 x) 1 y).cellRow ((hr.set0 x).set1 y) 2 z
theorem below_set3 {B g : Nat} {w0 w : World} (hb : Below B w0 w) (hg : B ≤ g) (x y z : Value) : Below B w0 (((w.setCell ⟨g, 0, none⟩ x).setCell ⟨g, 1, none⟩ y).setCell ⟨g, 2, none⟩ z) :=
  ((hb.setCell (p := ⟨g, 0, none⟩) hg x).setCell (p := ⟨g, 1, none⟩) hg y).setCell (p := ⟨g, 2, none⟩) hg z
theorem cell_set3 {w : World} {g g' k : Nat} {v : Value} (hn : g' ≠ g) (h : w.cell? ⟨g', k, none⟩ = some v) (x y z : Value) : (((w.setCell ⟨g, 0, none⟩ x).setCell ⟨g, 1, none⟩ y).setCell ⟨g, 2, none⟩ z).cell? ⟨g', k, none⟩ = some v := by
  rw [World.cell?_setCell_far _ _ _ _ (by simp; omega), World.cell?_setCell_far _ _ _ _ (by simp; omega), World.cell?_setCell_far _ _ _ _ (by simp; omega)]; exact h
end Go.Proofs.Ytkkigoamphkalaa
namespace Go.Proofs.Ytkkigoamphkalaa.Ph
def hasFB (h : H) (t f : Int) : Bool := liveB h.l t && decide (0 ≤ f) && decide (f < ((h.f.getD t.toNat []).length : Int))
def setFOk (h : H) (t f z : Int) : Bool := good h && hasFB h t f && refB h.l z
def setF (h : H) (t f z : Int) : H := if setFOk h t f z = true then ⟨h.f.set t.toNat ((h.f.getD t.toNat []).set f.toNat z), h.l, h.r⟩ else ⟨[], [], []⟩
theorem live_inRg {h : H} (g : Ph.Good h) {z : Int} (hz : liveB h.l z = true) : 0 ≤ z ∧ z < h.f.length := by
  have := liveB_lt hz
  rw [g.ll] at this
  exact this
theorem setF_no {h : H} {t f z : Int} (k : setFOk h t f z = false) : setF h t f z = ⟨[], [], []⟩ := by unfold setF; rw [k]; rfl
theorem setF_yes {h : H} {t f z : Int} (k : setFOk h t f z = true) : setF h t f z = ⟨h.f.set t.toNat ((h.f.getD t.toNat []).set f.toNat z), h.l, h.r⟩ := by unfold setF; rw [k]; rfl
end Go.Proofs.Ytkkigoamphkalaa.Ph
namespace Go.Proofs.Ytkkigoamphkalaa
open Go.RowKit Ph

theorem endH_no {w w' : World} {h : H} {ok : Bool} (hb : Below w.heap.size w w') (h1 : h = ⟨[], [], []⟩) (h2 : ok = false) : EndH h ok w (.returned (.tuple #[hv (.slice none 0 0) (.slice none 0 0) (.slice none 0 0), .bool false])) w' := by
  subst h1; subst h2
  exact ⟨_, _, _, rfl, OwnH.nil w' _ _, hb⟩
theorem endH_yes {w w' : World} {h h' : H} {ok : Bool} {a b c : Value} {lo hi : Nat} (hb : Below w.heap.size w w') (ho : OwnH w' lo hi a b c h') (hl : w.heap.size ≤ lo) (hi' : hi ≤ w'.heap.size) (h1 : h = h') (h2 : ok = true) : EndH h ok w (.returned (.tuple #[hv a b c, .bool true])) w' := by
  subst h1; subst h2
  exact ⟨_, _, _, rfl, ho.wide hl hi', hb⟩
end Go.Proofs.Ytkkigoamphkalaa
namespace Go.Proofs.Ytkkigoamphkalaa
open Go.RowKit Ph

theorem int_getD {zs : List Int} {j : Nat} (hj : j < zs.length) : (zs.map (Value.int .i64))[j]? = some (.int .i64 (zs.getD j 0)) := by
  rw [List.getElem?_map, List.getElem?_eq_getElem hj]; simp [List.getD, List.getElem?_eq_getElem hj]
/-- A field stored in a heap that is the call's own. -/
theorem setFld_facts {w : World} {lo R : Nat} {a b c r1 r2 r3 : Value} {h : H} (ho : OwnH w lo w.heap.size a b c h) {k j : Nat} (hk : k < h.f.length) (hj : j < (h.f.getD k []).length) (z : Int) (hR : RowH w R r1 r2 r3) :
    ∃ ga ca pb qb pc qc gr cr x, a = .slice (some ⟨ga, 0, none⟩) h.f.length ca ∧ b = .slice pb h.l.length qb ∧ c = .slice pc h.r.length qc ∧ (w.alloc (.cells (c3 a b c) 30)).cell? ⟨ga, k, none⟩ = some (.slice (some ⟨gr, 0, none⟩) (h.f.getD k []).length cr) ∧
      (w.alloc (.cells (c3 a b c) 30)).cell? ⟨gr, j, none⟩ = some x ∧ (w.alloc (.cells (c3 a b c) 30)).frozen? ⟨gr, j, none⟩ = false ∧ lo ≤ gr ∧
      RowH ((w.alloc (.cells (c3 a b c) 30)).setCell ⟨gr, j, none⟩ (.int .i64 z)) w.heap.size a b c ∧ RowH ((w.alloc (.cells (c3 a b c) 30)).setCell ⟨gr, j, none⟩ (.int .i64 z)) R r1 r2 r3 ∧
      OwnH ((w.alloc (.cells (c3 a b c) 30)).setCell ⟨gr, j, none⟩ (.int .i64 z)) lo w.heap.size a b c ⟨h.f.set k ((h.f.getD k []).set j z), h.l, h.r⟩ := by
  obtain ⟨us, hf⟩ := ho
  have hrd := hf.reads
  obtain ⟨pb, qb, hb⟩ := hrd.l.shape
  obtain ⟨pc, qc, hc⟩ := hrd.r.shape
  have F1 : FamH (w.alloc (.cells (c3 a b c) 30)) lo w.heap.size a b c us h := Fam.below hf (below1 w _)
  have RA : RowH (w.alloc (.cells (c3 a b c) 30)) w.heap.size a b c := Row.new w _ _
  have RR : RowH (w.alloc (.cells (c3 a b c) 30)) R r1 r2 r3 := Row.alloc hR _
  have hrow := F1.row hk
  rcases F1.shape with ⟨_, h0⟩ | ⟨ga, ca, ha⟩
  · rw [h0] at hk; simp at hk
  rcases hrow.shape' with ⟨_, h0⟩ | ⟨gr, cr, hu⟩
  · rw [h0] at hj; simp at hj
  have hcell := (F1.cell ha hk).1
  have hown := hrow
  unfold Own at hown
  rw [hu] at hown hcell
  obtain ⟨s1, s2⟩ := hown.stored j (.int .i64 z)
  have hbl := owns_lt hown rfl
  have hlt := Fam.blk F1 (k := k + 3) (g := gr) (by omega) (by show (us k).ownBlock = _; rw [hu]; rfl)
  have ho2 : Own ((w.alloc (.cells (c3 a b c) 30)).setCell ⟨gr, j, none⟩ (.int .i64 z)) lo (us k) ((h.f.getD k []).set j z) := by
    unfold Own; rw [hu, List.length_set, List.map_set]; exact s1
  have hn1 : gr ≠ w.heap.size := by omega
  have hn2 : gr ≠ R := owns_ne_row hown RR (by decide) rfl
  refine ⟨ga, ca, pb, qb, pc, qc, gr, cr, .int .i64 ((h.f.getD k []).getD j 0), ha, hb, hc, hcell, ?_, hown.frozenAt j, hbl.1, Row.other RA ⟨gr, j, none⟩ (by simp; omega) _, Row.other RR ⟨gr, j, none⟩ (by simp; omega) _, ⟨us, F1.setRow hk (by rw [hu]; exact s2) ho2⟩⟩
  rw [hown.cellAt j (by omega)]; exact int_getD hj
theorem hasFB_iff {h : H} {t f : Int} (hx : hasFB h t f = true) (g : Ph.Good h) : ∃ k j : Nat, t = k ∧ f = j ∧ k < h.f.length ∧ j < (h.f.getD k []).length := by
  unfold hasFB at hx
  simp only [Bool.and_eq_true, decide_eq_true_eq] at hx
  obtain ⟨⟨h1, h2⟩, h3⟩ := hx
  have h4 := live_inRg g h1
  refine ⟨t.toNat, f.toNat, by omega, by omega, by omega, by omega⟩
end Go.Proofs.Ytkkigoamphkalaa
namespace Go.Proofs.Ytkkigoamphkalaa.Ph
theorem left_mono : ∀ (S S' : List Bool), S'.length = S.length → (∀ k, S.getD k false = true → S'.getD k false = true) → left S' ≤ left S
  | [], [], _, _ => Nat.le_refl _
  | [], _ :: _, h, _ => by simp at h
  | _ :: _, [], h, _ => by simp at h
  | b :: S, b' :: S', h, hs => by
    have h1 := left_mono S S' (by simpa using h) (fun k hk => by have := hs (k + 1) (by simpa using hk); simpa using this)
    unfold left at h1 ⊢
    have h0 := hs 0
    cases b <;> cases b' <;> simp_all <;> omega
theorem Vis.left {fs : List (List Int)} {zs : List Int} {S S' : List Bool} (h : Vis fs zs S S') : left S' ≤ left S := left_mono S S' h.len h.sub
end Go.Proofs.Ytkkigoamphkalaa.Ph
namespace Go.Proofs.Ytkkigoamphkalaa
open Go.RowKit Ph

/-- The closure, its captured variables, and what it reads. -/
structure Vst (w : World) (g gr gv gh n cp lo : Nat) (a b c : Value) (S : List Bool) : Prop where
  own : OwnBs w lo (.slice (some ⟨g, 0, none⟩) n cp) S
  r : Row w gr 23 #[.slice (some ⟨g, 0, none⟩) n cp]
  v : Row w gv 149 #[.func (.func 172) #[] #[.pointer (some ⟨gr, 0, none⟩), .pointer (some ⟨gv, 0, none⟩), .pointer (some ⟨gh, 0, none⟩)]]
  h : RowH w gh a b c
theorem cellGrown {w w' : World} {g : Nat} {p : Addr} {x : Value} (hg : w.grownBy w' (some g)) (hp : p.block ≠ g) (h : w.cell? p = some x) : w'.cell? p = some x := by
  have hb := hg.block p.block (block_lt_of_cell h) (by simpa using hp)
  rw [World.cell?, hb]; exact h
theorem grown_drew (w : World) (r : Option Nat) : w.grownBy w.drew r := ⟨rfl, rfl, rfl, Nat.le_refl _, fun _ _ _ => rfl⟩
theorem OwnBs.stored {w : World} {B g n cap : Nat} {S : List Bool} (h : OwnBs w B (.slice (some ⟨g, 0, none⟩) n cap) S) (hn : S.length = n) {z : Nat} (hz : z < n) (x : Bool) : OwnBs (w.setCell ⟨g, z, none⟩ (.bool x)) B (.slice (some ⟨g, 0, none⟩) n cap) (S.set z x) ∧ w.grownBy (w.setCell ⟨g, z, none⟩ (.bool x)) (some g) ∧ w.cell? ⟨g, z, none⟩ = some (.bool (S.getD z false)) ∧ w.frozen? ⟨g, z, none⟩ = false := by
  unfold OwnBs at h
  rw [hn] at h
  obtain ⟨s1, s2⟩ := h.stored z (.bool x)
  refine ⟨?_, s2, ?_, h.frozenAt z⟩
  · unfold OwnBs
    rw [List.length_set, hn, List.map_set]
    exact s1
  · rw [h.cellAt z (by omega), List.getElem?_map, List.getElem?_eq_getElem (by omega)]
    simp [List.getD, List.getElem?_eq_getElem (show z < S.length by omega)]
theorem Vst.step {w w' : World} {g gr gv gh n cp lo : Nat} {a b c : Value} {S S' : List Bool} (k : Vst w g gr gv gh n cp lo a b c S) (hg : w.grownBy w' (some g)) (h1 : g ≠ gr) (h2 : g ≠ gv) (h3 : g ≠ gh) (ho : OwnBs w' lo (.slice (some ⟨g, 0, none⟩) n cp) S') : Vst w' g gr gv gh n cp lo a b c S' :=
  ⟨ho, Row.grownBy k.r hg (by simpa using h1), Row.grownBy k.v hg (by simpa using h2), Row.grownBy k.h hg (by simpa using h3)⟩
def inR (n : Nat) (z : Int) : Prop := z = -1 ∨ (0 ≤ z ∧ z < n)
set_option maxRecDepth 100000 in
set_option maxHeartbeats 6400000 in
theorem c_visit (W : World) (g gr gv gh n cp lo : Nat) (a b c : Value) (fs : List (List Int)) (hlo : W.heap.size ≤ g) (h1 : g ≠ gr) (h2 : g ≠ gv) (h3 : g ≠ gh) (hF : RowsAt W a fs) (hn : fs.length = n) (hn1 : n ≤ 12) (hrow : ∀ i, i < n → ∀ z ∈ fs.getD i [], inR n z) (hrl : ∀ i, i < n → (fs.getD i []).length ≤ 3) (fuel : Nat) :
    ∀ (v : Value) (zs : List Int) (S : List Bool) (w : World), left S ≤ fuel → S.length = n → IntsAt W v zs → zs.length ≤ 12 → (∀ z ∈ zs, inR n z) → Below W.heap.size W w → Vst w g gr gv gh n cp lo a b c S →
      Calls Try.prog 172 #[v, .pointer (some ⟨gr, 0, none⟩), .pointer (some ⟨gv, 0, none⟩), .pointer (some ⟨gh, 0, none⟩)] w fun e w' => e = .returned (.tuple #[]) ∧ ∃ S', Vis fs zs S S' ∧ OwnBs w' lo (.slice (some ⟨g, 0, none⟩) n cp) S' ∧ w.grownBy w' (some g) := by
  induction fuel using Nat.strongRecOn with
  | ind fuel ih =>
    intro v zs S w hleft hSn hz hzl hzr hB hV
    obtain ⟨fa, fc, rfl⟩ := hF.shape
    rw [hn] at *
    obtain ⟨va, vc, rfl⟩ := hz.shape
    have HZ := Lib.hid hz; have HZR := Lib.hid hzr; have HB := Lib.hid hB; have HV := Lib.hid hV; have HF := Lib.hid hF; have IH := Lib.hid ih; have HROW := Lib.hid hrow; have HRL := Lib.hid hrl; have HSN := Lib.hid hSn; have HFN := Lib.hid hn; have HLO := Lib.hid hlo; have HLE := Lib.hid hleft
    clear hz hzr hB hV hF ih hrow hrl hSn hn hlo hleft
    generalize hm : zs.length = m at *
    have HM := Lib.hid hm; clear hm
    go_enter Try.func172, Try.ntmps172
    go_wp2
    go_loopw [9] (fun i wr => ∃ j : Nat, j ≤ m ∧ i = .int .i64 j ∧ ∃ S', Hid (Vis fs (zs.take j) S S') ∧ Hid (Vst wr g gr gv gh n cp lo (.slice fa n fc) b c S') ∧ Hid (w.grownBy wr (some g))) (fun i _ => m - (intOf i).toNat)
    case atStart => exact ⟨0, Nat.zero_le _, rfl, S, Vis.start fs zs S, HV.out, World.grownBy.refl _ _⟩
    case round =>
      obtain ⟨j, hj, rfl, S', hvis, hvst, hgr⟩ := hrel
      by_cases hlt : j < m
      · obtain ⟨zb, zo, rfl, hc⟩ := HZ.out.at' (by omega)
        have BR : Below W.heap.size W wr := by
          have := HLO.out
          exact HB.out.grown hgr.out HB.out.size (fun k hk => by cases hk; omega)
        have q := cellBelow BR (Nat.le_refl _) (hc j hlt)
        have hjl : j < zs.length := by rw [HM.out]; exact hlt
        have hin := HZR.out (zs.getD j 0) (by rw [List.getD, List.getElem?_eq_getElem hjl]; exact List.getElem_mem hjl)
        have hSl : S'.length = n := by rw [hvis.out.len, HSN.out]
        have cr := hvst.out.r.cell 0
        have i1 : (j : Int) < (m : Int) := by omega
        have HJL := Lib.hid hjl
        clear hc
        generalize hzj : zs.getD j 0 = z at *
        have HZJ := Lib.hid hzj
        clear hzj hjl
        by_cases z1 : z = -1
        · subst z1
          have HE : Hid (Vis fs (zs.take (j + 1)) S S') := hvis.out.skip HJL.out (.inl HZJ.out)
          clear hin
          go_wp2_with fail
          go_roundw
          case rel => exact ⟨j + 1, by omega, by go_num, S', HE, hvst, hgr⟩
          case measure => simp [intOf]; omega
        · obtain ⟨t, rfl⟩ : ∃ t : Nat, z = t := ⟨z.toNat, by rcases hin with h | h <;> omega⟩
          have htn : t < n := by rcases hin with h | h <;> omega
          obtain ⟨s1, s2, s3, s4⟩ := hvst.out.own.stored hSl htn true
          have i2 : ((t : Int) == -1) = false := by simp
          have i3 : (t : Int) < (n : Int) := by omega
          have i4 : (0 : Int) ≤ (t : Int) := by omega
          generalize hx : S'.getD t false = x at *
          have HX := Lib.hid hx
          clear hin z1 hx
          cases x
          · have hls := left_set (S := S') (z := t) (by omega) HX.out
            have hlm := hvis.out.left
            have V1 := hvst.out.step s2 h1 h2 h3 s1
            obtain ⟨fb, fo, rfl, hcf⟩ := HF.out.at' (by omega)
            obtain ⟨u, quf, huf⟩ := hcf t htn
            have B1 : Below W.heap.size W (wr.setCell ⟨g, t, none⟩ (.bool true)) := BR.setCell (p := ⟨g, t, none⟩) (by have := HLO.out; exact this) (.bool true)
            have qu := cellBelow B1 (Nat.le_refl _) quf
            have IHC := IH.out (left (S'.set t true)) (by have := HLE.out; omega) u (fs.getD t []) (S'.set t true)
            have HC : Hid (∀ w', Below W.heap.size W w' → Vst w' g gr gv gh n cp lo (.slice (some ⟨fb, fo, none⟩) n fc) b c (S'.set t true) → Calls Try.prog 172 #[u, .pointer (some ⟨gr, 0, none⟩), .pointer (some ⟨gv, 0, none⟩), .pointer (some ⟨gh, 0, none⟩)] w' fun e w'' => e = .returned (.tuple #[]) ∧ ∃ S2, Vis fs (fs.getD t []) (S'.set t true) S2 ∧ OwnBs w'' lo (.slice (some ⟨g, 0, none⟩) n cp) S2 ∧ w'.grownBy w'' (some g)) := fun w' hb hv =>
              IHC w' (Nat.le_refl _) (by rw [List.length_set]; exact hSl) huf (by have := HRL.out t htn; omega) (HROW.out t htn) hb hv
            obtain ⟨ua, uc, hu⟩ := huf.shape
            subst hu
            have HV1 := Lib.hid V1; have HB1 := Lib.hid B1; have HS2 := Lib.hid s2; have HSL := Lib.hid hSl
            clear hls hlm V1 hcf huf B1 IHC s1 s2 hSl
            generalize (fs.getD t []).length = ul at *
            have hfb : fb ≠ g := by have h1 := block_lt_of_cell quf; have h2 := HLO.out; simp only at h1; omega
            clear quf
            go_wp2_with fail
            generalize (wr.setCell ⟨g, t, none⟩ (.bool true)) = cur at *
            have cv : cur.drew.cell? ⟨gv, 0, none⟩ = some (.func (.func 172) #[] #[.pointer (some ⟨gr, 0, none⟩), .pointer (some ⟨gv, 0, none⟩), .pointer (some ⟨gh, 0, none⟩)]) := HV1.out.v.cell 0
            have ch : cur.drew.cell? ⟨gh, 0, none⟩ = some (.slice (some ⟨fb, fo, none⟩) n fc) := HV1.out.h.c0
            replace qu : cur.drew.cell? ⟨fb, fo + t, none⟩ = some (.slice ua ul uc) := qu
            have BD := grown_drew cur (some g)
            have BW : Hid (Below W.heap.size W cur.drew) := below_drew HB1.out
            have VD : Hid (Vst cur.drew g gr gv gh n cp lo (.slice (some ⟨fb, fo, none⟩) n fc) b c (S'.set t true)) := ⟨HV1.out.own, HV1.out.r, HV1.out.v, HV1.out.h⟩
            have k1 := Lib.hid (Ne.symm h2); have k2 := Lib.hid (Ne.symm h3); have k3 := Lib.hid hfb
            go_region_held3 (fun w' => w'.cell? ⟨gv, 0, none⟩ = some (.func (.func 172) #[] #[.pointer (some ⟨gr, 0, none⟩), .pointer (some ⟨gv, 0, none⟩), .pointer (some ⟨gh, 0, none⟩)]) ∧ w'.cell? ⟨gh, 0, none⟩ = some (.slice (some ⟨fb, fo, none⟩) n fc) ∧ w'.cell? ⟨fb, fo + t, none⟩ = some (.slice ua ul uc) ∧ cur.grownBy w' (some g))
              (first
                | (with_reducible exact ⟨cv, ch, qu, BD⟩)
                | (go_split_ands
                   exact ⟨cellGrown hbk k1.out (by assumption), cellGrown hbk k2.out (by assumption), cellGrown hbk k3.out (by assumption), grownBy_trans (by assumption) hbk⟩)
                | (go_split_ands; refine ⟨?_, ?_, ?_, ?_⟩ <;> assumption))
              (first
                | (go_at_call 172; refine (HC.out _ BW.out VD.out).mono ?_; rintro e w6 ⟨rfl, S2, hvis2, hown2, hbk⟩))
            have hg6 : cur.grownBy w6 (some g) := by go_split_ands; assumption
            have HE : Hid (Vis fs (zs.take (j + 1)) S S2) := hvis.out.down HJL.out HZJ.out (by rw [HSL.out]; exact htn) HX.out hvis2
            have HG6 : Hid (w.grownBy w6 (some g)) := grownBy_trans (grownBy_trans hgr.out HS2.out) hg6
            have HV6 : Hid (Vst w6 g gr gv gh n cp lo (.slice (some ⟨fb, fo, none⟩) n fc) b c S2) := HV1.out.step hg6 h1 h2 h3 hown2
            clear hg6 hown2 hvis2 cv ch qu BD BW VD
            go_wp2_with fail
            go_roundw
            case rel => exact ⟨j + 1, by omega, by go_num, S2, HE, HV6, HG6⟩
            case measure => simp [intOf]; omega
          · have HE : Hid (Vis fs (zs.take (j + 1)) S S') := hvis.out.skip HJL.out (.inr (by rw [HZJ.out]; simpa using HX.out))
            go_wp2_with fail
            go_roundw
            case rel => exact ⟨j + 1, by omega, by go_num, S', HE, hvst, hgr⟩
            case measure => simp [intOf]; omega
      · obtain rfl : j = m := by omega
        have HE : Hid (zs.take j = zs) := List.take_of_length_le (by rw [HM.out]; exact Nat.le_refl _)
        go_wp2_with fail
        go_end0
        exact ⟨rfl, S', by rw [← HE.out]; exact hvis.out, hvst.out.own, hgr.out⟩
end Go.Proofs.Ytkkigoamphkalaa
namespace Go.Proofs.Ytkkigoamphkalaa
open Go.RowKit Ph

theorem rep_bools (n : Nat) : (madeCells (Value.bool false).cells (n * 1)).toList = (List.replicate n false).map Value.bool := by
  rw [Nat.mul_one, show (Value.bool false).cells = #[.bool false] from rfl, toList_madeCells_one, List.map_replicate]
theorem grownB_of {w w' : World} (h : Below w.heap.size w w') (r : Option Nat) : w.grownBy w' r := ⟨h.os, h.tape, h.output, h.size, fun i hi _ => h.block i hi⟩
set_option maxRecDepth 100000 in
set_option maxHeartbeats 3200000 in
theorem c_reachMore (W : World) (g n cp lo : Nat) (a b c v : Value) (h : H) (zs : List Int) (S : List Bool) (w : World) (hA : HeapAt W a b c h) (hG : Ph.Good h) (hz : IntsAt W v zs) (hzl : zs.length ≤ 12) (hzr : ∀ z ∈ zs, inR h.f.length z) (hB : Below W.heap.size W w) (hlo : W.heap.size ≤ g) (hn : h.f.length = n) (hSn : S.length = n) (hS : OwnBs w lo (.slice (some ⟨g, 0, none⟩) n cp) S) :
    Calls Try.prog 141 #[hv a b c, .slice (some ⟨g, 0, none⟩) n cp, v] w fun e w' => e = .returned (.tuple #[]) ∧ ∃ S', Vis h.f zs S S' ∧ OwnBs w' lo (.slice (some ⟨g, 0, none⟩) n cp) S' ∧ w.grownBy w' (some g) := by
  have hrow : ∀ i, i < h.f.length → ∀ z ∈ h.f.getD i [], inR h.f.length z := fun i _ z hz => (hG.field hz).imp id (fun h => ⟨h.1, h.2.1⟩)
  have hrl : ∀ i, i < h.f.length → (h.f.getD i []).length ≤ 3 := fun i hi => (hG.row i hi).1
  have hn1 := hG.n
  have hll := hG.ll
  obtain ⟨la, lc, rfl⟩ := hA.l.shape
  rw [hll]
  have HF := Lib.hid hA.f; have HZ := Lib.hid hz; have HR := Lib.hid hrow; have HRL := Lib.hid hrl; have HZR := Lib.hid hzr
  clear hA hG hz hrow hrl hzr hll
  subst hn
  generalize hn : h.f.length = n at *
  have HN := Lib.hid hn; clear hn
  have hgw : g < w.heap.size := (owns_lt (g := g) hS rfl).2
  have b3 := ((below1 w (.cells (c3 a (.slice la n lc) c) 30)).alloc (by simp) (.cells #[.slice (some ⟨g, 0, none⟩) n cp] 23)).alloc (by simp; omega) (.cells #[.func (.func 172) #[] #[.pointer (some ⟨w.heap.size + 1, 0, none⟩), .pointer (some ⟨w.heap.size + 1 + 1, 0, none⟩), .pointer (some ⟨w.heap.size, 0, none⟩)]] 149)
  have hV : Vst (((w.alloc (.cells (c3 a (.slice la n lc) c) 30)).alloc (.cells #[.slice (some ⟨g, 0, none⟩) n cp] 23)).alloc (.cells #[.func (.func 172) #[] #[.pointer (some ⟨w.heap.size + 1, 0, none⟩), .pointer (some ⟨w.heap.size + 1 + 1, 0, none⟩), .pointer (some ⟨w.heap.size, 0, none⟩)]] 149)) g (w.heap.size + 1) (w.heap.size + 1 + 1) w.heap.size n cp lo a (.slice la n lc) c S := ⟨OwnBs.below hS b3, (Row.new1 w (.cells (c3 a (.slice la n lc) c) 30) 23 #[.slice (some ⟨g, 0, none⟩) n cp]).alloc (.cells #[.func (.func 172) #[] #[.pointer (some ⟨w.heap.size + 1, 0, none⟩), .pointer (some ⟨w.heap.size + 1 + 1, 0, none⟩), .pointer (some ⟨w.heap.size, 0, none⟩)]] 149), Row.new2 w (.cells (c3 a (.slice la n lc) c) 30) (.cells #[.slice (some ⟨g, 0, none⟩) n cp] 23) 149 _, ((Row.new w 30 (c3 a (.slice la n lc) c)).alloc (.cells #[.slice (some ⟨g, 0, none⟩) n cp] 23)).alloc (.cells #[.func (.func 172) #[] #[.pointer (some ⟨w.heap.size + 1, 0, none⟩), .pointer (some ⟨w.heap.size + 1 + 1, 0, none⟩), .pointer (some ⟨w.heap.size, 0, none⟩)]] 149)⟩
  have VV := Lib.hid hV
  have BB := Lib.hid (bst hB b3 hB.size)
  have G3 := Lib.hid (grownB_of b3 (some g))
  have HSN := Lib.hid hSn
  have HLO := Lib.hid hlo
  clear hV hB b3 hS hlo hSn
  go_enter Try.func141, Try.ntmps141
  go_wp2_with fail
  refine (c_visit W g (w.heap.size + 1) (w.heap.size + 1 + 1) w.heap.size n cp lo a (.slice la n lc) c h.f HLO.out (by omega) (by omega) (by omega) HF.out HN.out hn1 HR.out HRL.out _ v zs S _ (Nat.le_refl _) HSN.out HZ.out hzl HZR.out BB.out VV.out).mono ?_
  rintro e w4 ⟨rfl, S', hvis, hown, hgr⟩
  have O4 := Lib.hid hown; have V4 := Lib.hid hvis; have G4 := Lib.hid (grownBy_trans G3.out hgr)
  clear hgr hown hvis
  go_wp2_with fail
  go_end0
  exact ⟨rfl, S', V4.out, O4.out, G4.out⟩
set_option maxRecDepth 100000 in
set_option maxHeartbeats 3200000 in
theorem c_reachedOver (a b c v : Value) (h : H) (zs : List Int) (w : World) (hA : HeapAt w a b c h) (hG : Ph.Good h) (hz : IntsAt w v zs) (hzl : zs.length ≤ 12) (hzr : ∀ z ∈ zs, inR h.f.length z) :
    Calls Try.prog 84 #[hv a b c, v] w fun e w' => ∃ v', e = .returned v' ∧ OwnBs w' w.heap.size v' (reachL h.f zs) ∧ Below w.heap.size w w' := by
  obtain ⟨i0, hi, hz0, hz1, hz2⟩ := info_parts info_boolz
  have hn1 := hG.n
  have hll := hG.ll
  have CM := Lib.hid (fun (g : Nat) (w' : World) (S : List Bool) hb hg hs ho => c_reachMore w g h.f.length h.f.length w.heap.size a b c v h zs S w' hA hG hz hzl hzr hb hg rfl hs ho)
  obtain ⟨la, lc, rfl⟩ := hA.l.shape
  rw [hll] at *
  have hb0 := Lib.hid (below1 w (.cells (c3 a (.slice la h.f.length lc) c) 30))
  have R0 := Lib.hid (show RowH _ _ a (.slice la h.f.length lc) c from Row.new w 30 (c3 a (.slice la h.f.length lc) c))
  have VD := Lib.hid (fun (S : List Bool) (q : Vis h.f zs (List.replicate h.f.length false) S) => q.done)
  clear hA hG hz hzr hll
  generalize h.f.length = n at *
  go_enter Try.func84, Try.ntmps84
  go_wp2_with (first
    | (at_make; refine wpList_make_full _ rfl _ _ 23 rfl w.heap.size 4 i0 (.bool false) 1 Try.underlying23 hi hz0 hz1 .i64 .i64 _ _ n rfl rfl rfl rfl (by rw [hz2]; omega) (by unfold maxLen; omega) (by simp) ?_; intro w1 hown hgr
       rw [rep_bools] at hown
       have hsz0 : (w.alloc (.cells (c3 a (.slice la n lc) c) 30)).heap.size = w.heap.size + 1 := by simp
       rw [hsz0] at hown
       have O1 : Hid (OwnBs w1 w.heap.size (.slice (some ⟨w.heap.size + 1, 0, none⟩) n n) (List.replicate n false)) := (by { unfold Hid OwnBs; rw [List.length_replicate]; exact hown })
       have B1 := Lib.hid (hb0.out.grown hgr hb0.out.size (fun k hk => by cases hk))
       have rr : RowH w1 w.heap.size a (.slice la n lc) c := Row.grown R0.out hgr
       have q0 := rr.c0; have q1 := rr.c1; have q2 := rr.c2
       clear hown hgr hsz0 rr))
  clear q0 q1 q2
  refine (CM.out (w.heap.size + 1) _ (List.replicate n false) B1.out (by omega) (by simp) O1.out).mono ?_
  rintro e w4 ⟨rfl, S', hvis, hown, hgr⟩
  have O4 := Lib.hid hown; have V4 := Lib.hid (VD.out S' hvis); have B4 := Lib.hid (B1.out.grown hgr B1.out.size (fun k hk => by cases hk; omega))
  clear hown hvis hgr
  go_wp2_with fail
  go_ret
  exact ⟨_, rfl, by rw [← V4.out]; exact O4.out, B4.out⟩
end Go.Proofs.Ytkkigoamphkalaa
namespace Go.Proofs.Ytkkigoamphkalaa.Ph
noncomputable def reachR (h : H) : List Bool := if good h = true then reachL h.f h.r else []
theorem reachR_no {h : H} (k : good h = false) : reachR h = [] := by unfold reachR; rw [k]; rfl
theorem reachR_yes {h : H} (k : good h = true) : reachR h = reachL h.f h.r := by unfold reachR; rw [k]; rfl
end Go.Proofs.Ytkkigoamphkalaa.Ph
namespace Go.Proofs.Ytkkigoamphkalaa
open Go.RowKit Ph

theorem endB_no {w w' : World} {bs : List Bool} {ok : Bool} (hb : Below w.heap.size w w') (h1 : bs = []) (h2 : ok = false) : EndB bs ok w (.returned (.tuple #[.slice none 0 0, .bool false])) w' := by
  subst h1; subst h2
  exact ⟨_, rfl, OwnH.nil w' _ _, hb⟩
theorem endB_yes {w w' : World} {bs bs' : List Bool} {ok : Bool} {v : Value} {B : Nat} (hb : Below w.heap.size w w') (ho : OwnBs w' B v bs') (hB : w.heap.size ≤ B) (h1 : bs = bs') (h2 : ok = true) : EndB bs ok w (.returned (.tuple #[v, .bool true])) w' := by
  subst h1; subst h2
  exact ⟨_, rfl, OwnH.ofBools (owns_mono ho fun g hg => Nat.le_trans hB (owns_lt ho hg).1) hb.size, hb⟩
set_option maxHeartbeats 1600000 in
theorem c_ReachedIn (a b c : Value) (h : H) (w : World) (hA : HeapAt w a b c h) : Calls Try.prog 17 #[hv a b c] w (EndB (reachR h) (good h) w) := by
  have hb0 := below1 w (.cells (c3 a b c) 30)
  have A0 := Lib.hid (hA.below hb0)
  have HB := Lib.hid hb0
  have R0 := Lib.hid (show RowH _ _ a b c from Row.new w 30 (c3 a b c))
  clear hA hb0
  have HC := Lib.hid (c_GoodHeap a b c h _ A0.out)
  generalize hg : good h = x at *
  have HX := Lib.hid hg
  clear hg
  have c0 := R0.out.c0
  have c1 := R0.out.c1
  have c2 := R0.out.c2
  cases x
  · have HE := Lib.hid (reachR_no HX.out)
    go_enter Try.func17, Try.ntmps17
    go_wp2_with (go_at_call 55; refine HC.out.mono ?_; rintro e w1 ⟨rfl, hb1⟩; have B1 := Lib.hid (bst HB.out hb1 HB.out.size); clear hb1)
    go_ret2
    exact endB_no B1.out HE.out rfl
  · have HE := Lib.hid (reachR_yes HX.out)
    have G := Lib.hid (good_iff.1 HX.out)
    go_enter Try.func17, Try.ntmps17
    go_wp2_with (go_at_call 55; refine HC.out.mono ?_; rintro e w1 ⟨rfl, hb1⟩; have B1 := Lib.hid (bst HB.out hb1 HB.out.size); have A1 := Lib.hid (A0.out.below hb1); have R1 := R0.out.below hb1; have d0 := R1.c0; have d1 := R1.c1; have d2 := R1.c2; clear hb1 R1)
    refine (c_reachedOver a b c c h h.r _ A1.out G.out A1.out.r (by have := G.out.rn; omega) (fun z hz => (refs_bound G.out G.out.rr z hz).imp id (fun h => ⟨h.1, h.2.1⟩))).mono ?_
    rintro e w2 ⟨v', rfl, ho2, hb2⟩
    have B2 := Lib.hid (bst B1.out hb2 B1.out.size); have O2 := Lib.hid ho2
    clear hb2 ho2
    go_wp2_with fail
    go_ret2
    exact endB_yes B2.out O2.out B1.out.size HE.out rfl
end Go.Proofs.Ytkkigoamphkalaa
namespace Go.Proofs.Ytkkigoamphkalaa.Ph
def keepStep (ks : List Bool) (p : H × Nat) (j : Nat) : H × Nat := if (p.1.l.getD j false && !ks.getD j false) = true then (⟨p.1.f.set j [], p.1.l.set j false, p.1.r⟩, p.2 + 1) else p
def keepTo (h : H) (ks : List Bool) : Nat → H × Nat
  | 0 => (h, 0)
  | j + 1 => keepStep ks (keepTo h ks j) j
theorem keepTo_len (h : H) (ks : List Bool) (j : Nat) : (keepTo h ks j).1.f.length = h.f.length ∧ (keepTo h ks j).1.l.length = h.l.length ∧ (keepTo h ks j).1.r = h.r ∧ (keepTo h ks j).2 ≤ j := by
  induction j with
  | zero => exact ⟨rfl, rfl, rfl, Nat.le_refl _⟩
  | succ j ih =>
    simp only [keepTo, keepStep]
    split
    · simp only [List.length_set]; exact ⟨ih.1, ih.2.1, ih.2.2.1, by omega⟩
    · exact ⟨ih.1, ih.2.1, ih.2.2.1, by omega⟩
theorem keepTo_yes {h : H} {ks : List Bool} {j : Nat} (h1 : (keepTo h ks j).1.l.getD j false = true) (h2 : ks.getD j false = false) : keepTo h ks (j + 1) = (⟨(keepTo h ks j).1.f.set j [], (keepTo h ks j).1.l.set j false, (keepTo h ks j).1.r⟩, (keepTo h ks j).2 + 1) := by
  simp only [keepTo, keepStep]; rw [h1, h2]; rfl
theorem keepTo_no {h : H} {ks : List Bool} {j : Nat} (h1 : (keepTo h ks j).1.l.getD j false = false ∨ ks.getD j false = true) : keepTo h ks (j + 1) = keepTo h ks j := by
  simp only [keepTo, keepStep]
  rcases h1 with h1 | h1
  · rw [h1]; rfl
  · rw [h1]; simp
end Go.Proofs.Ytkkigoamphkalaa.Ph
namespace Go.Proofs.Ytkkigoamphkalaa
open Go.RowKit Ph

theorem putNil {w : World} {lo hi : Nat} {a b c : Value} {h : H} (k : OwnH w lo hi a b c h) {j : Nat} (hj : j < h.f.length) : ∃ ga ca x, a = .slice (some ⟨ga, 0, none⟩) h.f.length ca ∧ w.cell? ⟨ga, j, none⟩ = some x ∧ w.frozen? ⟨ga, j, none⟩ = false ∧ OwnH (w.setCell ⟨ga, j, none⟩ (.slice none 0 0)) lo hi a b c ⟨h.f.set j [], h.l, h.r⟩ ∧ Chg lo hi w (w.setCell ⟨ga, j, none⟩ (.slice none 0 0)) := by
  obtain ⟨us, hf⟩ := k
  rcases hf.shape with ⟨_, h0⟩ | ⟨ga, ca, ha⟩
  · rw [h0] at hj; simp at hj
  obtain ⟨c1, f1⟩ := hf.cell ha hj
  obtain ⟨s1, s2⟩ := hf.putRow hj (Own.nil w lo) (Nat.le_refl _) (fun g hg => by cases hg) ha
  exact ⟨ga, ca, _, ha, c1, f1, ⟨_, s1⟩, Chg.of_grown s2 fun g hg => by
    cases hg
    have := Fam.blk hf (k := 0) (g := ga) (by omega) (by show a.ownBlock = _; rw [ha]; rfl)
    exact ⟨this.1, this.2.1⟩⟩
theorem putLiveB {w : World} {lo hi : Nat} {a b c : Value} {h : H} (k : OwnH w lo hi a b c h) {j : Nat} (hj : j < h.l.length) (x : Bool) : ∃ gb cb, b = .slice (some ⟨gb, 0, none⟩) h.l.length cb ∧ w.cell? ⟨gb, j, none⟩ = some (.bool (h.l.getD j false)) ∧ w.frozen? ⟨gb, j, none⟩ = false ∧ OwnH (w.setCell ⟨gb, j, none⟩ (.bool x)) lo hi a b c ⟨h.f, h.l.set j x, h.r⟩ ∧ Chg lo hi w (w.setCell ⟨gb, j, none⟩ (.bool x)) := by
  obtain ⟨us, hf⟩ := k
  have hl := hf.live
  rcases hl.shape with ⟨_, h0⟩ | ⟨gb, cb, hb⟩
  · rw [h0] at hj; simp at hj
  have hl2 := hl
  rw [hb] at hl2
  obtain ⟨s1, s2, s3, s4⟩ := hl2.stored rfl hj x
  exact ⟨gb, cb, hb, s3, s4, ⟨us, hf.setLive (by rw [hb]; exact s2) (by rw [hb]; exact s1)⟩, Chg.of_grown s2 fun g hg => by
    cases hg
    have := Fam.blk hf (k := 1) (g := gb) (by omega) (by show b.ownBlock = _; rw [hb]; rfl)
    exact ⟨this.1, this.2.1⟩⟩
theorem OwnBs.chg {w w' : World} {B lo hi : Nat} {v : Value} {bs : List Bool} (h : OwnBs w B v bs) (hc : Chg lo hi w w') (hd : hi ≤ B) : OwnBs w' B v bs := owns_block h fun g hg => by have := owns_lt h hg; exact hc.block g this.2 (.inr (by omega))
end Go.Proofs.Ytkkigoamphkalaa
namespace Go.Proofs.Ytkkigoamphkalaa.Ph
noncomputable def cleanP (h : H) : H × Nat := if good h = true then keepTo h (reachL h.f h.r) h.f.length else (⟨[], [], []⟩, 0)
theorem cleanP_no {h : H} (k : good h = false) : cleanP h = (⟨[], [], []⟩, 0) := by unfold cleanP; rw [k]; rfl
theorem cleanP_yes {h : H} (k : good h = true) : cleanP h = keepTo h (reachL h.f h.r) h.f.length := by unfold cleanP; rw [k]; rfl
theorem keepTo_rows {h : H} {ks : List Bool} (hr : ∀ i, i < h.f.length → (h.f.getD i []).length ≤ 3) (j : Nat) : ∀ i, i < h.f.length → ((keepTo h ks j).1.f.getD i []).length ≤ 3 := by
  induction j with
  | zero => exact hr
  | succ j ih =>
    intro i hi
    simp only [keepTo, keepStep]
    split
    · simp only
      by_cases hj : j < (keepTo h ks j).1.f.length
      · rw [getD_setL hj]
        by_cases e : i = j
        · rw [if_pos e]; simp
        · rw [if_neg e]; exact ih i hi
      · rw [List.set_eq_of_length_le (by omega)]; exact ih i hi
    · exact ih i hi
end Go.Proofs.Ytkkigoamphkalaa.Ph
namespace Go.Proofs.Ytkkigoamphkalaa
open Go.RowKit Ph

theorem endHI_no {w w' : World} {h : H} {n : Int} {ok : Bool} (hb : Below w.heap.size w w') (h1 : h = ⟨[], [], []⟩) (h2 : n = 0) (h3 : ok = false) : EndHI h n ok w (.returned (.tuple #[hv (.slice none 0 0) (.slice none 0 0) (.slice none 0 0), .int .i64 0, .bool false])) w' := by
  subst h1; subst h2; subst h3
  exact ⟨_, _, _, rfl, OwnH.nil w' _ _, hb⟩
theorem endHI_yes {w w' : World} {h h' : H} {n n' : Int} {ok : Bool} {a b c : Value} {lo hi : Nat} (hb : Below w.heap.size w w') (ho : OwnH w' lo hi a b c h') (hl : w.heap.size ≤ lo) (hi' : hi ≤ w'.heap.size) (h1 : h = h') (h2 : n = n') (h3 : ok = true) : EndHI h n ok w (.returned (.tuple #[hv a b c, .int .i64 n', .bool true])) w' := by
  subst h1; subst h2; subst h3
  exact ⟨_, _, _, rfl, ho.wide hl hi', hb⟩
theorem res_row_slot2 {P : Program} {fn : Func} {p q r : Tmp} {ty : TypeId} (h : fn.results = #[.cell p ty, .tmp q, .tmp r]) {tmps : Array Value} {w : World} {g : Nat} {t : TypeId} {cs : Array Value} {d : TypeDesc} {v u : Value} (hg : Row w g t cs)
    (hp : tmps.getD p undef = .pointer (some ⟨g, 0, none⟩)) (hq : tmps.getD q undef = v) (hr : tmps.getD r undef = u) (hu : P.underlying ty = some d) (hd : (match d with | .struct _ | .array _ _ => true | _ => false) = true) (hi : (P.info? ty).map (·.size) = some cs.size) :
    (results fn tmps).run P w = .ok (.tuple #[.agg cs, v, u]) w := by
  have hp' : tmps[p]?.getD undef = .pointer (some ⟨g, 0, none⟩) := by simpa using hp
  have hq' : tmps[q]?.getD undef = v := by simpa using hq
  have hr' : tmps[r]?.getD undef = u := by simpa using hr
  simp [results, h, hp', hq', hr', asAddr, run_loadVar_row w g t ty cs (0, 0) d hg hu hd hi]
end Go.Proofs.Ytkkigoamphkalaa
namespace Go.Proofs.Ytkkigoamphkalaa
open Go.RowKit Ph

set_option maxHeartbeats 800000 in
theorem s_l1In (z lo hi : Int) (w : World) : Calls Try.prog 126 #[.int .i64 z, .int .i64 lo, .int .i64 hi] w fun e w' => e = .returned (.bool (decide (lo ≤ z) && decide (z ≤ hi))) ∧ w = w' := by
  generalize hx : (decide (lo ≤ z) && decide (z ≤ hi)) = x
  by_cases h1 : lo ≤ z
  · by_cases h2 : z ≤ hi
    · have HE : Hid (x = true) := by unfold Hid; rw [← hx]; simp [h1, h2]
      clear hx
      go_enter Try.func126, Try.ntmps126
      go_wp2
      go_ret
      exact ⟨r_b HE.out.symm, rfl⟩
    · have HE : Hid (x = false) := by unfold Hid; rw [← hx]; simp [h2]
      clear hx
      go_enter Try.func126, Try.ntmps126
      go_wp2
      go_ret
      exact ⟨r_b HE.out.symm, rfl⟩
  · have HE : Hid (x = false) := by unfold Hid; rw [← hx]; simp [h1]
    clear hx
    go_enter Try.func126, Try.ntmps126
    go_wp2
    go_ret
    exact ⟨r_b HE.out.symm, rfl⟩
theorem in_yes {z lo hi : Int} (h1 : lo ≤ z) (h2 : z ≤ hi) : (decide (lo ≤ z) && decide (z ≤ hi)) = true := by simp [h1, h2]
theorem in_lo {z lo hi : Int} (h1 : z < lo) : (decide (lo ≤ z) && decide (z ≤ hi)) = false := by simp; omega
theorem in_hi {z lo hi : Int} (h1 : hi < z) : (decide (lo ≤ z) && decide (z ≤ hi)) = false := by simp; omega
theorem s_l1In_yes (z lo hi : Int) (w : World) (h1 : lo ≤ z) (h2 : z ≤ hi) : Calls Try.prog 126 #[.int .i64 z, .int .i64 lo, .int .i64 hi] w fun e w' => e = .returned (.bool true) ∧ w = w' :=
  (s_l1In z lo hi w).mono fun _ _ ⟨he, hw⟩ => ⟨he.trans (r_b (in_yes h1 h2)), hw⟩
theorem s_l1In_no (z lo hi : Int) (w : World) (h : z < lo ∨ hi < z) : Calls Try.prog 126 #[.int .i64 z, .int .i64 lo, .int .i64 hi] w fun e w' => e = .returned (.bool false) ∧ w = w' :=
  (s_l1In z lo hi w).mono fun _ _ ⟨he, hw⟩ => ⟨he.trans (r_b (h.elim in_lo in_hi)), hw⟩
set_option maxHeartbeats 1600000 in
theorem s_l5Names (b v : Value) (ls : List Bool) (zs : List Int) (w : World) (hl : BoolsAt w b ls) (hz : IntsAt w v zs) (hm : zs.length ≤ 9223372036854775806) (hml : ls.length ≤ 9223372036854775806) : Calls Try.prog 88 #[b, v] w fun e w' => e = .returned (.bool (refsB ls zs)) ∧ w = w' := by
  have HL := Lib.hid hl
  obtain ⟨ba, bc, rfl⟩ := hl.shape
  obtain ⟨va, vc, rfl, hA⟩ := hz
  have HA := Lib.hid hA
  clear hl hA
  generalize hn : zs.length = n at *
  generalize hnl : ls.length = nl at *
  have HN := Lib.hid hn; have HNL := Lib.hid hnl; clear hn hnl
  go_enter Try.func88, Try.ntmps88
  go_wp2
  go_loop [9] (fun i => ∃ k : Nat, k ≤ n ∧ i = .int .i64 k ∧ Hid (refsB ls (zs.take k) = true)) (fun i => n - (intOf i).toNat)
  case atStart => exact ⟨0, Nat.zero_le _, rfl, by simp [Hid, refsB]⟩
  case round =>
    obtain ⟨k, hk, rfl, ht⟩ := hrel
    by_cases hlt : k < n
    · obtain ⟨g, off, rfl, hc⟩ := HA.out (by omega)
      have q := hc k hlt
      have i1 : (k : Int) < (n : Int) := by omega
      have hs := refsB_take_succ (l := ls) (zs := zs) (k := k) (by rw [HN.out]; exact hlt)
      have hf := refsB_false (l := ls) (zs := zs) (k := k) (by rw [HN.out]; exact hlt)
      have HS := Lib.hid hs; have HF := Lib.hid hf
      clear hc hs hf
      generalize zs.getD k 0 = z at *
      by_cases z1 : z < -1 ∨ (nl : Int) - 1 < z
      · have HE : Hid (refsB ls zs = false) := HF.out (by
          cases hq : refB ls z with
          | false => rfl
          | true =>
            rcases refB_iff.1 hq with h1 | h1
            · have := HNL.out; omega
            · have := liveB_lt h1; have := HNL.out; omega)
        have Z1 := Lib.hid z1
        clear z1 HS HF
        go_wp2_with (go_at_call 126; refine (s_l1In_no z (-1) (nl - 1) _ Z1.out).mono ?_; rintro e w1 ⟨rfl, rfl⟩)
        go_ret
        exact ⟨r_b HE.out.symm, rfl⟩
      · have Z1 : Hid (-1 ≤ z ∧ z ≤ (nl : Int) - 1) := ⟨by omega, by omega⟩
        by_cases z0 : z < 0
        · have HE : Hid (refsB ls (zs.take (k + 1)) = true) := by
            unfold Hid; rw [HS.out, ht.out, refB_iff.2 (.inl (by omega))]; rfl
          have i2 : ¬ 0 ≤ z := by omega
          clear z1 HS HF
          go_wp2_with (go_at_call 126; refine (s_l1In_yes z (-1) (nl - 1) _ Z1.out.1 Z1.out.2).mono ?_; rintro e w1 ⟨rfl, rfl⟩)
          go_round
          case rel => exact ⟨k + 1, by omega, by go_num, HE.out⟩
          case measure => simp [intOf]; omega
        · obtain ⟨j, rfl⟩ : ∃ j : Nat, z = j := ⟨z.toNat, by omega⟩
          have hj : j < nl := by omega
          obtain ⟨gl, ol, rfl, hcl⟩ := HL.out.at' (by omega)
          have ql := hcl j hj
          have hrx : refB ls (j : Int) = ls.getD j false := by
            unfold refB liveB
            rw [decide_eq_false (show ¬ (j : Int) = -1 by omega), decide_eq_true (show (0 : Int) ≤ (j : Int) by omega)]; simp
          have HRX := Lib.hid hrx
          clear hcl hrx z0 z1
          generalize ls.getD j false = x at *
          have i2 : (0 : Int) ≤ (j : Int) := by omega
          have i3 : (j : Int) < (nl : Int) := by omega
          cases x
          · have HE : Hid (refsB ls zs = false) := HF.out HRX.out
            clear HS HF
            go_wp2_with (go_at_call 126; refine (s_l1In_yes j (-1) (nl - 1) _ Z1.out.1 Z1.out.2).mono ?_; rintro e w1 ⟨rfl, rfl⟩)
            go_ret
            exact ⟨r_b HE.out.symm, rfl⟩
          · have HE : Hid (refsB ls (zs.take (k + 1)) = true) := by
              unfold Hid; rw [HS.out, ht.out, HRX.out]; rfl
            clear HS HF
            go_wp2_with (go_at_call 126; refine (s_l1In_yes j (-1) (nl - 1) _ Z1.out.1 Z1.out.2).mono ?_; rintro e w1 ⟨rfl, rfl⟩)
            go_round
            case rel => exact ⟨k + 1, by omega, by go_num, HE.out⟩
            case measure => simp [intOf]; omega
    · have HE : Hid (refsB ls zs = true) := by
        unfold Hid
        have := ht.out
        rwa [List.take_of_length_le (by rw [HN.out]; omega)] at this
      go_wp2
      go_ret
      exact ⟨r_b HE.out.symm, rfl⟩
end Go.Proofs.Ytkkigoamphkalaa
namespace Go.Proofs.Ytkkigoamphkalaa
open Go.RowKit Ph

set_option maxRecDepth 100000 in
set_option maxHeartbeats 3200000 in
theorem s_GoodHeap (a b c : Value) (h : H) (w : World) (hh : HeapAt w a b c h) : Calls Try.prog 80 #[hv a b c] w fun e w' => e = .returned (.bool (good h)) ∧ Below w.heap.size w w' := by
  obtain ⟨hF, hL, hR⟩ := hh
  have hb0 := below1 w (.cells (c3 a b c) 30)
  have HF := Lib.hid (hF.below hb0)
  have HL := Lib.hid (hL.below hb0)
  have HR := Lib.hid (hR.below hb0)
  have R0 := Lib.hid (show RowH _ _ a b c from Row.new w 30 (c3 a b c))
  have HB := Lib.hid hb0
  obtain ⟨fa, fc, rfl⟩ := hF.shape
  obtain ⟨la, lc, rfl⟩ := hL.shape
  obtain ⟨ra, rc, rfl⟩ := hR.shape
  clear hF hL hR hb0
  have HM := Lib.hid (good_many (h := h))
  have HLN := Lib.hid (good_lens (h := h))
  have HG : Hid (∀ i, i < h.f.length → rowB h.l (h.l.getD i false) (h.f.getD i []) = false → good h = false) := fun i => good_row
  have HG4 : Hid (4 < h.r.length → good h = false) := good_roots
  have HGR : Hid (refsB h.l h.r = false → good h = false) := good_rr
  have HGA := Lib.hid (good_all (h := h))
  generalize hnf : h.f.length = n at *
  generalize hnl : h.l.length = nl at *
  generalize hnr : h.r.length = nr at *
  have HNF := Lib.hid hnf; have HNR := Lib.hid hnr; have HNL := Lib.hid hnl
  clear hnf hnr hnl
  by_cases n1 : 12 < n
  · have HE := Lib.hid (HM.out n1)
    have i1 : (12 : Int) < (n : Int) := by omega
    clear HF HL HR R0
    go_enter Try.func80, Try.ntmps80
    go_wp2
    go_ret
    exact ⟨r_b HE.out.symm, HB.out⟩
  · by_cases n2 : nl = n
    · have n2' := n2.symm
      subst n2'
      clear n2
      have i1 : ¬ (12 : Int) < (n : Int) := by omega
      have i2 : ((n : Int) != (n : Int)) = false := by simp
      by_cases n4 : nr ≤ 4
      · have i4 : ¬ (4 : Int) < (nr : Int) := by omega
        have HRX := Lib.hid (s_l5Names (.slice la n lc) (.slice ra nr rc) h.l h.r _ HL.out HR.out (by rw [HNR.out]; omega) (by rw [HNL.out]; omega))
        have HNM : Hid (n ≤ 9223372036854775806) := by unfold Hid; omega
        generalize hx : refsB h.l h.r = x at *
        cases x
        · have HE := Lib.hid (HGR.out rfl)
          clear hx
          go_enter Try.func80, Try.ntmps80
          go_wp2_with (go_at_call 88; refine HRX.out.mono ?_; rintro e w1 ⟨rfl, rfl⟩)
          go_ret
          exact ⟨r_b HE.out.symm, HB.out⟩
        · have HA : Hid (rowsB h.l h.f n = true → good h = true) := fun h3 => HGA.out (by omega) rfl h3 n4 rfl
          clear hx
          go_enter Try.func80, Try.ntmps80
          go_wp2_with (go_at_call 88; refine HRX.out.mono ?_; rintro e w1 ⟨rfl, rfl⟩)
          clear HRX
          generalize (w.alloc (.cells (c3 (.slice fa n fc) (.slice la n lc) (.slice ra nr rc)) 30)) = w0 at *
          go_loop [35] (fun i => ∃ k : Nat, k ≤ n ∧ i = .int .i64 k ∧ Hid (rowsB h.l h.f k = true)) (fun i => n - (intOf i).toNat)
          case atStart => exact ⟨0, Nat.zero_le _, rfl, by simp [Hid, rowsB]⟩
          case round =>
            obtain ⟨k, hk, rfl, ht⟩ := hrel
            have c0 := R0.out.c0
            have c1 := R0.out.c1
            have c2 := R0.out.c2
            by_cases hlt : k < n
            · obtain ⟨gf, of, rfl, hcf⟩ := HF.out.at' (by omega)
              have L1 := Lib.hid HL.out
              obtain ⟨gl, ol, rfl, hcl⟩ := HL.out.at' (by omega)
              obtain ⟨u, qf, hu⟩ := hcf k hlt
              have ql := hcl k hlt
              obtain ⟨ua, uc, rfl⟩ := hu.shape
              have HU := Lib.hid hu
              have i3 : (k : Int) < (n : Int) := by omega
              have hg := HG.out k hlt
              have hs := rowsB_succ (l := h.l) (fs := h.f) (n := k)
              rw [ht.out, Bool.true_and] at hs
              clear hcf hcl hu
              generalize h.f.getD k [] = zs at *
              generalize hon : h.l.getD k false = on at *
              have HS := Lib.hid hs; have HG' := Lib.hid hg
              clear hs hg hon
              by_cases m3 : 3 < zs.length
              · have HE := Lib.hid (HG'.out (row_long m3))
                generalize zs.length = m at *
                have j0 : (3 : Int) < (m : Int) := by omega
                go_wp2_with fail
                go_ret
                exact ⟨r_b HE.out.symm, HB.out⟩
              · by_cases m0 : on = false ∧ 0 < zs.length
                · obtain ⟨rfl, m0⟩ := m0
                  have HE := Lib.hid (HG'.out (row_dead m0))
                  generalize zs.length = m at *
                  have j0 : (0 : Int) < (m : Int) := by omega
                  have j3 : ¬ (3 : Int) < (m : Int) := by omega
                  go_wp2_with fail
                  go_ret
                  exact ⟨r_b HE.out.symm, HB.out⟩
                · have j3 : ¬ (3 : Int) < (zs.length : Int) := by omega
                  have hok := row_ok (l := h.l) (on := on) (zs := zs) (by omega) (by cases on; (right; intro h0; exact m0 ⟨rfl, h0⟩); (left; rfl))
                  have hbad := row_bad (l := h.l) (on := on) (zs := zs)
                  have hcall := s_l5Names _ _ h.l zs w0 L1.out HU.out (by omega) (by rw [HNL.out]; exact HNM.out)
                  generalize hx : refsB h.l zs = x at *
                  have HX := Lib.hid hx; have HOK := Lib.hid hok; have HBAD := Lib.hid hbad; have HC := Lib.hid hcall
                  clear hx hok hbad hcall
                  have j0 : on = false → ¬ (0 : Int) < (zs.length : Int) := fun h1 h2 => m0 ⟨h1, by omega⟩
                  have J0 := Lib.hid j0
                  clear m0 m3 j0
                  generalize zs.length = m at *
                  cases x
                  · have HE := Lib.hid (HG'.out (HBAD.out rfl))
                    cases on
                    · have j0 := J0.out rfl
                      obtain rfl : m = 0 := by omega
                      clear j0 J0
                      go_wp2_with (go_at_call 88; refine HC.out.mono ?_; rintro e w1 ⟨rfl, rfl⟩)
                      go_ret
                      exact ⟨r_b HE.out.symm, HB.out⟩
                    · go_wp2_with (go_at_call 88; refine HC.out.mono ?_; rintro e w1 ⟨rfl, rfl⟩)
                      go_ret
                      exact ⟨r_b HE.out.symm, HB.out⟩
                  · have HE : Hid (rowsB h.l h.f (k + 1) = true) := by unfold Hid; rw [HS.out]; exact HOK.out rfl
                    cases on
                    · have j0 := J0.out rfl
                      obtain rfl : m = 0 := by omega
                      clear j0 J0
                      go_wp2_with (go_at_call 88; refine HC.out.mono ?_; rintro e w1 ⟨rfl, rfl⟩)
                      go_round
                      case rel => exact ⟨k + 1, by omega, by go_num, HE.out⟩
                      case measure => simp [intOf]; omega
                    · go_wp2_with (go_at_call 88; refine HC.out.mono ?_; rintro e w1 ⟨rfl, rfl⟩)
                      go_round
                      case rel => exact ⟨k + 1, by omega, by go_num, HE.out⟩
                      case measure => simp [intOf]; omega
            · obtain rfl : k = n := by omega
              have HE := Lib.hid (HA.out ht.out)
              go_wp2_with fail
              go_ret
              exact ⟨r_b HE.out.symm, HB.out⟩
      · have HE := Lib.hid (HG4.out (by omega))
        have j4 : (4 : Int) < (nr : Int) := by omega
        clear HF HL HR R0
        go_enter Try.func80, Try.ntmps80
        go_wp2
        go_ret
        exact ⟨r_b HE.out.symm, HB.out⟩
    · have HE := Lib.hid (HLN.out n2)
      have i2 : ((nl : Int) != (n : Int)) = true := by rw [bne_iff_ne]; omega
      have i1 : ¬ (12 : Int) < (n : Int) := by omega
      clear n2 HF HL HR R0
      go_enter Try.func80, Try.ntmps80
      go_wp2
      go_ret
      exact ⟨r_b HE.out.symm, HB.out⟩
end Go.Proofs.Ytkkigoamphkalaa
