/- The first pages of a map's runs, in order. -/
import Derived.Test.YtdiejmebodpjeaaMw1
namespace Go.Proofs.Ytdiejmebodpjeaa
open Go.RowKit Go.Maps Go.Sort Pr

/-- append of one int to a slice that the call owns. -/
theorem wl_appI {ops : Array Oper} {rest : List Oper} {o : Oper} {a : Act} {w : World} {Q : Exit → Act → World → Prop} (hgd : o.guard = none) (s x : Operand) (ho : o.op = .call { callee := .builtin .append, args := #[s, x], argTypes := #[40, 40] })
    (B : Nat) (v : Value) (zs : List Int) (z : Int) (hs : a.eval s = v) (hown : Own w B v zs) (hx : a.eval x = .slice (some ⟨w.heap.size, 0, none⟩) 1 1) (hlen : zs.length ≤ 1000) (hb : B ≤ w.heap.size)
    (h : ∀ v' w', Own w' B v' (zs ++ [z]) → (w.alloc (.cells #[.int .i64 z] 3)).grownBy w' v.ownBlock → v' ≠ .slice none 0 0 → wpList Try.prog ops Q rest (a.put o.dst v') w') : wpList Try.prog ops Q (o :: rest) a (w.alloc (.cells #[.int .i64 z] 3)) := by
  obtain ⟨i0, hi, hz0, hz1, hz2⟩ := info_parts info_int
  refine wpList_append_own (w := w.alloc (.cells #[.int .i64 z] 3)) hgd s x 40 ho B 3 i0 (.int .i64 0) 1 8 Try.underlying40 hi hz0 hz1 hz2 rfl (by decide) v zs.length (zs.map (Value.int .i64)) hs (World.ownsRow.alloc hown _) ⟨w.heap.size, 0, none⟩ 1 1 [.int .i64 z] hx rfl ?_ ?_ ?_ ?_ ?_ ?_
  · intro j u hj
    match j, hj with
    | 0, hj => simp at hj; subst hj; simp [Addr.add]
  · intro u hu; simp at hu; subst hu; rfl
  · unfold maxLen; omega
  · omega
  · simp; omega
  · intro v' w' ho' hg hn
    refine h v' w' ?_ hg (fun e => by have := (hn.1 e).2; omega)
    unfold Own
    simpa using ho'

/-- The keys met so far. -/
def Coll (rs : List R) (left : Lit → Bool) (ss : List Int) : Prop := ss.Nodup ∧ ∀ x, x ∈ ss ↔ ((lookR x rs).isSome = true ∧ left (.int .i64 x) = false)
theorem Coll.start (rs : List R) : Coll rs (has (mapD Unit rs)) [] := ⟨List.nodup_nil, fun x => by rw [has_mapD]; cases (lookR x rs).isSome <;> simp⟩
theorem look_of_at {rs : List R} {x c : Int} (hat : ∀ zd : DataW Unit, (mapD Unit rs).atKey (.int .i64 x) zd = .lit (.int .i64 c)) : lookR x rs = some c := by
  have := hat .nil
  rw [atKey_mapD] at this
  cases h : lookR x rs with
  | none => rw [h] at this; cases this
  | some v => rw [h] at this; simp at this; rw [this]
theorem Coll.step {rs : List R} {left : Lit → Bool} {ss : List Int} (h : Coll rs left ss) {x c : Int} (hlk : left (.int .i64 x) = true) (hat : lookR x rs = some c) : Coll rs (fun z => left z && !z.sameKey (.int .i64 x)) (ss ++ [x]) := by
  obtain ⟨h1, h2⟩ := h
  have hx : x ∉ ss := fun hm => by have := ((h2 x).1 hm).2; rw [hlk] at this; cases this
  refine ⟨List.nodup_append.2 ⟨h1, by simp, fun a ha b hb => by simp at hb; subst hb; exact fun e => hx (e ▸ ha)⟩, fun y => ?_⟩
  rw [List.mem_append, h2 y]
  by_cases e : y = x
  · subst e
    simp [hat, Lit.sameKey]
  · simp [Lit.sameKey, e]
theorem Coll.sorted {rs : List R} {left : Lit → Bool} {ss : List Int} (h : Coll rs left ss) (hs : SortK rs) (hl : ∀ kl, left kl = false) : ss.mergeSort (fun x y => decide (x ≤ y)) = rs.map (·.1) := by
  obtain ⟨h1, h2⟩ := h
  have hp : ss.Perm (rs.map (·.1)) := by
    refine (List.perm_ext_iff_of_nodup h1 (List.pairwise_map.2 (hs.imp fun {a b} hlt e => by omega))).2 fun x => ?_
    rw [h2 x, hl]
    constructor
    · rintro ⟨a, _⟩
      obtain ⟨v, hv⟩ := Option.isSome_iff_exists.1 a
      exact List.mem_map.2 ⟨_, lookR_some hv, rfl⟩
    · intro a
      obtain ⟨r, hr, rfl⟩ := List.mem_map.1 a
      exact ⟨by rw [lookR_mem hs hr]; rfl, rfl⟩
  have hk : (rs.map (·.1)).Pairwise (fun x y : Int => decide (x ≤ y) = true) := List.pairwise_map.2 (hs.imp fun {a b} hlt => by simp; omega)
  refine List.Perm.eq_of_pairwise (le := fun x y : Int => decide (x ≤ y) = true) (fun a b _ _ h1 h2 => by simp at h1 h2; omega) (List.pairwise_mergeSort (fun a b c h1 h2 => by simp at *; omega) (fun a b => by simp; omega) ss) hk ((List.mergeSort_perm ss _).trans hp)

set_option maxRecDepth 100000 in
set_option maxHeartbeats 1600000 in
theorem c_starts (b n : Nat) (rs : List (Int × Int)) (w : World) (hM : MapR w b n rs) (hs : SortK rs) (hlen : rs.length ≤ 1000) :
    Calls Try.prog 60 #[.map (some b)] w fun e w' => ∃ v, e = .returned v ∧ Own w' w.heap.size v (rs.map (·.1)) ∧ Below w.heap.size w w' := by
  obtain ⟨i0, hi, hz0, hz1, hz2⟩ := info_parts info_int
  have hbl : b < w.heap.size := World.ownsMap.lt hM
  have HM := Lib.hid hM
  have HS := Lib.hid hs
  have hsz : size (mapD Unit rs) = rs.length := size_mapD rs
  have HSZ := Lib.hid hsz
  clear hM hs hsz
  go_enter Try.func60, Try.ntmps60
  go_wp2_with (first
    | (at_len; refine wpList_len_own _ rfl _ 63 rfl 3 3 Try.underlying63 _ b n _ rfl HM.out ?_; rw [HSZ.out])
    | (at_make; refine wpList_make_own _ rfl _ _ 40 rfl w.heap.size 3 i0 (.int .i64 0) 1 Try.underlying40 hi hz0 hz1 _ _ _ rs.length rfl rfl rfl (by rw [hz2]; omega) (by unfold maxLen; omega) (Nat.le_refl _) ?_; intro w1 hrow1 hg1)
    | (at_range; refine wpList_range_own _ rfl _ 63 rfl 3 3 lawI Try.underlying63 _ b n _ rfl (World.ownsMap.kept HM.out hg1 (by simp)) ?_; intro w0 hrg0 hg0 hs0)
    | go_in)
  go_frame
  go_loopw [3] (fun v wr => ∃ (left : Lit → Bool) (cnt : Nat) (ss : List Int), wr.ranges Try.prog 3 (plainElem Try.prog 3) b w1.heap.size n (mapD Unit rs) left cnt ∧ ss.length + cnt ≤ rs.length ∧
      Own wr w.heap.size v ss ∧ v ≠ .slice none 0 0 ∧ Coll rs left ss ∧ Below w.heap.size w wr)
    (fun _ wr => wr.rangeLeft b w1.heap.size)
  case atStart =>
    exact ⟨_, _, [], hrg0, by rw [HSZ.out]; simp, World.ownsRow.kept hrow1 hg0 (Or.inr (by simp [Value.ownBlock])), by simp, Coll.start rs,
      ((Below.refl _ _).grown hg1 (Nat.le_refl _) (fun j hj => by cases hj)).grown hg0 hg1.size (fun j hj => by cases hj)⟩
  case round =>
    obtain ⟨left, cnt, ss, hrg, hcs, hrow, hnn, hC, hnx⟩ := hrel
    go_wp2_with (first
      | (at_next; refine wpList_next_ranges_ii _ rfl _ rfl 3 3 .i64 .i64 lawI Try.underlying3 Try.underlying3 b w1.heap.size n _ _ _ rfl hrg ?_ ?_)
      | go_in)
    · intro hc0 hl0
      rcases hrow.2 with ⟨hnil, _⟩ | ⟨g, cap, cur, rfl, hbase, hb, h1, h2, h3, h4⟩
      · exact absurd hnil hnn
      have hH : Holds (Value.int .i64) wr g 0 ss.toArray := holds_of_blockI hb (by simpa using h4)
      have hgl : g < wr.heap.size := (Array.getElem?_eq_some_iff.1 hb).1
      have hc := Try.slices_Sort_int g 0 cap ss wr hH hgl (by omega)
      have HSO := Lib.hid (hC.sorted HS.out hl0)
      go_wp2_with (go_at_call 63; refine hc.mono ?_; rintro e w' ⟨rfl, nn, os, rfl⟩)
      go_ret
      refine ⟨_, rfl, ?_, hnx.grown (grownBy_sortedI _) hnx.size (fun j hj => by cases hj; exact hbase)⟩
      have hln : (rs.map (·.1)).length = ss.length := by rw [← HSO.out]; simp
      have := ownsRow_sortedI (n := nn) (os := os) (ss := ss) (ts := ss.mergeSort fun x y => decide (x ≤ y)) (by simp) hbase hb h1 h2 h3
      unfold Own
      rw [hln, ← HSO.out]
      exact this
    · intro x c w2 cnt2 hwx hwc hlx hat hrg2 hlt hg2 hs2 hen
      have hrow2 : Own w2 w.heap.size u3 ss := World.ownsRow.kept hrow hg2 (Or.inr (row_ne_iter hrow hrg).symm)
      have HAT := Lib.hid (look_of_at hat)
      clear hs2 hat
      have hws : w.heap.size ≤ w2.heap.size := by have := hnx.size; have := hg2.size; omega
      go_wp2_with (first
        | (at_builtin; refine wl_appI (w := w2) rfl _ _ rfl w.heap.size u3 ss x rfl hrow2 rfl (by omega) hws ?_; intro v' w3 hown' hg3 hnil3; go_frame)
        | go_in)
      have hrg3 := (hrg2.alloc _).kept hg3 (row_ne_low hrow2 hbl) (row_ne_iter hrow2 hrg2)
      go_roundw
      case rel =>
        refine ⟨_, cnt2, ss ++ [x], hrg3, by simp; omega, hown', hnil3, hC.step hlx HAT.out, ?_⟩
        exact ((hnx.grown hg2 hnx.size (fun j hj => by cases hj; exact hg1.size)).alloc (by omega) _).grown hg3 (by simp; omega) (fun j hj => (World.ownsRow.lt hrow2 j hj).1)
      case measure => rw [hrg3.left_eq, hrg.left_eq]; exact hlt
end Go.Proofs.Ytdiejmebodpjeaa
