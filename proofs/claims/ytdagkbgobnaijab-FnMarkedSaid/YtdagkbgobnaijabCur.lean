/- The reader of choices that the drawn laws use: each call answers a number within its bounds and writes into the reader's own block alone. -/
import Derived.Test.YtdagkbgobnaijabInts
namespace Go.Proofs.Ytdagkbgobnaijab
open Go.RowKit

/-- The slice v reads as the bytes zs, in blocks below c. -/
def BytesLow (w : World) (c : Nat) (v : Value) (zs : List Int) : Prop :=
  zs.length ≤ 9223372036854775807 ∧ (∀ z ∈ zs, 0 ≤ z ∧ z ≤ 255) ∧ ∃ a cap, v = .slice a zs.length cap ∧ (0 < zs.length → ∃ b off, a = some ⟨b, off, none⟩ ∧ b < c ∧ ∀ i, i < zs.length → w.cell? ⟨b, off + i, none⟩ = some (.int .u8 (zs.getD i 0)))
/-- Block c holds a reader that has taken at most n bytes. -/
def CurIs (w : World) (c : Nat) (n : Nat) : Prop :=
  ∃ (v : Value) (zs : List Int) (p : Nat) (s : Int), w.heap[c]? = some (.cells #[v, .int .i64 p, .int .u64 s] 75 (0, 0)) ∧ p ≤ n ∧ BytesLow w c v zs
theorem BytesLow.kept {w w' : World} {c : Nat} {v : Value} {zs : List Int} (h : BytesLow w c v zs) (hb : ∀ k, k < c → w'.heap[k]? = w.heap[k]?) : BytesLow w' c v zs := by
  obtain ⟨h1, h2, a, cap, hv, hc⟩ := h
  refine ⟨h1, h2, a, cap, hv, fun h0 => ?_⟩
  obtain ⟨b, off, ha, hlt, hc⟩ := hc h0
  exact ⟨b, off, ha, hlt, fun i hi => (World.cell?_of_block (w := w) (hb b hlt)).trans (hc i hi)⟩
theorem CurIs.lt {w : World} {c n : Nat} (h : CurIs w c n) : c < w.heap.size := by
  obtain ⟨v, zs, p, s, hh, _⟩ := h
  by_cases e : c < w.heap.size
  · exact e
  · have hn : w.heap[c]? = none := by simp; omega
    simp [hn] at hh
theorem CurIs.kept {w w' : World} {c n : Nat} (h : CurIs w c n) (hb : ∀ k, k < c + 1 → w'.heap[k]? = w.heap[k]?) : CurIs w' c n := by
  obtain ⟨v, zs, p, s, hh, hp, hl⟩ := h
  exact ⟨v, zs, p, s, (hb c (by omega)).trans hh, hp, hl.kept (fun k hk => hb k (by omega))⟩
theorem CurIs.below {w w' : World} {c n : Nat} (h : CurIs w c n) (hb : Below w.heap.size w w') : CurIs w' c n :=
  h.kept (fun k hk => hb.block k (by have := h.lt; omega))
theorem CurIs.mono {w : World} {c n m : Nat} (h : CurIs w c n) (hnm : n ≤ m) : CurIs w c m := by
  obtain ⟨v, zs, p, s, hh, hp, hl⟩ := h
  exact ⟨v, zs, p, s, hh, by omega, hl⟩

theorem byte_of (y : Int) : 0 ≤ wrap64 (bits .and .u64 (IntKind.u64.wrap y / 1099511627776) 255) ∧ wrap64 (bits .and .u64 (IntKind.u64.wrap y / 1099511627776) 255) ≤ 255 := by
  have h1 : 0 ≤ IntKind.u64.wrap y ∧ IntKind.u64.wrap y < 18446744073709551616 := by rw [IntKind.wrap_u64]; omega
  generalize IntKind.u64.wrap y = u at h1
  have h2 : 0 ≤ u / 1099511627776 ∧ u / 1099511627776 < 18446744073709551616 := by omega
  generalize u / 1099511627776 = d at h2
  have e : bits .and .u64 d 255 = ((d.toNat % 256 : Nat) : Int) := by
    rw [u64_and d 255 h2.1 h2.2 (by omega) (by omega)]
    rw [show (255 : Int).toNat = 255 from rfl, nat_mask8]
  rw [e]
  have b : d.toNat % 256 < 256 := Nat.mod_lt _ (by omega)
  generalize d.toNat % 256 = k at b
  have : wrap64 (k : Int) = k := by unfold wrap64; omega
  rw [this]
  omega

/-- Two stores into the reader's block. -/
theorem cur_step {w : World} {c n k j : Nat} {v : Value} {zs : List Int} {p : Nat} {s : Int} (hh : w.heap[c]? = some (.cells #[v, .int .i64 p, .int .u64 s] 75 (0, 0))) (hp : p ≤ n) (hl : BytesLow w c v zs) (y : Int) :
    CurIs ((((w.drewN k).setCell ⟨c, 1, none⟩ (.int .i64 (p + 1))).setCell ⟨c, 2, none⟩ (.int .u64 y)).drewN j) c (n + 1) ∧ w.grownBy ((((w.drewN k).setCell ⟨c, 1, none⟩ (.int .i64 (p + 1))).setCell ⟨c, 2, none⟩ (.int .u64 y)).drewN j) (some c) := by
  have h1 : ((w.drewN k).setCell ⟨c, 1, none⟩ (.int .i64 (p + 1))).heap[c]? = some (.cells #[v, .int .i64 (p + 1), .int .u64 s] 75 (0, 0)) := heap_setCell_same (w.drewN k) c 1 _ _ _ hh
  have h2 : (((w.drewN k).setCell ⟨c, 1, none⟩ (.int .i64 (p + 1))).setCell ⟨c, 2, none⟩ (.int .u64 y)).heap[c]? = some (.cells #[v, .int .i64 (p + 1), .int .u64 y] 75 (0, 0)) := heap_setCell_same _ c 2 _ _ _ h1
  have ho : ∀ i, i ≠ c → (((w.drewN k).setCell ⟨c, 1, none⟩ (.int .i64 (p + 1))).setCell ⟨c, 2, none⟩ (.int .u64 y)).heap[i]? = w.heap[i]? := fun i hi =>
    (heap_setCell_other _ ⟨c, 2, none⟩ i _ hi).trans (heap_setCell_other (w.drewN k) ⟨c, 1, none⟩ i _ hi)
  refine ⟨⟨v, zs, p + 1, y, ?_, by omega, hl.kept (fun i hi => ho i (by omega))⟩, ⟨rfl, rfl, rfl, ?_, fun i _ hi => ho i (fun e => hi (by rw [e]))⟩⟩
  · rw [show (((p + 1 : Nat) : Int)) = (p : Int) + 1 by omega]; exact h2
  · show w.heap.size ≤ (((w.drewN k).setCell ⟨c, 1, none⟩ (.int .i64 (p + 1))).setCell ⟨c, 2, none⟩ (.int .u64 y)).heap.size
    simp [World.setCell]

set_option maxHeartbeats 1000000 in
theorem c_next (c n : Nat) (w : World) (hc : CurIs w c n) (hn : n ≤ 1000000000) :
    Calls Try.prog 143 #[.pointer (some ⟨c, 0, none⟩)] w fun e w' => ∃ x : Int, (0 ≤ x ∧ x ≤ 255) ∧ e = .returned (.int .i64 x) ∧ CurIs w' c (n + 1) ∧ w.grownBy w' (some c) := by
  obtain ⟨v, zs, p, s, hh, hp, HL⟩ := hc
  obtain ⟨hl, hby, a, cap, rfl, hcell⟩ := id HL
  have q0 : w.cell? ⟨c, 0, none⟩ = some (.slice a zs.length cap) := by rw [cell_of_row w c 0 _ _ _ hh]; rfl
  have q1 : w.cell? ⟨c, 1, none⟩ = some (.int .i64 p) := by rw [cell_of_row w c 1 _ _ _ hh]; rfl
  have q2 : w.cell? ⟨c, 2, none⟩ = some (.int .u64 s) := by rw [cell_of_row w c 2 _ _ _ hh]; rfl
  have f1 := frozen_of_row w c 1 _ _ hh
  have f2 := frozen_of_row w c 2 _ _ hh
  have R := fun k j => cur_step (k := k) (j := j) hh hp HL
  have HR := Lib.hid R; clear R hh HL
  by_cases hlt : p < zs.length
  · obtain ⟨b, off, rfl, hbc, hcc⟩ := hcell (by omega)
    have hx := hcc p hlt
    have hne : b ≠ c := by omega
    have hxb := hby (zs.getD p 0) (by simp [List.getD, List.getElem?_eq_getElem hlt])
    generalize zs.getD p 0 = x at *
    generalize zs.length = m at *
    have i1 : (p : Int) < (m : Int) := by omega
    clear hcell hcc hby
    go_enter Try.func143, Try.ntmps143
    go_wp2
    go_quiet (fail)
    go_wp2
    go_quiet (fail)
    go_wp2
    go_quiet (fail)
    go_wp2
    go_ret
    exact ⟨x, hxb, rfl, (HR.out _ _ _).1, (HR.out _ _ _).2⟩
  · generalize zs.length = m at *
    have i1 : ¬ (p : Int) < (m : Int) := by omega
    clear hcell hby
    go_enter Try.func143, Try.ntmps143
    go_wp2
    go_quiet (fail)
    go_wp2
    go_quiet (fail)
    go_wp2
    go_ret
    exact ⟨_, byte_of _, rfl, (HR.out _ _ _).1, (HR.out _ _ _).2⟩

/-- What every call on the reader leaves: its own block alone has turned. -/
def CurStep (w w' : World) (c m : Nat) : Prop := CurIs w' c m ∧ w.grownBy w' (some c)

set_option maxHeartbeats 400000 in
theorem c_pick (c n : Nat) (k : Int) (w : World) (hc : CurIs w c n) (hn : n ≤ 999999990) (hk : 1 ≤ k) (hk' : k ≤ 65536) :
    Calls Try.prog 114 #[.pointer (some ⟨c, 0, none⟩), .int .i64 k] w fun e w' => ∃ x : Int, (0 ≤ x ∧ x < k) ∧ e = .returned (.int .i64 x) ∧ CurIs w' c (n + 2) ∧ w.grownBy w' (some c) := by
  by_cases h1 : k ≤ 1
  · go_enter Try.func114, Try.ntmps114
    go_wp2
    go_ret
    exact ⟨0, by omega, rfl, hc.mono (by omega), World.grownBy.refl _ _⟩
  · by_cases h2 : 200 < k
    · go_enter Try.func114, Try.ntmps114
      go_wp2_with fail
      refine (c_next c n _ hc (by omega)).mono ?_
      rintro e w1 ⟨x, hx, rfl, hc1, hg1⟩
      go_wp2_with fail
      refine (c_next c (n + 1) _ hc1 (by omega)).mono ?_
      rintro e w2 ⟨y, hy, rfl, hc2, hg2⟩
      go_wp2
      go_ret
      exact ⟨_, ⟨Int.emod_nonneg _ (by omega), Int.emod_lt_of_pos _ (by omega)⟩, rfl, hc2, grownBy_trans hg1 hg2⟩
    · go_enter Try.func114, Try.ntmps114
      go_wp2_with fail
      refine (c_next c n _ hc (by omega)).mono ?_
      rintro e w1 ⟨x, hx, rfl, hc1, hg1⟩
      go_wp2
      go_ret
      exact ⟨_, ⟨Int.emod_nonneg _ (by omega), Int.emod_lt_of_pos _ (by omega)⟩, rfl, hc1.mono (by omega), hg1⟩

theorem c_one (c n : Nat) (k : Int) (w : World) (hc : CurIs w c n) (hn : n ≤ 999999990) (hk : 1 ≤ k) (hk' : k ≤ 65536) :
    Calls Try.prog 112 #[.pointer (some ⟨c, 0, none⟩), .int .i64 k] w fun e w' => ∃ x : Bool, e = .returned (.bool x) ∧ CurIs w' c (n + 2) ∧ w.grownBy w' (some c) := by
  go_enter Try.func112, Try.ntmps112
  go_wp2_with fail
  refine (c_pick c n k _ hc hn hk hk').mono ?_
  rintro e w1 ⟨x, hx, rfl, hc1, hg1⟩
  go_wp2
  go_ret
  exact ⟨_, rfl, hc1, hg1⟩

theorem c_among (c n : Nat) (v : Value) (zs : List Int) (lo hi : Int) (w : World) (hc : CurIs w c n) (hn : n ≤ 999999990) (hv : Own w (c + 1) v zs) (h0 : 0 < zs.length) (h1 : zs.length ≤ 65536) (hb : ∀ z ∈ zs, lo ≤ z ∧ z ≤ hi) :
    Calls Try.prog 117 #[.pointer (some ⟨c, 0, none⟩), v] w fun e w' => ∃ x : Int, (lo ≤ x ∧ x ≤ hi) ∧ e = .returned (.int .i64 x) ∧ CurIs w' c (n + 2) ∧ w.grownBy w' (some c) := by
  have hv' := Lib.hid hv
  obtain ⟨g, cap, hvs, hg⟩ : ∃ g cap, v = .slice (some ⟨g, 0, none⟩) zs.length cap ∧ c + 1 ≤ g := by
    rcases hv.2 with ⟨_, h2⟩ | ⟨g, cap, cur, h1, h2, _⟩
    · omega
    · exact ⟨g, cap, h1, h2⟩
  subst hvs
  clear hv
  have HB := Lib.hid hb; clear hb
  generalize hm : zs.length = m at *
  have HM := Lib.hid hm; clear hm
  go_enter Try.func117, Try.ntmps117
  go_wp2_with fail
  refine (c_pick c n (m : Int) _ hc hn (by omega) (by omega)).mono ?_
  rintro e w1 ⟨x, hx, rfl, hc1, hg1⟩
  have o1 : Own w1 (c + 1) (.slice (some ⟨g, 0, none⟩) m cap) zs := World.ownsRow.kept (by have := hv'.out; exact this) hg1 (.inr (by simp [Value.ownBlock]; omega))
  have hxm : x.toNat < zs.length := by rw [HM.out]; omega
  have q : w1.cell? ⟨g, x.toNat, none⟩ = some (.int .i64 (zs.getD x.toNat 0)) := by
    obtain ⟨a, cap', e, hh⟩ := o1.ints
    obtain ⟨b, off, e2, hcl⟩ := hh (by omega)
    have := hcl x.toNat hxm
    simp only [Value.slice.injEq] at e
    rw [e2] at e
    simp only [Option.some.injEq, Addr.mk.injEq, and_true] at e
    obtain ⟨⟨rfl, rfl⟩, _⟩ := e
    simpa using this
  have hr := HB.out (zs.getD x.toNat 0) (by simp [List.getD, List.getElem?_eq_getElem hxm])
  generalize zs.getD x.toNat 0 = z at *
  clear o1 hxm
  go_wp2
  go_ret
  exact ⟨z, hr, rfl, hc1, hg1⟩
/-- A reader that a draw has just laid: nothing is taken yet. -/
theorem cur_new {w : World} {v : Value} {zs : List Int} (h : BytesAt w v zs) : CurIs (w.alloc (.cells #[v, .int .i64 0, .int .u64 0] 75)) w.heap.size 0 := by
  obtain ⟨h1, h2, a, cap, hv, hc⟩ := h
  refine ⟨v, zs, 0, 0, heap_alloc_new _ _, by omega, h1, h2, a, cap, hv, fun h0 => ?_⟩
  obtain ⟨b, off, ha, hc⟩ := hc h0
  refine ⟨b, off, ha, block_lt_of_cell (hc 0 h0), fun i hi => ?_⟩
  have hlt : b < w.heap.size := block_lt_of_cell (hc i hi)
  rw [World.cell?_of_block (w := w) (a := ⟨b, off + i, none⟩) (Below.heap_alloc w _ b hlt)]
  exact hc i hi
theorem below_of_cur {w w' : World} {o : Obj} (hg : (w.alloc o).grownBy w' (some w.heap.size)) : Below w.heap.size w w' :=
  ((Below.refl w.heap.size w).alloc (Nat.le_refl _) o).grown hg (by simp) (fun k hk => by simp at hk; omega)
end Go.Proofs.Ytdagkbgobnaijab
