/- Contracts of chapter 2: bitmaps out of words, words out of bitmaps. -/
import Derived.Test.YtcelebblcjhpaaaDoorBw2
namespace Go.Proofs.YtcelebblcjhpaaaDoor
open Go.RowKit Pb

theorem info_bits : (Tryd.prog.info? 25).map (·.size) = some 2 := by kernel_rfl
/-- A bitmap by value. -/
abbrev bm (long : Int) (v : Value) : Value := .agg #[.int .i64 long, v]
abbrev cb (long : Int) (v : Value) : Array Value := #[.int .i64 long, v]
def RowB (w : World) (g : Nat) (long : Int) (v : Value) : Prop := Row w g 25 (cb long v)
theorem RowB.c0 {w : World} {g : Nat} {long : Int} {v : Value} (h : RowB w g long v) : w.cell? ⟨g, 0, none⟩ = some (.int .i64 long) := Row.cell h 0
theorem RowB.c1 {w : World} {g : Nat} {long : Int} {v : Value} (h : RowB w g long v) : w.cell? ⟨g, 1, none⟩ = some v := Row.cell h 1
theorem wl_loadB {ops : Array Oper} {rest : List Oper} {o : Oper} {a : Act} {w : World} {Q : Exit → Act → World → Prop} (hgd : o.guard = none) (x : Operand) (ho : o.op = .load 25 x) (g : Nat) (long : Int) (v : Value) (hg : RowB w g long v)
    (hx : a.eval x = .pointer (some ⟨g, 0, none⟩)) (h : wpList Tryd.prog ops Q rest (a.put o.dst (bm long v)) w) : wpList Tryd.prog ops Q (o :: rest) a w :=
  wpList_load_row hgd 25 x ho g hx 25 (cb long v) (0, 0) _ hg Tryd.underlying25 rfl info_bits h
theorem wl_storeB {ops : Array Oper} {rest : List Oper} {o : Oper} {a : Act} {w : World} {Q : Exit → Act → World → Prop} (hgd : o.guard = none) (x y : Operand) (ho : o.op = .store 25 x y) (g : Nat) (long : Int) (v : Value) (l0 : Int) (v0 : Value) (hg : RowB w g l0 v0)
    (hx : a.eval x = .pointer (some ⟨g, 0, none⟩)) (hy : a.eval y = bm long v) (h1 : v.oneCell' = true) (h : wpList Tryd.prog ops Q rest (a.put o.dst undef) (w.setRow g (cb long v))) : wpList Tryd.prog ops Q (o :: rest) a w :=
  wpList_store_row hgd 25 x y ho g (cb long v) hx hy 25 (cb l0 v0) hg info_bits rfl (by simp [Value.oneCell']; exact h1) h

theorem Own.setRow {w : World} {B g g' n c : Nat} {zs : List Int} {cs : Array Value} (h : Own w B (.slice (some ⟨g, 0, none⟩) n c) zs) (hn : g' ≠ g) : Own (w.setRow g' cs) B (.slice (some ⟨g, 0, none⟩) n c) zs := by
  obtain ⟨h1, h2⟩ := h
  refine ⟨h1, ?_⟩
  rcases h2 with h2 | ⟨g0, cap, cur, hv, hg, hh, r⟩
  · exact .inl h2
  · have e : g = g0 := by simp at hv; exact hv.1
    subst e
    exact .inr ⟨g, cap, cur, hv, hg, by rw [setRow_other w g' g cs (fun e => hn e.symm)]; exact hh, r⟩
theorem Own.shape {w : World} {B : Nat} {v : Value} {zs : List Int} (h : Own w B v zs) : ∃ g c, v = .slice g zs.length c ∧ (∀ a, g = some a → B ≤ a.block) := by
  obtain ⟨h1, h2⟩ := h
  rcases h2 with ⟨rfl, h2⟩ | ⟨g, cap, cur, rfl, hg, hh, _⟩
  · exact ⟨none, 0, by rw [h2], fun a ha => by cases ha⟩
  · exact ⟨_, _, rfl, fun a ha => by cases ha; exact hg⟩
theorem Own.setRow' {w : World} {B n c g' : Nat} {g : Option Addr} {zs : List Int} {cs : Array Value} (h : Own w B (.slice g n c) zs) (hn : ∀ a, g = some a → g' < a.block) : Own (w.setRow g' cs) B (.slice g n c) zs := by
  obtain ⟨h1, h2⟩ := h
  refine ⟨h1, ?_⟩
  rcases h2 with h2 | ⟨g0, cap, cur, hv, hg, hh, r⟩
  · exact .inl h2
  · have e : g = some ⟨g0, 0, none⟩ := by simp at hv; exact hv.1
    subst e
    have := hn _ rfl
    simp at this
    exact .inr ⟨g0, cap, cur, hv, hg, by rw [setRow_other w g' g0 cs (by omega)]; exact hh, r⟩
theorem Own.set {w : World} {B n c : Nat} {g : Option Addr} {zs : List Int} {a : Addr} {x : Value} (h : Own w B (.slice g n c) zs) (hn : ∀ b, g = some b → a.block < b.block) : Own (w.setCell a x) B (.slice g n c) zs := by
  obtain ⟨h1, h2⟩ := h
  refine ⟨h1, ?_⟩
  rcases h2 with h2 | ⟨g0, cap, cur, hv, hg, hh, r⟩
  · exact .inl h2
  · have e : g = some ⟨g0, 0, none⟩ := by simp at hv; exact hv.1
    subst e
    have := hn _ rfl
    simp at this
    exact .inr ⟨g0, cap, cur, hv, hg, by rw [heap_setCell_other w a g0 _ (by omega)]; exact hh, r⟩
theorem rowB_set2 {w : World} {g : Nat} {l0 : Int} {v0 : Value} (h : RowB w g l0 v0) (l : Int) (v : Value) : RowB ((w.setCell ⟨g, 0, none⟩ (.int .i64 l)).setCell ⟨g, 1, none⟩ v) g l v := (Row.set (Row.set h 0 _) 1 _).trans rfl
theorem Row.grown {w w1 : World} {g : Nat} {T : TypeId} {cs : Array Value} (h : Row w g T cs) (hg : w.grownBy w1 none) : Row w1 g T cs := (hg.block g h.lt (by simp)).trans h
theorem Row.grownBy {w w1 : World} {g : Nat} {T : TypeId} {cs : Array Value} {c : Option Nat} (h : Row w g T cs) (hg : w.grownBy w1 c) (hn : c ≠ some g) : Row w1 g T cs := (hg.block g h.lt (fun e => hn e.symm)).trans h
theorem Own.lt_of {w : World} {B g n c m : Nat} {xs : List Value} (h : w.ownsRow B 3 1 (.slice (some ⟨g, 0, none⟩) n c) m xs) : g < w.heap.size := by
  obtain ⟨_, h2⟩ := h
  rcases h2 with ⟨h2, _⟩ | ⟨g', cap, cur, hv, hg, hh, _⟩
  · cases h2
  · simp at hv
    obtain ⟨rfl, _⟩ := hv
    by_cases e : g < w.heap.size
    · exact e
    · have hn : w.heap[g]? = none := by simp; omega
      simp [hn] at hh

set_option maxHeartbeats 800000 in
theorem c_bitmap (f : Nat → Int) (long : Int) (w : World) (h0 : 0 ≤ long) (h1 : long ≤ 96) (hf : ∀ k, k < 6 → 0 ≤ f k ∧ f k ≤ 65535) :
    Calls Tryd.prog 90 #[a6 f, .int .i64 long] w fun e w' => ∃ v, e = .returned (bm long v) ∧ Own w' w.heap.size v (wl ((long + 15) / 16).toNat f) ∧ Below w.heap.size w w' := by
  obtain ⟨i0, hi, hz0, hz1, hz2⟩ := info_parts info_int
  have hn : ∃ n : Nat, (long + 15) / 16 = n ∧ n ≤ 6 := ⟨((long + 15) / 16).toNat, by omega, by omega⟩
  obtain ⟨n, hn, hn6⟩ := hn
  have HF := Lib.hid hf; clear hf
  rw [show ((long + 15) / 16).toNat = n by omega]
  have HN := Lib.hid hn; clear hn
  go_enter Tryd.func90, Tryd.ntmps90
  go_wp2_with (first
    | (go_at_call 105; refine (c_wordCount _ _ h0 (by omega)).mono ?_; rintro e w' ⟨rfl, rfl⟩; rw [HN.out])
    | (refine wpList_make_full _ rfl _ _ 23 rfl w.heap.size 3 i0 (.int .i64 0) 1 Tryd.underlying23 hi hz0 hz1 .i64 .i64 _ _ n rfl rfl rfl rfl (by rw [hz2]; omega) (by unfold maxLen; omega) (by simp; omega) ?_; intro w1 hown hgr; rw [Nat.mul_one, show (Value.int .i64 0).cells = #[.int .i64 0] from rfl, toList_madeCells_one, World.size_alloc, World.size_alloc] at hown; have hr := Row.grown ((Row.new w 69 (c6 f)).alloc _) hgr; have hr' := Row.grown (Row.new1 w _ 25 (cb 0 (.slice none 0 0))) hgr; have hsz : w.heap.size + 1 + 1 < w1.heap.size := Own.lt_of hown; have hb := (((Below.refl w.heap.size w).alloc (Nat.le_refl _) _).alloc (by simp) _).grown hgr (by simp; omega) (fun k hk => by cases hk); have HO := Lib.hid hown; clear hown hgr))
  go_loopw [15] (fun i wr => ∃ j : Nat, j ≤ n ∧ i = .int .i64 j ∧ Blk wr w.heap.size f ∧ RowB wr (w.heap.size + 1) 0 (.slice none 0 0) ∧ RowB wr w1.heap.size long (.slice (some ⟨w.heap.size + 1 + 1, 0, none⟩) n n) ∧ Own wr w.heap.size (.slice (some ⟨w.heap.size + 1 + 1, 0, none⟩) n n) (fillTo (wl n f) j) ∧ Below w.heap.size w wr) (fun i _ => n - (intOf i).toNat)
  case atStart =>
    refine ⟨0, Nat.zero_le _, rfl, hr.alloc _, hr'.alloc _, Row.new _ _ _, ?_, hb.alloc (by omega) _⟩
    have : Own w1 w.heap.size (.slice (some ⟨w.heap.size + 1 + 1, 0, none⟩) n n) (fillTo (wl n f) 0) := by
      unfold Own
      rw [fillTo_length _ (Nat.zero_le _), wl_length, fillTo_zero, wl_length, List.map_replicate]
      exact HO.out
    exact this.below ((Below.refl _ _).alloc (Nat.le_refl _) _)
  case round =>
    obtain ⟨j, hj, rfl, hb0, hb1, hb2, hown, hbr⟩ := hrel
    clear hr hr' hb HO
    by_cases hlt : j < n
    · have hlen := fillTo_length (wl n f) (j := j) (by rw [wl_length]; exact hj)
      rw [wl_length] at hlen
      have hown' : wr.ownsRow w.heap.size 3 1 (.slice (some ⟨w.heap.size + 1 + 1, 0, none⟩) n n) n ((fillTo (wl n f) j).map (Value.int .i64)) := by
        have := hown; unfold Own at this; rwa [hlen] at this
      have hfr := hown'.frozenAt j
      obtain ⟨x, hx⟩ : ∃ x, wr.cell? ⟨w.heap.size + 1 + 1, j, none⟩ = some x := by
        rw [hown'.cellAt j (by omega), List.getElem?_map, List.getElem?_eq_getElem (by rw [hlen]; exact hlt)]
        exact ⟨_, rfl⟩
      obtain ⟨s1, s2⟩ := hown'.stored j (.int .i64 (f j))
      have S1 : Hid (Own (wr.setCell ⟨w.heap.size + 1 + 1, j, none⟩ (.int .i64 (f j))) w.heap.size (.slice (some ⟨w.heap.size + 1 + 1, 0, none⟩) n n) (fillTo (wl n f) (j + 1))) := by
        unfold Hid Own
        rw [fillTo_length _ (by rw [wl_length]; omega), wl_length, ← fillTo_set _ (by rw [wl_length]; exact hlt), List.map_set, wl_getD f hlt]
        exact s1
      have S2 := Lib.hid (hbr.setCell (p := ⟨w.heap.size + 1 + 1, j, none⟩) (by simp; omega) (.int .i64 (f j)))
      have q0 := hb0.at (show j < 6 by omega)
      have q1 := hb2.c1
      have R0 := Lib.hid (Row.other hb0 ⟨w.heap.size + 1 + 1, j, none⟩ (by simp; omega) (.int .i64 (f j)))
      have R1 := Lib.hid (Row.other hb1 ⟨w.heap.size + 1 + 1, j, none⟩ (by simp) (.int .i64 (f j)))
      have R2 := Lib.hid (Row.other hb2 ⟨w.heap.size + 1 + 1, j, none⟩ (by simp; omega) (.int .i64 (f j)))
      have hbd := HF.out j (by omega)
      have hlt' : (j : Int) < (n : Int) := by omega
      have hlt6 : (j : Int) < 6 := by omega
      clear s1 s2 hown hown' hlen hb0 hb1 hb2 hbr
      go_wp2
      go_region
      go_wp2
      go_roundw
      case rel => exact ⟨j + 1, by omega, by go_num, R0.out, R1.out, R2.out, S1.out.drewN 1, below_drew S2.out⟩
      case measure => simp [intOf]; omega
    · obtain rfl : j = n := by omega
      go_wp2_with (first
        | (refine wl_loadB rfl _ rfl w1.heap.size _ _ hb2 rfl ?_)
        | (refine wl_storeB rfl _ _ rfl (w.heap.size + 1) _ _ _ _ hb1 rfl rfl rfl ?_))
      refine bodyPost_ret (res_row Tryd.results90 (Row.put hb1 (cb long (.slice (some ⟨w.heap.size + 1 + 1, 0, none⟩) j j))) rfl Tryd.underlying25 rfl info_bits) rfl ⟨_, rfl, ?_, below_setRow hbr (by omega) _⟩
      have e : fillTo (wl j f) j = wl j f := by have := fillTo_all (wl j f); rwa [wl_length] at this
      rw [e] at hown
      exact Own.setRow hown (by simp)
end Go.Proofs.YtcelebblcjhpaaaDoor
