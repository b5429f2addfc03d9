/- What the laws of chapter 1 draw. -/
import Derived.Test.YtlaembbgjgpmbaaDoorCur
namespace Go.Proofs.YtlaembbgjgpmbaaDoor
open Go.RowKit

set_option maxHeartbeats 400000 in
theorem c_size (c n : Nat) (w : World) (hc : CurIs w c n) (hn : n ≤ 999999900) :
    Calls Tryd.prog 34 #[.pointer (some ⟨c, 0, none⟩)] w fun e w' => ∃ x : Int, (0 ≤ x ∧ x ≤ 257) ∧ e = .returned (.int .i64 x) ∧ CurIs w' c (n + 4) ∧ w.grownBy w' (some c) := by
  go_enter Tryd.func34, Tryd.ntmps34
  go_wp2_with fail
  refine (c_pick c n 256 _ hc (by omega) (by omega) (by omega)).mono ?_
  rintro e w1 ⟨x, hx, rfl, hc1, hg1⟩
  go_wp2_with fail
  have ho : Own (w1.alloc (.cells #[.int .i64 0, .int .i64 1, .int .i64 8, .int .i64 9, .int .i64 100, .int .i64 255, .int .i64 256, .int .i64 257, .int .i64 (1 + x)] 3)) (c + 1) (.slice (some ⟨w1.heap.size, 0, none⟩) 9 9) [0, 1, 8, 9, 100, 255, 256, 257, 1 + x] :=
    ⟨rfl, .inr ⟨w1.heap.size, 9, _, rfl, hc1.lt, heap_alloc_new _ _, Nat.le_refl _, by decide, rfl, rfl⟩⟩
  refine (c_among c (n + 2) _ [0, 1, 8, 9, 100, 255, 256, 257, 1 + x] 0 257 _ (hc1.kept (fun k hk => Below.heap_alloc _ _ _ (by have := hc1.lt; omega))) (by omega) ho (by simp) (by simp) (by intro z hz; simp at hz; omega)).mono ?_
  rintro e w2 ⟨y, hy, rfl, hc2, hg2⟩
  go_wp2
  go_ret
  exact ⟨y, hy, rfl, hc2, grownBy_trans hg1 (grownBy_trans (World.grownBy_alloc _ _ _) hg2)⟩

theorem c_DrawClassFor (v : Value) (zs : List Int) (w : World) (h : BytesAt w v zs) :
    Calls Tryd.prog 12 #[v] w fun e w' => ∃ x : Int, (0 ≤ x ∧ x ≤ 257) ∧ e = .returned (.int .i64 x) ∧ Below w.heap.size w w' := by
  have hc := cur_new h
  have HC := Lib.hid hc; clear hc
  obtain ⟨_, _, a, cap, rfl, _⟩ := h
  generalize zs.length = m at *
  go_enter Tryd.func12, Tryd.ntmps12
  go_wp2_with fail
  refine (c_size w.heap.size 0 _ HC.out (by omega)).mono ?_
  rintro e w1 ⟨x, hx, rfl, hc1, hg1⟩
  go_wp2
  go_ret
  exact ⟨x, hx, rfl, below_of_cur hg1⟩

theorem c_DrawSlotsIn (v : Value) (zs : List Int) (w : World) (h : BytesAt w v zs) :
    Calls Tryd.prog 23 #[v] w fun e w' => ∃ x : Int, (-1 ≤ x ∧ x ≤ 48) ∧ e = .returned (.int .i64 x) ∧ Below w.heap.size w w' := by
  have hc := cur_new h
  have HC := Lib.hid hc; clear hc
  obtain ⟨_, _, a, cap, rfl, _⟩ := h
  generalize zs.length = m at *
  go_enter Tryd.func23, Tryd.ntmps23
  go_wp2_with fail
  refine (c_pick w.heap.size 0 50 _ HC.out (by omega) (by omega) (by omega)).mono ?_
  rintro e w1 ⟨x, hx, rfl, hc1, hg1⟩
  go_wp2
  go_ret
  exact ⟨x - 1, by omega, rfl, below_of_cur hg1⟩

theorem own_append {w1 : World} {B : Nat} {v1 : Value} {zs : List Int} {z : Int} (h : w1.ownsRow B 3 1 v1 (zs.length + 1) (zs.map (Value.int .i64) ++ [.int .i64 z])) : Own w1 B v1 (zs ++ [z]) := by
  unfold Own
  rw [List.length_append, List.map_append]
  exact h
set_option maxHeartbeats 1000000 in
theorem c_DrawSumWaste (v : Value) (zs : List Int) (w : World) (h : BytesAt w v zs) :
    Calls Tryd.prog 20 #[v] w fun e w' => ∃ (u : Value) (ys : List Int), ys.length ≤ 41 ∧ e = .returned u ∧ Own w' w.heap.size u ys ∧ Below w.heap.size w w' := by
  obtain ⟨i0, hi, hz0, hz1, hz2⟩ := info_parts info_int
  have hc := cur_new h
  have HC := Lib.hid hc; clear hc
  obtain ⟨_, _, a, cap, rfl, _⟩ := h
  generalize zs.length = m at *
  go_enter Tryd.func20, Tryd.ntmps20
  go_wp2_with fail
  refine (c_pick w.heap.size 0 9 _ HC.out (by omega) (by omega) (by omega)).mono ?_
  rintro e w1 ⟨x, hx, rfl, hc1, hg1⟩
  have B1 := below_of_cur hg1
  go_wp2_with fail
  refine (c_one w.heap.size 2 20 _ hc1 (by omega) (by omega) (by omega)).mono ?_
  rintro e w2 ⟨bo, rfl, hc2, hg2⟩
  have B2 : Below w.heap.size w w2 := B1.grown hg2 B1.size (fun k hk => by simp at hk; omega)
  cases bo with
  | false =>
    have hcL := hc2.mono (show 4 ≤ 6 by omega); have BL := B2
    obtain ⟨N, rfl⟩ := Int.eq_ofNat_of_zero_le hx.1
    have hNL : N ≤ 41 := by omega
    clear hc2 B2 hx hg1 hc1 B1 HC hg2
    go_wp2
    go_loopw [4, 5] (fun l i wr => ∃ (ys : List Int) (j : Nat), i = .int .i64 j ∧ ys.length + j ≤ 41 ∧ Own wr (w.heap.size + 1) l ys ∧ CurIs wr w.heap.size (6 + 2 * ys.length) ∧ Below w.heap.size w wr) (fun _ i _ => (intOf i).toNat)
    case atStart => exact ⟨[], N, by simp, by simp; omega, World.ownsRow_nil _ _ _ _, hcL, BL⟩
    case round =>
      obtain ⟨ys, j, rfl, hlen, hown, hcur, hbr⟩ := hrel
      have hsz := hbr.size
      have hclt := hcur.lt
      have HO := Lib.hid hown; have HLEN := Lib.hid hlen
      clear hcL BL
      by_cases hj : 0 < j
      · go_wp2_with fail
        refine (c_pick w.heap.size _ 256 _ hcur (by omega) (by omega) (by omega)).mono ?_
        rintro e w4 ⟨z, hz, rfl, hc4, hg4⟩
        have ho4 : Own w4 (w.heap.size + 1) _ ys := World.ownsRow.kept HO.out hg4 (by
          cases hob : Value.ownBlock _ with
          | none => exact .inl rfl
          | some k => exact .inr (by have := (World.ownsRow.lt HO.out k hob).1; simp; omega))
        have B4 : Below w.heap.size w w4 := hbr.grown hg4 hsz (fun k hk => by simp at hk; omega)
        have hs4 := B4.size
        have hclt4 := hc4.lt
        go_wp2_with (at_builtin; refine wpList_append_own _ rfl _ _ 28 rfl (w.heap.size + 1) 3 i0 (.int .i64 0) 1 8 Tryd.underlying28 hi hz0 hz1 hz2 rfl (by decide) _ _ _ rfl (World.ownsRow.alloc ho4 _) ⟨w4.heap.size, 0, none⟩ 1 1 [.int .i64 (1 + z)] rfl rfl ?c1 ?c2 ?c3 ?c4 ?c5 ?_)
        case c1 =>
          intro j u hj
          match j, hj with
          | 0, hj => simp at hj; subst hj; simp [Addr.add]
        case c2 => intro u hu; simp at hu; subst hu; rfl
        case c3 => unfold maxLen; omega
        case c4 => omega
        case c5 => simp; omega
        intro v' w5 hown' hgrow _
        have R := (B4.alloc hs4 _).grown hgrow (by simp; omega) (fun k hk => by have := (World.ownsRow.lt ho4 k hk).1; omega)
        have RC : CurIs w5 w.heap.size (6 + 2 * (ys ++ [1 + z]).length) := by
          have h1 := (hc4.kept (w' := w4.alloc (.cells #[.int .i64 (1 + z)] 3)) (fun k hk => Below.heap_alloc _ _ _ (by omega))).kept (w' := w5) (fun k hk => hgrow.block k (by simp; omega) (fun e => by have := (World.ownsRow.lt ho4 k e.symm).1; omega))
          exact h1.mono (by simp; omega)
        have hown'' := own_append hown'
        clear hgrow hown' ho4
        go_wp2
        go_roundw
        case rel => exact ⟨ys ++ [1 + z], j - 1, by go_num, by simp; omega, hown'', RC, R⟩
        case measure => simp [intOf]; omega
      · obtain rfl : j = 0 := by omega
        rcases hown.2 with ⟨hv3, hy0⟩ | ⟨g, cap3, cur3, hv3, hg3, hrest⟩
        · subst hv3
          clear hown
          go_wp2
          go_ret
          exact ⟨_, ys, by omega, rfl, HO.out.mono (by omega), hbr⟩
        · subst hv3
          clear hown hrest
          by_cases hy0 : ys.length = 0
          · obtain rfl : ys = [] := List.eq_nil_of_length_eq_zero hy0
            clear hy0
            go_wp2
            go_ret
            exact ⟨_, [], by simp, rfl, HO.out.mono (by omega), hbr⟩
          · have hpos : (0 : Int) < (ys.length : Int) := by omega
            generalize hyl : ys.length = ny at *
            have HYL := Lib.hid hyl; clear hyl
            go_wp2_with fail
            refine (c_one w.heap.size _ 12 _ hcur (by omega) (by omega) (by omega)).mono ?_
            rintro e w4 ⟨b4, rfl, hc4, hg4⟩
            have ho4 : Own w4 (w.heap.size + 1) (.slice (some ⟨g, 0, none⟩) ny cap3) ys := World.ownsRow.kept HO.out hg4 (.inr (by simp [Value.ownBlock]; omega))
            have B4 : Below w.heap.size w w4 := hbr.grown hg4 hsz (fun k hk => by simp at hk; omega)
            have hs4 := B4.size
            cases b4 with
            | false =>
              go_wp2
              go_ret
              exact ⟨_, ys, by rw [HYL.out]; omega, rfl, ho4.mono (by omega), B4⟩
            | true =>
              have O4 := Lib.hid ho4; clear ho4
              go_wp2_with fail
              refine (c_size w.heap.size _ _ hc4 (by omega)).mono ?_
              rintro e w5 ⟨z, hz, rfl, hc5, hg5⟩
              have ho5 : Own w5 (w.heap.size + 1) (.slice (some ⟨g, 0, none⟩) ny cap3) ys := World.ownsRow.kept O4.out hg5 (.inr (by simp [Value.ownBlock]; omega))
              have B5 : Below w.heap.size w w5 := B4.grown hg5 hs4 (fun k hk => by simp at hk; omega)
              have ho5' : w5.ownsRow (w.heap.size + 1) 3 1 (.slice (some ⟨g, 0, none⟩) ny cap3) ny (ys.map (Value.int .i64)) := by
                have := ho5; unfold Own at this; rwa [HYL.out] at this
              have hfr := ho5'.frozenAt 0
              obtain ⟨x0, hx0⟩ : ∃ x, w5.cell? ⟨g, 0, none⟩ = some x := by
                rw [ho5'.cellAt 0 (by omega), List.getElem?_map, List.getElem?_eq_getElem (by rw [HYL.out]; omega)]
                exact ⟨_, rfl⟩
              obtain ⟨s1, s2⟩ := ho5'.stored 0 (.int .i64 z)
              have S1 : Hid (Own (w5.setCell ⟨g, 0, none⟩ (.int .i64 z)) (w.heap.size + 1) (.slice (some ⟨g, 0, none⟩) ny cap3) (ys.set 0 z)) := by
                unfold Hid Own
                rw [List.length_set, HYL.out, List.map_set]
                exact s1
              have S2 := Lib.hid (B5.setCell (p := ⟨g, 0, none⟩) (by show w.heap.size ≤ g; omega) (.int .i64 z))
              clear s1 s2 ho5 ho5'
              go_wp2
              go_ret
              exact ⟨_, ys.set 0 z, by rw [List.length_set, HYL.out]; omega, rfl, S1.out.mono (by omega), S2.out⟩
  | true =>
    go_wp2_with fail
    refine (c_pick w.heap.size 4 2 _ hc2 (by omega) (by omega) (by omega)).mono ?_
    rintro e w3 ⟨y, hy, rfl, hc3, hg3⟩
    have B3 : Below w.heap.size w w3 := B2.grown hg3 B2.size (fun k hk => by simp at hk; omega)
    have hcL := hc3; have BL := B3
    obtain ⟨N, rfl⟩ := Int.eq_ofNat_of_zero_le hy.1
    have hNL : 40 + N ≤ 41 := by omega
    clear hc2 B2 hx hg1 hc1 B1 HC hg2 hc3 B3 hy hg3
    go_wp2
    go_loopw [4, 5] (fun l i wr => ∃ (ys : List Int) (j : Nat), i = .int .i64 j ∧ ys.length + j ≤ 41 ∧ Own wr (w.heap.size + 1) l ys ∧ CurIs wr w.heap.size (6 + 2 * ys.length) ∧ Below w.heap.size w wr) (fun _ i _ => (intOf i).toNat)
    case atStart => exact ⟨[], 40 + N, by simp, by simp; omega, World.ownsRow_nil _ _ _ _, hcL, BL⟩
    case round =>
      obtain ⟨ys, j, rfl, hlen, hown, hcur, hbr⟩ := hrel
      have hsz := hbr.size
      have hclt := hcur.lt
      have HO := Lib.hid hown; have HLEN := Lib.hid hlen
      clear hcL BL
      by_cases hj : 0 < j
      · go_wp2_with fail
        refine (c_pick w.heap.size _ 256 _ hcur (by omega) (by omega) (by omega)).mono ?_
        rintro e w4 ⟨z, hz, rfl, hc4, hg4⟩
        have ho4 : Own w4 (w.heap.size + 1) _ ys := World.ownsRow.kept HO.out hg4 (by
          cases hob : Value.ownBlock _ with
          | none => exact .inl rfl
          | some k => exact .inr (by have := (World.ownsRow.lt HO.out k hob).1; simp; omega))
        have B4 : Below w.heap.size w w4 := hbr.grown hg4 hsz (fun k hk => by simp at hk; omega)
        have hs4 := B4.size
        have hclt4 := hc4.lt
        go_wp2_with (at_builtin; refine wpList_append_own _ rfl _ _ 28 rfl (w.heap.size + 1) 3 i0 (.int .i64 0) 1 8 Tryd.underlying28 hi hz0 hz1 hz2 rfl (by decide) _ _ _ rfl (World.ownsRow.alloc ho4 _) ⟨w4.heap.size, 0, none⟩ 1 1 [.int .i64 (1 + z)] rfl rfl ?c1 ?c2 ?c3 ?c4 ?c5 ?_)
        case c1 =>
          intro j u hj
          match j, hj with
          | 0, hj => simp at hj; subst hj; simp [Addr.add]
        case c2 => intro u hu; simp at hu; subst hu; rfl
        case c3 => unfold maxLen; omega
        case c4 => omega
        case c5 => simp; omega
        intro v' w5 hown' hgrow _
        have R := (B4.alloc hs4 _).grown hgrow (by simp; omega) (fun k hk => by have := (World.ownsRow.lt ho4 k hk).1; omega)
        have RC : CurIs w5 w.heap.size (6 + 2 * (ys ++ [1 + z]).length) := by
          have h1 := (hc4.kept (w' := w4.alloc (.cells #[.int .i64 (1 + z)] 3)) (fun k hk => Below.heap_alloc _ _ _ (by omega))).kept (w' := w5) (fun k hk => hgrow.block k (by simp; omega) (fun e => by have := (World.ownsRow.lt ho4 k e.symm).1; omega))
          exact h1.mono (by simp; omega)
        have hown'' := own_append hown'
        clear hgrow hown' ho4
        go_wp2
        go_roundw
        case rel => exact ⟨ys ++ [1 + z], j - 1, by go_num, by simp; omega, hown'', RC, R⟩
        case measure => simp [intOf]; omega
      · obtain rfl : j = 0 := by omega
        rcases hown.2 with ⟨hv3, hy0⟩ | ⟨g, cap3, cur3, hv3, hg3, hrest⟩
        · subst hv3
          clear hown
          go_wp2
          go_ret
          exact ⟨_, ys, by omega, rfl, HO.out.mono (by omega), hbr⟩
        · subst hv3
          clear hown hrest
          by_cases hy0 : ys.length = 0
          · obtain rfl : ys = [] := List.eq_nil_of_length_eq_zero hy0
            clear hy0
            go_wp2
            go_ret
            exact ⟨_, [], by simp, rfl, HO.out.mono (by omega), hbr⟩
          · have hpos : (0 : Int) < (ys.length : Int) := by omega
            generalize hyl : ys.length = ny at *
            have HYL := Lib.hid hyl; clear hyl
            go_wp2_with fail
            refine (c_one w.heap.size _ 12 _ hcur (by omega) (by omega) (by omega)).mono ?_
            rintro e w4 ⟨b4, rfl, hc4, hg4⟩
            have ho4 : Own w4 (w.heap.size + 1) (.slice (some ⟨g, 0, none⟩) ny cap3) ys := World.ownsRow.kept HO.out hg4 (.inr (by simp [Value.ownBlock]; omega))
            have B4 : Below w.heap.size w w4 := hbr.grown hg4 hsz (fun k hk => by simp at hk; omega)
            have hs4 := B4.size
            cases b4 with
            | false =>
              go_wp2
              go_ret
              exact ⟨_, ys, by rw [HYL.out]; omega, rfl, ho4.mono (by omega), B4⟩
            | true =>
              have O4 := Lib.hid ho4; clear ho4
              go_wp2_with fail
              refine (c_size w.heap.size _ _ hc4 (by omega)).mono ?_
              rintro e w5 ⟨z, hz, rfl, hc5, hg5⟩
              have ho5 : Own w5 (w.heap.size + 1) (.slice (some ⟨g, 0, none⟩) ny cap3) ys := World.ownsRow.kept O4.out hg5 (.inr (by simp [Value.ownBlock]; omega))
              have B5 : Below w.heap.size w w5 := B4.grown hg5 hs4 (fun k hk => by simp at hk; omega)
              have ho5' : w5.ownsRow (w.heap.size + 1) 3 1 (.slice (some ⟨g, 0, none⟩) ny cap3) ny (ys.map (Value.int .i64)) := by
                have := ho5; unfold Own at this; rwa [HYL.out] at this
              have hfr := ho5'.frozenAt 0
              obtain ⟨x0, hx0⟩ : ∃ x, w5.cell? ⟨g, 0, none⟩ = some x := by
                rw [ho5'.cellAt 0 (by omega), List.getElem?_map, List.getElem?_eq_getElem (by rw [HYL.out]; omega)]
                exact ⟨_, rfl⟩
              obtain ⟨s1, s2⟩ := ho5'.stored 0 (.int .i64 z)
              have S1 : Hid (Own (w5.setCell ⟨g, 0, none⟩ (.int .i64 z)) (w.heap.size + 1) (.slice (some ⟨g, 0, none⟩) ny cap3) (ys.set 0 z)) := by
                unfold Hid Own
                rw [List.length_set, HYL.out, List.map_set]
                exact s1
              have S2 := Lib.hid (B5.setCell (p := ⟨g, 0, none⟩) (by show w.heap.size ≤ g; omega) (.int .i64 z))
              clear s1 s2 ho5 ho5'
              go_wp2
              go_ret
              exact ⟨_, ys.set 0 z, by rw [List.length_set, HYL.out]; omega, rfl, S1.out.mono (by omega), S2.out⟩
end Go.Proofs.YtlaembbgjgpmbaaDoor
