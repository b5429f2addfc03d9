/- Which run ends at a page; what is given to the map. -/
import Derived.Test.YtdiejmebodpjeaaMw5
namespace Go.Proofs.Ytdiejmebodpjeaa
open Go.RowKit Go.Maps Go.Sort Pr

set_option maxRecDepth 100000 in
set_option maxHeartbeats 1600000 in
theorem c_endingAt (b n : Nat) (rs : List (Int × Int)) (page : Int) (w : World) (hM : MapR w b n rs) (hg : good 0 rs = true) :
    Calls Try.prog 61 #[.map (some b), .int .i64 page] w fun e w' => e = .returned (.tuple #[.int .i64 ((endR page rs).getD 0), .bool (endR page rs).isSome]) ∧ Below w.heap.size w w' := by
  have hbl : b < w.heap.size := World.ownsMap.lt hM
  have HM := Lib.hid hM
  have HG := Lib.hid hg
  clear hM hg
  go_enter Try.func61, Try.ntmps61
  go_wp2_with (first
    | (at_range; refine wpList_range_own _ rfl _ 63 rfl 3 3 lawI Try.underlying63 _ b n _ rfl HM.out ?_; intro w0 hrg0 hg0 hs0)
    | go_in)
  go_frame
  have hb0 := (Below.refl w.heap.size w).grown hg0 (Nat.le_refl _) (fun j hj => by cases hj)
  clear hs0 hg0
  go_loopw [6] (fun _ wr => ∃ (left : Lit → Bool) (cnt : Nat), wr.ranges Try.prog 3 (plainElem Try.prog 3) b w.heap.size n (mapD Unit rs) left cnt ∧
      Hid (∀ x ∈ rs, left (.int .i64 x.1) = false → x.1 + x.2 ≠ page) ∧ Below w.heap.size w wr)
    (fun _ wr => wr.rangeLeft b w.heap.size)
  case atStart => exact ⟨_, _, hrg0, (fun x hx hl => by rw [has_mapD, lookR_mem (good_sort HG.out) hx] at hl; cases hl), hb0⟩
  case round =>
    obtain ⟨left, cnt, hrg, hno, hnx⟩ := hrel
    go_wp2_with (first
      | (at_next; refine wpList_next_ranges_ii _ rfl _ rfl 3 3 .i64 .i64 lawI Try.underlying3 Try.underlying3 b w.heap.size n _ _ _ rfl hrg ?_ ?_)
      | go_in)
    · intro hc0 hl0
      have HF : Hid (endR page rs = none) := by
        unfold Hid
        cases e : endR page rs with
        | none => rfl
        | some y =>
          obtain ⟨x, hx, _, h2⟩ := endR_some e
          exact absurd h2 (hno.out x hx (hl0 _))
      go_wp2
      go_ret2
      exact ⟨by rw [HF.out]; rfl, hnx⟩
    · intro x c w2 cnt2 hwx hwc hlx hat hrg2 hlt hg2 hs2 hen
      have HAT := Lib.hid (look_of_at hat)
      have hmem := lookR_some HAT.out
      have hxo := (okR_iff _).1 (good_mem HG.out _ hmem).1
      simp only [] at hxo
      have HB2 := Lib.hid (hnx.grown hg2 hnx.size (fun j hj => by cases hj; exact Nat.le_refl _))
      clear hs2 hat hwx hwc
      by_cases d : x + c = page
      · have HT : Hid (endR page rs = some x) := endR_eq HG.out hmem d
        have hd : (x + c == page) = true := by simpa using d
        clear hmem d
        go_wp2
        go_ret2
        exact ⟨by rw [HT.out]; rfl, HB2.out⟩
      · have HNO : Hid (∀ y ∈ rs, (left (.int .i64 y.1) && !(Lit.int .i64 y.1).sameKey (.int .i64 x)) = false → y.1 + y.2 ≠ page) := fun y hy hl => by
          by_cases e : y.1 = x
          · have := sort_inj (good_sort HG.out) hy hmem e
            subst this
            exact d
          · exact hno.out y hy (by simpa [Lit.sameKey, e] using hl)
        have hd : (x + c == page) = false := by simpa using d
        clear hmem d
        go_wp2
        go_roundw
        case rel => exact ⟨_, cnt2, hrg2, HNO.out, HB2.out⟩
        case measure => rw [hrg2.left_eq, hrg.left_eq]; exact hlt

theorem MapR.setCell {w : World} {b n : Nat} {rs : List R} (h : MapR w b n rs) {g k : Nat} (hne : b ≠ g) (x : Value) : MapR (w.setCell ⟨g, k, none⟩ x) b n rs := World.ownsMap.setCell h (a := ⟨g, k, none⟩) hne x
theorem grownBy_set {w0 w w' : World} {b g k : Nat} (hg : w.grownBy w' (some b)) (x : Value) (hw : w0.heap.size ≤ g) (h0 : w0.grownBy w (some b)) : w0.grownBy (w'.setCell ⟨g, k, none⟩ x) (some b) := by
  have h1 := grownBy_trans h0 hg
  refine ⟨h1.os, h1.tape, h1.output, ?_, fun i hi hne => ?_⟩
  · have := h1.size; simpa [World.setCell] using this
  · rw [heap_setCell_other w' ⟨g, k, none⟩ i _ (by simp; omega)]
    exact h1.block i hi hne

set_option maxRecDepth 100000 in
set_option maxHeartbeats 1600000 in
theorem c_give_00 (b n : Nat) (rs : List (Int × Int)) (r1 r2 : Int) (w : World) (hM : MapR w b n rs) (hn : n ≤ 900) (hg : good 0 rs = true) (hr : okR (r1, r2) = true) (hl : lookR (r1 + r2) rs = none) (he : endR r1 (rs) = none) :
    Calls Try.prog 51 #[.map (some b), rn (r1, r2)] w fun e w' => e = .returned (.tuple #[]) ∧ MapR w' b (n + 1) (putR r1 r2 (rs)) ∧ w.grownBy w' (some b) := by
  have hbl : b < w.heap.size := World.ownsMap.lt hM
  obtain ⟨o1, o2, o3⟩ := (okR_iff _).1 hr
  simp only [] at o1 o2 o3
  have hgl := hg
  have hm0 := hM.below (below1 w (.cells (cr (r1, r2)) 33))
  have hrun := hm0.look_ok (k := r1 + r2) (by omega)
  rw [hl] at hrun
  simp only [Option.getD_none, Option.isSome_none] at hrun
  have HE : Hid (∀ w : World, MapR w b n (rs) → Calls Try.prog 61 #[.map (some b), .int .i64 r1] w fun e w' => e = .returned (.tuple #[.int .i64 0, .bool false]) ∧ Below w.heap.size w w') := fun w h => by
    have := c_endingAt b n (rs) r1 w h hgl
    rw [he] at this
    exact this
  have R0 := Row.new w 33 (cr (r1, r2))
  have hg0 := grown_of_below (below1 w (.cells (cr (r1, r2)) 33)) (some b)
  have HM0 := Lib.hid hm0; have HR0 := Lib.hid R0; have HG0 := Lib.hid hg0
  have hne : b ≠ w.heap.size := by omega
  clear hM hm0 R0 hg0 hr hg hgl hl he
  go_enter Try.func51, Try.ntmps51
  go_wp2_with (first
    | (go_at_call 61; refine (HE.out _ HM0.out).mono ?_; rintro e w4 ⟨rfl, hb4⟩; have R4 := Row.below HR0.out hb4; have d0 : w4.cell? ⟨w.heap.size, 0, none⟩ = some (.int .i64 r1) := R4.cell 0; have d1 : w4.cell? ⟨w.heap.size, 0 + 1, none⟩ = some (.int .i64 r2) := R4.cell 1; have hm4 := HM0.out.below hb4; have HG4 := Lib.hid (grownBy_trans HG0.out (grown_of_below hb4 (some b))); have hrun4 := hm4.look (k := r1) (by omega); clear hrun4; have HM4 := Lib.hid hm4; clear hm4 hb4 R4)
    | (at_mapUpdate; refine wl_putR (w := w4) rfl _ _ _ rfl b n _ _ _ rfl HM4.out (by omega) rfl rfl (by omega) (by omega) ?_; intro w5 hm5 hg5)
    | go_in)
  go_end0
  exact ⟨rfl, hm5, grownBy_trans HG4.out hg5⟩
set_option maxRecDepth 100000 in
set_option maxHeartbeats 1600000 in
theorem c_give_01 (b n : Nat) (rs : List (Int × Int)) (r1 r2 : Int) (w : World) (hM : MapR w b n rs) (hn : n ≤ 900) (hg : good 0 rs = true) (hr : okR (r1, r2) = true) (hl : lookR (r1 + r2) rs = none) (y x : Int) (he : endR r1 (rs) = some y) (hx : lookR y (rs) = some x) :
    Calls Try.prog 51 #[.map (some b), rn (r1, r2)] w fun e w' => e = .returned (.tuple #[]) ∧ MapR w' b (n + 1) (putR y (x + r2) (rs)) ∧ w.grownBy w' (some b) := by
  have hbl : b < w.heap.size := World.ownsMap.lt hM
  obtain ⟨o1, o2, o3⟩ := (okR_iff _).1 hr
  simp only [] at o1 o2 o3
  have hgl := hg
  have hxo := (okR_iff _).1 (good_mem hgl _ (lookR_some hx)).1
  simp only [] at hxo
  have hm0 := hM.below (below1 w (.cells (cr (r1, r2)) 33))
  have hrun := hm0.look_ok (k := r1 + r2) (by omega)
  rw [hl] at hrun
  simp only [Option.getD_none, Option.isSome_none] at hrun
  have HE : Hid (∀ w : World, MapR w b n (rs) → Calls Try.prog 61 #[.map (some b), .int .i64 r1] w fun e w' => e = .returned (.tuple #[.int .i64 y, .bool true]) ∧ Below w.heap.size w w') := fun w h => by
    have := c_endingAt b n (rs) r1 w h hgl
    rw [he] at this
    exact this
  have R0 := Row.new w 33 (cr (r1, r2))
  have hg0 := grown_of_below (below1 w (.cells (cr (r1, r2)) 33)) (some b)
  have HM0 := Lib.hid hm0; have HR0 := Lib.hid R0; have HG0 := Lib.hid hg0
  have hne : b ≠ w.heap.size := by omega
  clear hM hm0 R0 hg0 hr hg hgl hl he
  go_enter Try.func51, Try.ntmps51
  go_wp2_with (first
    | (go_at_call 61; refine (HE.out _ HM0.out).mono ?_; rintro e w4 ⟨rfl, hb4⟩; have R4 := Row.below HR0.out hb4; have d0 : w4.cell? ⟨w.heap.size, 0, none⟩ = some (.int .i64 r1) := R4.cell 0; have d1 : w4.cell? ⟨w.heap.size, 0 + 1, none⟩ = some (.int .i64 r2) := R4.cell 1; have hm4 := HM0.out.below hb4; have HG4 := Lib.hid (grownBy_trans HG0.out (grown_of_below hb4 (some b))); have hrun4 := hm4.look (k := y) (by omega); rw [hx] at hrun4; simp only [Option.getD_some] at hrun4; have HM4 := Lib.hid hm4; clear hm4 hb4 R4)
    | (at_mapUpdate; refine wl_putR (w := w4) rfl _ _ _ rfl b n _ _ _ rfl HM4.out (by omega) rfl rfl (by omega) (by omega) ?_; intro w5 hm5 hg5)
    | go_in)
  (try simp only [Exit.inBlock, Exit.then])
  refine bodyPost_ret (results_none rfl _ _ _) rfl ?_
  exact ⟨rfl, hm5, grownBy_trans HG4.out hg5⟩
set_option maxRecDepth 100000 in
set_option maxHeartbeats 1600000 in
theorem c_give_10 (b n : Nat) (rs : List (Int × Int)) (r1 r2 : Int) (w : World) (hM : MapR w b n rs) (hn : n ≤ 900) (hg : good 0 rs = true) (hr : okR (r1, r2) = true) (v : Int) (hl : lookR (r1 + r2) rs = some v) (he : endR r1 (delR (r1 + r2) rs) = none) :
    Calls Try.prog 51 #[.map (some b), rn (r1, r2)] w fun e w' => e = .returned (.tuple #[]) ∧ MapR w' b (n + 1) (putR r1 (r2 + v) (delR (r1 + r2) rs)) ∧ w.grownBy w' (some b) := by
  have hbl : b < w.heap.size := World.ownsMap.lt hM
  obtain ⟨o1, o2, o3⟩ := (okR_iff _).1 hr
  simp only [] at o1 o2 o3
  have hvo := (okR_iff _).1 (good_mem hg _ (lookR_some hl)).1
  simp only [] at hvo
  have hgl := good_delR hg (r1 + r2)
  have hm0 := hM.below (below1 w (.cells (cr (r1, r2)) 33))
  have hrun := hm0.look_ok (k := r1 + r2) (by omega)
  rw [hl] at hrun
  simp only [Option.getD_some, Option.isSome_some] at hrun
  have HE : Hid (∀ w : World, MapR w b n (delR (r1 + r2) rs) → Calls Try.prog 61 #[.map (some b), .int .i64 r1] w fun e w' => e = .returned (.tuple #[.int .i64 0, .bool false]) ∧ Below w.heap.size w w') := fun w h => by
    have := c_endingAt b n (delR (r1 + r2) rs) r1 w h hgl
    rw [he] at this
    exact this
  have R0 := Row.new w 33 (cr (r1, r2))
  have hg0 := grown_of_below (below1 w (.cells (cr (r1, r2)) 33)) (some b)
  have HM0 := Lib.hid hm0; have HR0 := Lib.hid R0; have HG0 := Lib.hid hg0
  have hne : b ≠ w.heap.size := by omega
  clear hM hm0 R0 hg0 hr hg hgl hl he
  go_enter Try.func51, Try.ntmps51
  go_wp2_with (first
    | (at_delete; refine wl_delR (w := _) rfl _ _ rfl b n rs (r1 + r2) rfl HM0.out rfl (by omega) ?_; intro w1 hm1 hg1; have R1 := Row.grownBy HR0.out hg1 (by intro e; cases e; omega); have c0 : w1.cell? ⟨w.heap.size, 0, none⟩ = some (.int .i64 r1) := R1.cell 0; have c1 : w1.cell? ⟨w.heap.size, 0 + 1, none⟩ = some (.int .i64 r2) := R1.cell 1; have f1 : w1.frozen? ⟨w.heap.size, 0 + 1, none⟩ = false := R1.frozen 1; have HM1 := Lib.hid (hm1.setCell (k := 0 + 1) hne (.int .i64 (r2 + v))); have HR1 := Lib.hid (R1.set 1 (.int .i64 (r2 + v))); have HG1 := Lib.hid (grownBy_set (k := 0 + 1) hg1 (.int .i64 (r2 + v)) (Nat.le_refl w.heap.size) HG0.out); clear hm1 hg1)
    | (go_at_call 61; refine (HE.out _ HM1.out).mono ?_; rintro e w4 ⟨rfl, hb4⟩; have R4 := Row.below HR1.out hb4; have d0 : w4.cell? ⟨w.heap.size, 0, none⟩ = some (.int .i64 r1) := R4.cell 0; have d1 : w4.cell? ⟨w.heap.size, 0 + 1, none⟩ = some (.int .i64 (r2 + v)) := R4.cell 1; have hm4 := HM1.out.below hb4; have HG4 := Lib.hid (grownBy_trans HG1.out (grown_of_below hb4 (some b))); have hrun4 := hm4.look (k := r1) (by omega); clear hrun4; have HM4 := Lib.hid hm4; clear hm4 hb4 R4)
    | (at_mapUpdate; refine wl_putR (w := w4) rfl _ _ _ rfl b n _ _ _ rfl HM4.out (by omega) rfl rfl (by omega) (by omega) ?_; intro w5 hm5 hg5)
    | go_in)
  go_end0
  exact ⟨rfl, hm5, grownBy_trans HG4.out hg5⟩
set_option maxRecDepth 100000 in
set_option maxHeartbeats 1600000 in
theorem c_give_11 (b n : Nat) (rs : List (Int × Int)) (r1 r2 : Int) (w : World) (hM : MapR w b n rs) (hn : n ≤ 900) (hg : good 0 rs = true) (hr : okR (r1, r2) = true) (v : Int) (hl : lookR (r1 + r2) rs = some v) (y x : Int) (he : endR r1 (delR (r1 + r2) rs) = some y) (hx : lookR y (delR (r1 + r2) rs) = some x) :
    Calls Try.prog 51 #[.map (some b), rn (r1, r2)] w fun e w' => e = .returned (.tuple #[]) ∧ MapR w' b (n + 1) (putR y (x + (r2 + v)) (delR (r1 + r2) rs)) ∧ w.grownBy w' (some b) := by
  have hbl : b < w.heap.size := World.ownsMap.lt hM
  obtain ⟨o1, o2, o3⟩ := (okR_iff _).1 hr
  simp only [] at o1 o2 o3
  have hvo := (okR_iff _).1 (good_mem hg _ (lookR_some hl)).1
  simp only [] at hvo
  have hgl := good_delR hg (r1 + r2)
  have hxo := (okR_iff _).1 (good_mem hgl _ (lookR_some hx)).1
  simp only [] at hxo
  have hm0 := hM.below (below1 w (.cells (cr (r1, r2)) 33))
  have hrun := hm0.look_ok (k := r1 + r2) (by omega)
  rw [hl] at hrun
  simp only [Option.getD_some, Option.isSome_some] at hrun
  have HE : Hid (∀ w : World, MapR w b n (delR (r1 + r2) rs) → Calls Try.prog 61 #[.map (some b), .int .i64 r1] w fun e w' => e = .returned (.tuple #[.int .i64 y, .bool true]) ∧ Below w.heap.size w w') := fun w h => by
    have := c_endingAt b n (delR (r1 + r2) rs) r1 w h hgl
    rw [he] at this
    exact this
  have R0 := Row.new w 33 (cr (r1, r2))
  have hg0 := grown_of_below (below1 w (.cells (cr (r1, r2)) 33)) (some b)
  have HM0 := Lib.hid hm0; have HR0 := Lib.hid R0; have HG0 := Lib.hid hg0
  have hne : b ≠ w.heap.size := by omega
  clear hM hm0 R0 hg0 hr hg hgl hl he
  go_enter Try.func51, Try.ntmps51
  go_wp2_with (first
    | (at_delete; refine wl_delR (w := _) rfl _ _ rfl b n rs (r1 + r2) rfl HM0.out rfl (by omega) ?_; intro w1 hm1 hg1; have R1 := Row.grownBy HR0.out hg1 (by intro e; cases e; omega); have c0 : w1.cell? ⟨w.heap.size, 0, none⟩ = some (.int .i64 r1) := R1.cell 0; have c1 : w1.cell? ⟨w.heap.size, 0 + 1, none⟩ = some (.int .i64 r2) := R1.cell 1; have f1 : w1.frozen? ⟨w.heap.size, 0 + 1, none⟩ = false := R1.frozen 1; have HM1 := Lib.hid (hm1.setCell (k := 0 + 1) hne (.int .i64 (r2 + v))); have HR1 := Lib.hid (R1.set 1 (.int .i64 (r2 + v))); have HG1 := Lib.hid (grownBy_set (k := 0 + 1) hg1 (.int .i64 (r2 + v)) (Nat.le_refl w.heap.size) HG0.out); clear hm1 hg1)
    | (go_at_call 61; refine (HE.out _ HM1.out).mono ?_; rintro e w4 ⟨rfl, hb4⟩; have R4 := Row.below HR1.out hb4; have d0 : w4.cell? ⟨w.heap.size, 0, none⟩ = some (.int .i64 r1) := R4.cell 0; have d1 : w4.cell? ⟨w.heap.size, 0 + 1, none⟩ = some (.int .i64 (r2 + v)) := R4.cell 1; have hm4 := HM1.out.below hb4; have HG4 := Lib.hid (grownBy_trans HG1.out (grown_of_below hb4 (some b))); have hrun4 := hm4.look (k := y) (by omega); rw [hx] at hrun4; simp only [Option.getD_some] at hrun4; have HM4 := Lib.hid hm4; clear hm4 hb4 R4)
    | (at_mapUpdate; refine wl_putR (w := w4) rfl _ _ _ rfl b n _ _ _ rfl HM4.out (by omega) rfl rfl (by omega) (by omega) ?_; intro w5 hm5 hg5)
    | go_in)
  (try simp only [Exit.inBlock, Exit.then])
  refine bodyPost_ret (results_none rfl _ _ _) rfl ?_
  exact ⟨rfl, hm5, grownBy_trans HG4.out hg5⟩
theorem c_give (b n : Nat) (rs : List (Int × Int)) (r : Int × Int) (w : World) (hM : MapR w b n rs) (hn : n ≤ 900) (hg : good 0 rs = true) (hr : okR r = true) :
    Calls Try.prog 51 #[.map (some b), rn r] w fun e w' => e = .returned (.tuple #[]) ∧ MapR w' b (n + 1) (giveL rs r) ∧ w.grownBy w' (some b) := by
  obtain ⟨r1, r2⟩ := r
  unfold giveL joined
  simp only []
  cases hl : lookR (r1 + r2) rs with
  | none =>
    simp only []
    cases he : endR r1 rs with
    | none => exact c_give_00 b n rs r1 r2 w hM hn hg hr hl he
    | some y =>
      obtain ⟨x, hx, rfl, _⟩ := endR_some he
      have hlx := lookR_mem (good_sort hg) hx
      simp only [hlx, Option.getD_some]
      exact c_give_01 b n rs r1 r2 w hM hn hg hr hl x.1 x.2 he hlx
  | some v =>
    simp only []
    cases he : endR r1 (delR (r1 + r2) rs) with
    | none => exact c_give_10 b n rs r1 r2 w hM hn hg hr v hl he
    | some y =>
      obtain ⟨x, hx, rfl, _⟩ := endR_some he
      have hlx := lookR_mem (sort_delR (good_sort hg)) hx
      simp only [hlx, Option.getD_some]
      exact c_give_11 b n rs r1 r2 w hM hn hg hr v hl x.1 x.2 he hlx
end Go.Proofs.Ytdiejmebodpjeaa
