/- What is taken of the map; does a run meet it; which run ends at a page. -/
import Derived.Test.YtdiejmebodpjeaaMw4
namespace Go.Proofs.Ytdiejmebodpjeaa
open Go.RowKit Go.Maps Go.Sort Pr

theorem grown_of_below {w w' : World} (hb : Below w.heap.size w w') (row : Option Nat) : w.grownBy w' row := ⟨hb.os, hb.tape, hb.output, hb.size, fun i hi _ => hb.block i hi⟩
theorem below_of_grown {B b : Nat} {w w' : World} (hg : w.grownBy w' (some b)) (hB : B ≤ w.heap.size) (hb : B ≤ b) : Below B w w' := (Below.refl B w).grown hg hB (fun j hj => by cases hj; exact hb)
/-- m[k] = v. -/
theorem wl_putR {ops : Array Oper} {rest : List Oper} {o : Oper} {a : Act} {w : World} {Q : Exit → Act → World → Prop} (hg : o.guard = none) (m x v : Operand) (hop : o.op = Op.mapUpdate 63 m x v)
    (b n : Nat) (rs : List R) (k z : Int) (hm : a.eval m = .map (some b)) (hown : MapR w b n rs) (hn : n ≤ 1000) (hx : a.eval x = .int .i64 k) (hv : a.eval v = .int .i64 z) (hk : -9223372036854775808 ≤ k ∧ k ≤ 9223372036854775807) (hz : -9223372036854775808 ≤ z ∧ z ≤ 9223372036854775807)
    (hK : ∀ w', MapR w' b (n + 1) (putR k z rs) → w.grownBy w' (some b) → wpList Try.prog ops Q rest (a.put o.dst undef) w') : wpList Try.prog ops Q (o :: rest) a w :=
  wpList_mapUpdate_own _ hg _ _ _ 63 hop 3 3 lawI Try.underlying63 _ b n _ hm hown (by unfold maxLen; omega) _ _ _ hx hv (keyI hk) _ [] (plainElem_int Try.underlying3 (wfI hz)) (fun w' h1 h2 => hK w' (by rw [put_mapD] at h1; exact h1) h2)
/-- delete(m, k). -/
theorem wl_delR {ops : Array Oper} {rest : List Oper} {o : Oper} {a : Act} {w : World} {Q : Exit → Act → World → Prop} (hg : o.guard = none) (m x : Operand) (hop : o.op = Op.call { callee := Callee.builtin Builtin.delete, args := #[m, x], argTypes := #[63, 3] })
    (b n : Nat) (rs : List R) (k : Int) (hm : a.eval m = .map (some b)) (hown : MapR w b n rs) (hx : a.eval x = .int .i64 k) (hk : -9223372036854775808 ≤ k ∧ k ≤ 9223372036854775807)
    (hK : ∀ w', MapR w' b n (delR k rs) → w.grownBy w' (some b) → wpList Try.prog ops Q rest (a.put o.dst (.tuple #[])) w') : wpList Try.prog ops Q (o :: rest) a w :=
  wpList_delete_own _ hg _ _ 63 3 hop 3 lawI Try.underlying63 _ b n _ hm hown _ _ hx (keyI hk) (fun w' h1 h2 => hK w' (by rw [del_mapD] at h1; exact h1) h2.grown)

set_option maxRecDepth 100000 in
set_option maxHeartbeats 800000 in
theorem c_take (b n : Nat) (rs : List (Int × Int)) (fr v long : Int) (w : World) (hM : MapR w b n rs) (hn : n ≤ 900) (hl : lookR fr rs = some v) (h0 : 0 ≤ fr ∧ fr ≤ 32) (h1 : 1 ≤ long ∧ long ≤ 32) (h2 : 0 ≤ v ∧ v ≤ 32) :
    Calls Try.prog 46 #[.map (some b), .int .i64 fr, .int .i64 long] w fun e w' => e = .returned (.tuple #[]) ∧ MapR w' b (n + 1) (if 0 < v - long then putR (fr + long) (v - long) (delR fr rs) else delR fr rs) ∧ w.grownBy w' (some b) := by
  have hrun := hM.look (k := fr) (by omega)
  rw [hl] at hrun
  simp only [Option.getD_some] at hrun
  have HM := Lib.hid hM
  clear hM hl
  by_cases c : v - long > 0
  · rw [if_pos (by omega)]
    go_enter Try.func46, Try.ntmps46
    go_wp2_with (first
      | (at_delete; refine wl_delR (w := w) rfl _ _ rfl b n rs fr rfl HM.out rfl (by omega) ?_; intro w1 hm1 hg1)
      | (at_mapUpdate; refine wl_putR (w := w1) rfl _ _ _ rfl b n (delR fr rs) (fr + long) (v - long) rfl hm1 (by omega) rfl rfl (by omega) (by omega) ?_; intro w2 hm2 hg2)
      | go_in)
    go_end0
    exact ⟨rfl, hm2, grownBy_trans hg1 hg2⟩
  · rw [if_neg (by omega)]
    go_enter Try.func46, Try.ntmps46
    go_wp2_with (first
      | (at_delete; refine wl_delR (w := w) rfl _ _ rfl b n rs fr rfl HM.out rfl (by omega) ?_; intro w1 hm1 hg1)
      | go_in)
    go_end0
    exact ⟨rfl, World.ownsMap.mono hm1 (by omega), hg1⟩

set_option maxRecDepth 100000 in
set_option maxHeartbeats 1600000 in
theorem c_meets (b n : Nat) (rs : List (Int × Int)) (r : Int × Int) (w : World) (hM : MapR w b n rs) (hg : good 0 rs = true) (hr : okR r = true) :
    Calls Try.prog 50 #[.map (some b), rn r] w fun e w' => e = .returned (.bool (meetsR rs r)) ∧ Below w.heap.size w w' := by
  obtain ⟨r1, r2⟩ := r
  have hbl : b < w.heap.size := World.ownsMap.lt hM
  have HM := Lib.hid (hM.below (below1 w (.cells (cr (r1, r2)) 33)))
  have HG := Lib.hid hg
  obtain ⟨o1, o2, o3⟩ := (okR_iff _).1 hr
  simp only [] at o1 o2 o3
  clear hM hg hr
  go_enter Try.func50, Try.ntmps50
  go_wp2_with (first
    | (at_range; refine wpList_range_own _ rfl _ 63 rfl 3 3 lawI Try.underlying63 _ b n _ rfl HM.out ?_; intro w0 hrg0 hg0 hs0)
    | go_in)
  go_frame
  simp only [World.size_alloc]
  have hrow : Row w0 w.heap.size 33 (cr (r1, r2)) := Row.grownBy (Row.new w _ _) hg0 (by simp)
  have hb0 := (below1 w (.cells (cr (r1, r2)) 33)).grown hg0 (by simp) (fun j hj => by cases hj)
  have e1 : (w.alloc (.cells (cr (r1, r2)) 33)).heap.size = w.heap.size + 1 := by simp
  rw [e1] at hrg0
  clear e1 hs0 hg0
  go_loopw [5] (fun _ wr => ∃ (left : Lit → Bool) (cnt : Nat), wr.ranges Try.prog 3 (plainElem Try.prog 3) b (w.heap.size + 1) n (mapD Unit rs) left cnt ∧
      Row wr w.heap.size 33 (cr (r1, r2)) ∧ Hid (∀ x ∈ rs, left (.int .i64 x.1) = false → r1 + r2 ≤ x.1 ∨ x.1 + x.2 ≤ r1) ∧ Below w.heap.size w wr)
    (fun _ wr => wr.rangeLeft b (w.heap.size + 1))
  case atStart => exact ⟨_, _, hrg0, hrow, (fun x hx hl => by rw [has_mapD, lookR_mem (good_sort HG.out) hx] at hl; cases hl), hb0⟩
  case round =>
    obtain ⟨left, cnt, hrg, hrw, hno, hnx⟩ := hrel
    go_wp2_with (first
      | (at_next; refine wpList_next_ranges_ii _ rfl _ rfl 3 3 .i64 .i64 lawI Try.underlying3 Try.underlying3 b (w.heap.size + 1) n _ _ _ rfl hrg ?_ ?_)
      | go_in)
    · intro hc0 hl0
      have HF : Hid (meetsR rs (r1, r2) = false) := by
        unfold Hid
        cases e : meetsR rs (r1, r2) with
        | false => rfl
        | true =>
          obtain ⟨x, hx, h1, h2⟩ := meetsR_true e
          have := hno.out x hx (hl0 _)
          simp only [] at h1 h2
          omega
      go_wp2
      go_ret
      exact ⟨r_b HF.out.symm, hnx⟩
    · intro x c w2 cnt2 hwx hwc hlx hat hrg2 hlt hg2 hs2 hen
      have HAT := Lib.hid (look_of_at hat)
      have hmem := lookR_some HAT.out
      have hxo := (okR_iff _).1 (good_mem HG.out _ hmem).1
      simp only [] at hxo
      have hrw2 : Row w2 w.heap.size 33 (cr (r1, r2)) := Row.grownBy hrw hg2 (by intro e; simp at e)
      have c0 : w2.cell? ⟨w.heap.size, 0, none⟩ = some (.int .i64 r1) := hrw2.cell 0
      have c1 : w2.cell? ⟨w.heap.size, 0 + 1, none⟩ = some (.int .i64 r2) := hrw2.cell 1
      have HB2 := Lib.hid (hnx.grown hg2 hnx.size (fun j hj => by cases hj; exact Nat.le_succ _))
      clear hs2 hat hwx hwc
      by_cases d1 : x < r1 + r2
      · by_cases d2 : r1 < x + c
        · have HT : Hid (meetsR rs (r1, r2) = true) := by
            unfold Hid meetsR
            rw [List.any_eq_true]
            exact ⟨_, hmem, by simp [d1, d2]⟩
          clear hmem
          go_wp2
          go_ret
          exact ⟨r_b HT.out.symm, HB2.out⟩
        · have HNO : Hid (∀ y ∈ rs, (left (.int .i64 y.1) && !(Lit.int .i64 y.1).sameKey (.int .i64 x)) = false → r1 + r2 ≤ y.1 ∨ y.1 + y.2 ≤ r1) := fun y hy hl => by
            by_cases e : y.1 = x
            · have := sort_inj (good_sort HG.out) hy hmem e
              subst this
              simp only []; omega
            · exact hno.out y hy (by simpa [Lit.sameKey, e] using hl)
          clear hmem
          go_wp2
          go_roundw
          case rel => exact ⟨_, cnt2, hrg2, hrw2, HNO.out, HB2.out⟩
          case measure => rw [hrg2.left_eq, hrg.left_eq]; exact hlt
      · have HNO : Hid (∀ y ∈ rs, (left (.int .i64 y.1) && !(Lit.int .i64 y.1).sameKey (.int .i64 x)) = false → r1 + r2 ≤ y.1 ∨ y.1 + y.2 ≤ r1) := fun y hy hl => by
          by_cases e : y.1 = x
          · have := sort_inj (good_sort HG.out) hy hmem e
            subst this
            simp only []; omega
          · exact hno.out y hy (by simpa [Lit.sameKey, e] using hl)
        clear hmem
        go_wp2
        go_roundw
        case rel => exact ⟨_, cnt2, hrg2, hrw2, HNO.out, HB2.out⟩
        case measure => rw [hrg2.left_eq, hrg.left_eq]; exact hlt
end Go.Proofs.Ytdiejmebodpjeaa
