/- Contracts of both sides' ClassesOf, ClassFor and WasteOf. -/
import Derived.Test.YtlaembbgjgpmbaaDoorCtr1
namespace Go.Proofs.YtlaembbgjgpmbaaDoor
open Go.RowKit

/-- The shape of a slice that owns the table's row, and its cells. -/
def RowAt (w : World) (g : Nat) : Prop := ∀ k, k < 41 → w.cell? ⟨g, k, none⟩ = some (.int .i64 (Pl.at_ k))
theorem row_shape {w : World} {base : Nat} {v : Value} (h : w.ownsRow base 3 1 v 41 (rowOf 41)) : ∃ g cap, v = .slice (some ⟨g, 0, none⟩) 41 cap ∧ RowAt w g := by
  have h' := h
  obtain ⟨h1, h2⟩ := h
  rcases h2 with ⟨_, h2⟩ | ⟨g, cap, cur, rfl, hg, hh, _⟩
  · omega
  · refine ⟨g, cap, rfl, fun k hk => ?_⟩
    rw [h'.cellAt k (by omega)]
    unfold rowOf
    rw [List.getElem?_map, show Pl.tab.take 41 = Pl.tab from rfl, Pl.at_get k hk]
    rfl

set_option maxHeartbeats 400000 in
theorem c_implClassesOf (w : World) (hT : TabW w) : Calls Tryd.prog 17 #[] w fun e w' => ∃ v, e = .returned v ∧ w'.ownsRow w.heap.size 3 1 v 41 (rowOf 41) ∧ Below w.heap.size w w' := by
  obtain ⟨i0, hi, hz0, hz1, hz2⟩ := info_parts info_int
  have hpos := hT.pos
  go_enter Tryd.func17, Tryd.ntmps17
  go_wp2_with (first
    | (refine wpList_make_own _ rfl _ _ 28 rfl w.heap.size 3 i0 (.int .i64 0) 1 Tryd.underlying28 hi hz0 hz1 .i64 .i64 41 41 rfl rfl rfl (by rw [hz2]; omega) (by decide) (Nat.le_refl _) ?_; intro w1 hown hgr; have hb := (Below.refl w.heap.size w).grown hgr (Nat.le_refl _) (fun k hk => by cases hk); have hT1 := hT.below hb hpos; have HO := Lib.hid hown; clear hown hgr)
    | (refine wpList_load_cells rfl 44 _ rfl 0 rfl (Pl.tab.map (Value.int .i64)) _ (tab_cells hT1) Tryd.underlying44 rfl (by kernel_rfl) ?_; rw [show (Pl.tab.map (Value.int .i64)).toArray = tabAgg from rfl]))
  go_loopw [1, 6] (fun v i wr => ∃ k : Nat, k ≤ 41 ∧ i = .int .i64 k ∧ wr.ownsRow w.heap.size 3 1 v k (rowOf k) ∧ Below w.heap.size w wr) (fun _ i _ => 41 - (intOf i).toNat)
  case atStart => exact ⟨0, by omega, rfl, HO.out, hb⟩
  case round =>
    obtain ⟨k, hk, rfl, hown, hbr⟩ := hrel
    have hsz := hbr.size
    by_cases hlt : k < 41
    · have hix := fun w => tab_index w k hlt
      go_wp2_with (at_builtin; refine wpList_append_own _ rfl _ _ 28 rfl w.heap.size 3 i0 (.int .i64 0) 1 8 Tryd.underlying28 hi hz0 hz1 hz2 rfl (by decide) _ _ _ rfl (hown.alloc _) ⟨wr.heap.size, 0, none⟩ 1 1 [.int .i64 (Pl.at_ k)] rfl rfl ?c1 ?c2 ?c3 ?c4 ?c5 ?_)
      case c1 =>
        intro j u hj
        match j, hj with
        | 0, hj => simp at hj; subst hj; simp [Addr.add]
      case c2 => intro u hu; simp at hu; subst hu; rfl
      case c3 => unfold maxLen; omega
      case c4 => omega
      case c5 => simp; omega
      intro v' w1 hown' hgrow _
      have R := (hbr.alloc hsz _).grown hgrow (by simp; omega) (fun k hk => (hown.lt k hk).1)
      clear hgrow hown
      go_wp2
      go_roundw
      case rel => exact ⟨k + 1, by omega, by go_num, by rw [rowOf_succ k hlt]; exact hown', R⟩
      case measure => simp [intOf]; omega
    · obtain rfl : k = 41 := by omega
      go_wp2
      go_ret
      exact ⟨_, rfl, hown, hbr⟩

set_option maxHeartbeats 400000 in
theorem c_implClassFor (s : Int) (w : World) (hT : TabW w) : Calls Tryd.prog 13 #[.int .i64 s] w fun e w' => e = .returned (.tuple #[.int .i64 (Pl.cK s), .int .i64 (Pl.cN s), .bool (Pl.inR s)]) ∧ w = w' := by
  by_cases h : 1 ≤ s ∧ s ≤ 256
  · obtain ⟨h1, h2⟩ := h
    go_enter Tryd.func13, Tryd.ntmps13
    go_wp2_with (refine wpList_load_cells rfl 44 _ rfl 0 rfl (Pl.tab.map (Value.int .i64)) _ (tab_cells hT) Tryd.underlying44 rfl (by kernel_rfl) ?_; rw [show (Pl.tab.map (Value.int .i64)).toArray = tabAgg from rfl])
    go_loop [14] (fun i => ∃ k : Nat, k ≤ 41 ∧ i = .int .i64 k ∧ Pl.under s k) (fun i => 41 - (intOf i).toNat)
    case atStart => exact ⟨0, by omega, rfl, Pl.under_zero s⟩
    case round =>
      obtain ⟨k, hk, rfl, hu⟩ := hrel
      by_cases hlt : k < 41
      · have hix := fun w => tab_index w k hlt
        by_cases hge : s ≤ Pl.at_ k
        · obtain ⟨e1, e2⟩ := Pl.cK_found h1 h2 hlt hu hge
          have E1 := Lib.hid e1; have E2 := Lib.hid e2; clear e1 e2
          go_wp2
          go_ret3
          exact ⟨r_iib E1.out.symm E2.out.symm (Pl.inR_true h1 h2).symm, rfl⟩
        · go_wp2
          go_round
          case rel => exact ⟨k + 1, by omega, by go_num, Pl.under_succ hu (by omega)⟩
          case measure => simp [intOf]; omega
      · obtain rfl : k = 41 := by omega
        have := Pl.under_end hu
        omega
  · obtain ⟨e1, e2, e3⟩ := Pl.cK_no h
    rw [e1, e2, e3]
    clear e1 e2 e3
    by_cases h1 : 1 ≤ s
    all_goals
      go_enter Tryd.func13, Tryd.ntmps13
      go_wp2
      go_ret3
      exact ⟨rfl, rfl⟩

set_option maxHeartbeats 400000 in
theorem c_specClassFor (s : Int) (w : World) : Calls Tryd.prog 14 #[.int .i64 s] w fun e w' => e = .returned (.tuple #[.int .i64 (Pl.cK s), .int .i64 (Pl.cN s), .bool (Pl.inR s)]) ∧ Below w.heap.size w w' := by
  by_cases h : 1 ≤ s ∧ s ≤ 256
  · obtain ⟨h1, h2⟩ := h
    have hd : decide (1 ≤ s ∧ s ≤ 256) = true := decide_eq_true ⟨h1, h2⟩
    go_enter Tryd.func14, Tryd.ntmps14
    go_wp2_with (first
      | (go_at_call 35; refine (c_in _ _ _ _).mono ?_; rintro e w' ⟨rfl, rfl⟩; rw [hd])
      | (go_at_call 19; refine (c_specClassesOf _).mono ?_; rintro e w1 ⟨v, rfl, hown, hb⟩; obtain ⟨g, cap, rfl, hc⟩ := row_shape hown; clear hown))
    clear hd
    go_loop [12] (fun i => ∃ k : Nat, k ≤ 41 ∧ i = .int .i64 k ∧ Pl.under s k) (fun i => 41 - (intOf i).toNat)
    case atStart => exact ⟨0, by omega, rfl, Pl.under_zero s⟩
    case round =>
      obtain ⟨k, hk, rfl, hu⟩ := hrel
      by_cases hlt : k < 41
      · have hix := hc k hlt
        by_cases hge : s ≤ Pl.at_ k
        · obtain ⟨e1, e2⟩ := Pl.cK_found h1 h2 hlt hu hge
          have E1 := Lib.hid e1; have E2 := Lib.hid e2; clear e1 e2
          go_wp2
          go_ret3
          exact ⟨r_iib E1.out.symm E2.out.symm (Pl.inR_true h1 h2).symm, hb⟩
        · go_wp2
          go_round
          case rel => exact ⟨k + 1, by omega, by go_num, Pl.under_succ hu (by omega)⟩
          case measure => simp [intOf]; omega
      · obtain rfl : k = 41 := by omega
        have := Pl.under_end hu
        omega
  · obtain ⟨e1, e2, e3⟩ := Pl.cK_no h
    rw [e1, e2, e3]
    clear e1 e2 e3
    have hd : decide (1 ≤ s ∧ s ≤ 256) = false := decide_eq_false h
    go_enter Tryd.func14, Tryd.ntmps14
    go_wp2_with (go_at_call 35; refine (c_in _ _ _ _).mono ?_; rintro e w' ⟨rfl, rfl⟩; rw [hd])
    go_ret3
    exact ⟨rfl, Below.refl _ _⟩

theorem c_implWasteOf (s : Int) (w : World) (hT : TabW w) : Calls Tryd.prog 15 #[.int .i64 s] w fun e w' => e = .returned (.tuple #[.int .i64 (Pl.wst s), .bool (Pl.inR s)]) ∧ w = w' := by
  have hn := Pl.cN_bd s
  cases hr : Pl.inR s with
  | false =>
    have hw := Pl.wst_no hr
    have HW := Lib.hid hw; clear hw
    go_enter Tryd.func15, Tryd.ntmps15
    go_wp2_with (go_at_call 13; refine (c_implClassFor _ _ hT).mono ?_; rintro e w' ⟨rfl, rfl⟩)
    go_ret2
    exact ⟨r_ib HW.out.symm rfl, rfl⟩
  | true =>
    obtain ⟨h1, h2⟩ := Pl.inR_iff.1 hr
    have hw := Pl.wst_yes hr
    have HW := Lib.hid hw; clear hw
    go_enter Tryd.func15, Tryd.ntmps15
    go_wp2_with (go_at_call 13; refine (c_implClassFor _ _ hT).mono ?_; rintro e w' ⟨rfl, rfl⟩)
    go_ret2
    exact ⟨r_ib HW.out.symm rfl, rfl⟩
theorem c_specWasteOf (s : Int) (w : World) : Calls Tryd.prog 16 #[.int .i64 s] w fun e w' => e = .returned (.tuple #[.int .i64 (Pl.wst s), .bool (Pl.inR s)]) ∧ Below w.heap.size w w' := by
  have hn := Pl.cN_bd s
  cases hr : Pl.inR s with
  | false =>
    have hw := Pl.wst_no hr
    have HW := Lib.hid hw; clear hw
    go_enter Tryd.func16, Tryd.ntmps16
    go_wp2_with (go_at_call 14; refine (c_specClassFor _ _).mono ?_; rintro e w' ⟨rfl, hb⟩)
    go_ret2
    exact ⟨r_ib HW.out.symm rfl, hb⟩
  | true =>
    obtain ⟨h1, h2⟩ := Pl.inR_iff.1 hr
    have hw := Pl.wst_yes hr
    have HW := Lib.hid hw; clear hw
    go_enter Tryd.func16, Tryd.ntmps16
    go_wp2_with (go_at_call 14; refine (c_specClassFor _ _).mono ?_; rintro e w' ⟨rfl, hb⟩)
    go_ret2
    exact ⟨r_ib HW.out.symm rfl, hb⟩
end Go.Proofs.YtlaembbgjgpmbaaDoor
