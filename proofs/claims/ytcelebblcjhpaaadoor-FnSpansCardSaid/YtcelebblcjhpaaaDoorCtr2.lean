/- Contracts of both sides' ClassesOf, ClassFor and WasteOf. -/
import Derived.Test.YtcelebblcjhpaaaDoorCtr1
namespace Go.Proofs.YtcelebblcjhpaaaDoor
open Go.RowKit

/-- The shape of a slice that owns the table's row, and its cells. -/
def RowAt (w : World) (g : Nat) : Prop := ∀ k, k < 41 → w.cell? ⟨g, k, none⟩ = some (.int .i64 (Pl.at_ k))
theorem row_shape {w : World} {base : Nat} {v : Value} (h : w.ownsRow base 3 1 v 41 (rowOf 41)) : ∃ g cap, v = .slice (some ⟨g, 0, none⟩) 41 cap ∧ RowAt w g := by
  have h' := h
  obtain ⟨h1, h2⟩ := h
  rcases h2 with ⟨_, h2⟩ | ⟨g, cap, cur, rfl, hg, hh, _⟩
  · omega
  · refine ⟨g, cap, rfl, fun k hk => ?_⟩
    rw [h'.cellAt k (by omega)]
    unfold rowOf
    rw [List.getElem?_map, show Pl.tab.take 41 = Pl.tab from rfl, Pl.at_get k hk]
    rfl

set_option maxHeartbeats 400000 in
set_option maxRecDepth 100000 in
theorem c_implClassesOf (w : World) (hT : TabW w) : Calls Tryd.prog 18 #[] w fun e w' => ∃ v, e = .returned v ∧ w'.ownsRow w.heap.size 3 1 v 41 (rowOf 41) ∧ Below w.heap.size w w' := by
  obtain ⟨i0, hi, hz0, hz1, hz2⟩ := info_parts info_int
  have hpos := hT.pos
  go_enter Tryd.func18, Tryd.ntmps18
  go_wp2_with (first
    | (refine wpList_make_own _ rfl _ _ 23 rfl w.heap.size 3 i0 (.int .i64 0) 1 Tryd.underlying23 hi hz0 hz1 .i64 .i64 41 41 rfl rfl rfl (by rw [hz2]; omega) (by decide) (Nat.le_refl _) ?_; intro w1 hown hgr; have hb := (Below.refl w.heap.size w).grown hgr (Nat.le_refl _) (fun k hk => by cases hk); have hT1 := hT.below hb hpos; have HO := Lib.hid hown; clear hown hgr)
    | (refine wpList_load_cells rfl 86 _ rfl 0 rfl (Pl.tab.map (Value.int .i64)) _ (tab_cells hT1) Tryd.underlying86 rfl (by kernel_rfl) ?_; rw [show (Pl.tab.map (Value.int .i64)).toArray = tabAgg from rfl]))
  go_loopw [1, 6] (fun v i wr => ∃ k : Nat, k ≤ 41 ∧ i = .int .i64 k ∧ wr.ownsRow w.heap.size 3 1 v k (rowOf k) ∧ Below w.heap.size w wr) (fun _ i _ => 41 - (intOf i).toNat)
  case atStart => exact ⟨0, by omega, rfl, HO.out, hb⟩
  case round =>
    obtain ⟨k, hk, rfl, hown, hbr⟩ := hrel
    have hsz := hbr.size
    by_cases hlt : k < 41
    · have hix := fun w => tab_index w k hlt
      go_wp2_with (at_builtin; refine wpList_append_own _ rfl _ _ 23 rfl w.heap.size 3 i0 (.int .i64 0) 1 8 Tryd.underlying23 hi hz0 hz1 hz2 rfl (by decide) _ _ _ rfl (hown.alloc _) ⟨wr.heap.size, 0, none⟩ 1 1 [.int .i64 (Pl.at_ k)] rfl rfl ?c1 ?c2 ?c3 ?c4 ?c5 ?_)
      case c1 =>
        intro j u hj
        match j, hj with
        | 0, hj => simp at hj; subst hj; simp [Addr.add]
      case c2 => intro u hu; simp at hu; subst hu; rfl
      case c3 => unfold maxLen; omega
      case c4 => omega
      case c5 => simp; omega
      intro v' w1 hown' hgrow _
      have R := (hbr.alloc hsz _).grown hgrow (by simp; omega) (fun k hk => (hown.lt k hk).1)
      clear hgrow hown
      go_wp2
      go_roundw
      case rel => exact ⟨k + 1, by omega, by go_num, by rw [rowOf_succ k hlt]; exact hown', R⟩
      case measure => simp [intOf]; omega
    · obtain rfl : k = 41 := by omega
      go_wp2
      go_ret
      exact ⟨_, rfl, hown, hbr⟩

end Go.Proofs.YtcelebblcjhpaaaDoor
