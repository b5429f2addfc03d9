/- Contracts of the table of size classes, of both sides' ClassesOf and ClassFor. -/
import Derived.Test.YtcelebblcjhpaaaDoorInts
import Derived.Test.YtcelebblcjhpaaaDoorPlain
import Derived.WalkKit
import Derived.WalkSpells
import Derived.WalkLawsBesides
import Derived.Lib.Hide
namespace Go.Proofs.YtcelebblcjhpaaaDoor
open Go.RowKit

/-- The package's table holds the sizes of the classes. -/
def TabW (w : World) : Prop := ∀ k, k < 41 → w.cell? ⟨0, k, none⟩ = some (.int .i64 (Pl.at_ k))
theorem TabW.pos {w : World} (h : TabW w) : 0 < w.heap.size := block_lt_of_cell (h 0 (by omega))
theorem TabW.below {B : Nat} {w w' : World} (h : TabW w) (hb : Below B w w') (hB : 0 < B) : TabW w' :=
  fun k hk => (hb.cell (p := ⟨0, k, none⟩) hB).trans (h k hk)

def tabAgg : Array Value := (Pl.tab.map (Value.int .i64)).toArray

theorem run_loadVar_cells {P : Program} (w : World) (g : Nat) (ty : TypeId) (vs : List Value) (d : TypeDesc) (hc : ∀ j v, vs[j]? = some v → w.cell? ⟨g, j, none⟩ = some v)
    (hu : P.underlying ty = some d) (hd : (match d with | .struct _ | .array _ _ => true | _ => false) = true) (hi : (P.info? ty).map (·.size) = some vs.length) :
    (loadVar ty ⟨g, 0, none⟩).run P w = .ok (.agg vs.toArray) w := by
  have hl : (loadCells ⟨g, 0, none⟩ vs.length).run P w = .ok vs.toArray w :=
    run_loadCells_list (P := P) w ⟨g, 0, none⟩ vs (fun j v hv => by
      have hadd : (⟨g, 0, none⟩ : Addr).add j = ⟨g, j, none⟩ := by unfold Addr.add; split <;> simp_all
      rw [hadd]
      exact hc j v hv)
  cases hq : P.info? ty with
  | none => simp [hq] at hi
  | some i =>
    have hs : i.size = vs.length := by simpa [hq] using hi
    have hagg : (isAgg ty).run P w = .ok true w := by
      unfold isAgg
      rw [Sem.run_bind, run_underlying hu w]
      cases d <;> simp_all
    simp [loadVar, Sem.run_bind, hagg, sizeOf, typeInfo, hq, hs, hl]

theorem wpList_load_cells {P : Program} {ops : Array Oper} {rest : List Oper} {o : Oper} {a : Act} {w : World} {Q : Exit → Act → World → Prop} (hgd : o.guard = none) (ty : TypeId) (x : Operand) (ho : o.op = .load ty x)
    (g : Nat) (hx : a.eval x = .pointer (some ⟨g, 0, none⟩)) (vs : List Value) (d : TypeDesc) (hc : ∀ j v, vs[j]? = some v → w.cell? ⟨g, j, none⟩ = some v)
    (hu : P.underlying ty = some d) (hd : (match d with | .struct _ | .array _ _ => true | _ => false) = true) (hi : (P.info? ty).map (·.size) = some vs.length)
    (h : wpList P ops Q rest (a.put o.dst (.agg vs.toArray)) w) : wpList P ops Q (o :: rest) a w :=
  wpList_plain hgd fun _ hK => by
    unfold Oper.wp execOp
    simp only [ho, hx, Instr.loadAt, Instr.sureAddr, Sem.run_bind, Sem.run_pure, Result.andThen_ok, run_loadVar_cells w g ty vs d hc hu hd hi]
    exact hK _ _ h

theorem tab_cells {w : World} (h : TabW w) : ∀ j v, (Pl.tab.map (Value.int .i64))[j]? = some v → w.cell? ⟨0, j, none⟩ = some v := by
  intro j v hv
  have hj : j < 41 := by
    have := (List.getElem?_eq_some_iff.1 hv).1
    simpa [Pl.len] using this
  rw [h j hj]
  rw [List.getElem?_map, Pl.at_get j hj] at hv
  simpa using hv

theorem tab_index (w : World) (k : Nat) (hk : k < 41) : (Instr.index 86 (.agg tabAgg) (.int .i64 (k : Int))).run Tryd.prog w = .ok (.int .i64 (Pl.at_ k)) w :=
  run_index_arr w _ 3 41 _ k _ .i64 Tryd.underlying86 Tryd.underlying3 (by kernel_rfl) hk (by
    unfold tabAgg
    rw [List.getElem?_toArray, List.getElem?_map, Pl.at_get k hk]
    rfl)

/-- Within bounds. -/
theorem c_in (n lo hi : Int) (w : World) : Calls Tryd.prog 60 #[.int .i64 n, .int .i64 lo, .int .i64 hi] w fun e w' => e = .returned (.bool (decide (lo ≤ n ∧ n ≤ hi))) ∧ w = w' := by
  by_cases h1 : lo ≤ n
  · by_cases h2 : n ≤ hi
    all_goals
      go_enter Tryd.func60, Tryd.ntmps60
      go_wp2
      go_ret
      exact ⟨by simp [h1, h2], rfl⟩
  · go_enter Tryd.func60, Tryd.ntmps60
    go_wp2
    go_ret
    exact ⟨congrArg (fun b => Ending.returned (.bool b)) (show false = (decide (lo ≤ n) && decide (n ≤ hi)) by rw [decide_eq_false (show ¬ lo ≤ n by omega)]; rfl), rfl⟩
/-- The lesser of two. -/
theorem c_least (a b : Int) (w : World) : Calls Tryd.prog 99 #[.int .i64 a, .int .i64 b] w fun e w' => e = .returned (.int .i64 (if a < b then a else b)) ∧ w = w' := by
  by_cases h1 : a < b
  all_goals
    go_enter Tryd.func99, Tryd.ntmps99
    go_wp2
    go_ret
    exact ⟨by simp, rfl⟩

/-- What has been laid after j rounds of the reference: the first j + 8 classes. -/
def rowOf (k : Nat) : List Value := (Pl.tab.take k).map (Value.int .i64)
theorem rowOf_succ (k : Nat) (h : k < 41) : rowOf (k + 1) = rowOf k ++ [.int .i64 (Pl.at_ k)] := by
  unfold rowOf
  rw [Pl.take_succ k h, List.map_append]
  rfl
set_option maxHeartbeats 400000 in
theorem c_specClassesOf (w : World) : Calls Tryd.prog 68 #[] w fun e w' => ∃ v, e = .returned v ∧ w'.ownsRow w.heap.size 3 1 v 41 (rowOf 41) ∧ Below w.heap.size w w' := by
  obtain ⟨i0, hi, hz0, hz1, hz2⟩ := info_parts info_int
  go_enter Tryd.func68, Tryd.ntmps68
  go_wp2
  go_loopw [1, 2] (fun v n wr => ∃ j : Nat, j < 34 ∧ n = .int .i64 (Pl.at_ (j + 7)) ∧ wr.ownsRow w.heap.size 3 1 v (j + 8) (rowOf (j + 8)) ∧ Below w.heap.size w wr) (fun _ n _ => (256 - intOf n).toNat)
  case atStart => exact ⟨0, by omega, rfl, ⟨rfl, .inr ⟨w.heap.size, 8, _, rfl, Nat.le_refl _, heap_alloc_new _ _, Nat.le_refl _, by decide, rfl, rfl⟩⟩, (Below.refl _ _).alloc (Nat.le_refl _) _⟩
  case round =>
    obtain ⟨j, hj, rfl, hown, hb⟩ := hrel
    have hbd := Pl.at_bd7 j hj
    have hsz := hb.size
    by_cases hlt : Pl.at_ (j + 7) < 256
    · have hj2 : j < 33 := by
        by_cases e : j = 33
        · subst e; exact absurd hlt (by decide)
        · omega
      have hst := Pl.at_step j hj2
      have hgr := Pl.at_grow j hj2
      have HS : Hid (Pl.at_ (j + 8) = if 256 < Pl.at_ (j + 7) + Pl.at_ (j + 7) / 8 then 256 else Pl.at_ (j + 7) + Pl.at_ (j + 7) / 8) := hst
      clear hst
      go_wp2_with (first
        | (go_at_call 99; refine (c_least _ _ _).mono ?_; rintro e w' ⟨rfl, rfl⟩; rw [← HS.out])
        | (at_builtin; refine wpList_append_own _ rfl _ _ 23 rfl w.heap.size 3 i0 (.int .i64 0) 1 8 Tryd.underlying23 hi hz0 hz1 hz2 rfl (by decide) _ _ _ rfl (hown.alloc _) ⟨wr.heap.size, 0, none⟩ 1 1 [.int .i64 (Pl.at_ (j + 8))] rfl rfl ?c1 ?c2 ?c3 ?c4 ?c5 ?_))
      case c1 =>
        intro j u hj
        match j, hj with
        | 0, hj => simp at hj; subst hj; simp [Addr.add]
      case c2 => intro u hu; simp at hu; subst hu; rfl
      case c3 => unfold maxLen; omega
      case c4 => omega
      case c5 => simp; omega
      intro v' w1 hown' hgrow _
      have R := (hb.alloc hsz _).grown hgrow (by simp; omega) (fun k hk => (hown.lt k hk).1)
      clear hgrow hown
      go_wp2
      go_roundw
      case rel => exact ⟨j + 1, by omega, rfl, by rw [show j + 1 + 8 = j + 8 + 1 by omega, rowOf_succ (j + 8) (by omega)]; exact hown', R⟩
      case measure => simp [intOf]; omega
    · obtain rfl : j = 33 := Pl.at_end j hj (by omega)
      go_wp2
      go_ret
      exact ⟨_, rfl, hown, hb⟩
end Go.Proofs.YtcelebblcjhpaaaDoor
