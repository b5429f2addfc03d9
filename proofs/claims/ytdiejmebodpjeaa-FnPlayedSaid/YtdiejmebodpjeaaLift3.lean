/- Arguments that are lists of runs, or one run: how they read. -/
import Derived.Test.YtdiejmebodpjeaaLift
import Derived.Test.YtdiejmebodpjeaaRn3
import Derived.Deep.SlicePairs
namespace Go.Proofs.Ytdiejmebodpjeaa
open Go.ChangeShapes Go.WideShapes Go.ChangeAt Go.RowKit

theorem r_runs : Try.prog.readableRec 46 = true ∧ 46 < Try.prog.types.size := ⟨by kernel_rfl, of_decide_eq_true (by kernel_rfl)⟩
theorem r_run : Try.prog.readableRec 53 = true ∧ 53 < Try.prog.types.size := ⟨by kernel_rfl, of_decide_eq_true (by kernel_rfl)⟩
theorem cellsRun : Try.prog.cellsOf 53 = 2 := by kernel_rfl
theorem runs_of_arg {H : Type} {enc : TypeId × Value → H} {W : World} {base : Nat} {v : Value} {d : DataW H} {p : List MemPlace} (hval : Value.okWide Try.prog W .any base 46 v)
    (h : DataW.Trod enc Try.prog W 0 (fun _ => true) true 46 v d p) : ∃ rs, RunsAt W v rs ∧ Bnd rs ∧ rs.length ≤ 9223372036854775807 := by
  obtain ⟨a0, len, cap, rfl⟩ := okWide_slice Try.underlying46 hval
  obtain ⟨fuel, hf⟩ := h
  rcases Deep.open_slice_pairs Try.underlying46 Try.underlying53 cellsRun rfl rfl cellsInt cellsInt hf with ⟨hcs, hx⟩ | ⟨a, len', cap', m, n, V0, V1, D0, D1, P0, P1, hcs, _, hl, hm, hmm, hx, hcell⟩
  · simp [Value.cells] at hcs
    obtain ⟨rfl, rfl, rfl⟩ := hcs
    exact ⟨[], ⟨none, 0, rfl, fun h => absurd h (by simp)⟩, fun r hr => by simp at hr, by simp⟩
  · simp [Value.cells] at hcs
    obtain ⟨rfl, rfl, rfl⟩ := hcs
    simp only [if_true] at hmm
    subst hmm
    have each : ∀ i, i < len → ∃ q : Int × Int, W.cell? (a.add (i * 2)) = some (.int .i64 q.1) ∧ W.cell? (a.add (i * 2 + 1)) = some (.int .i64 q.2) ∧ i64R q := fun i hi => by
      obtain ⟨h1, h2, h3, h4⟩ := hcell i (by omega)
      obtain ⟨x, e1, _, w1⟩ := DataW.trod_int Try.underlying3 h3
      obtain ⟨y, e2, _, w2⟩ := DataW.trod_int Try.underlying3 h4
      simp only [List.cons.injEq, and_true] at e1 e2
      rw [e1] at h1; rw [e2] at h2
      exact ⟨(x, y), h1, h2, bounds_i64 w1, bounds_i64 w2⟩
    obtain ⟨f, hf⟩ := Deep.choose_lt each
    have hln : ((List.range len).map f).length = len := by simp
    have hgd : ∀ i, i < len → ((List.range len).map f).getD i (0, 0) = f i := fun i hi => by simp [List.getD, hi]
    refine ⟨(List.range len).map f, ⟨some a, _, by rw [hln], fun h0 => ?_⟩, fun r hr => ?_, by rw [hln]; unfold maxLen at hm; omega⟩
    · rw [hln] at h0 ⊢
      obtain ⟨b, off, spot⟩ := a
      have hspot : spot = none := by simpa [Addr.add] using World.cell?_spot (hf 0 h0).1
      subst hspot
      refine ⟨b, off, rfl, fun i hi => ?_⟩
      rw [hgd i hi]
      have h1 := (hf i hi).1
      have h2 := (hf i hi).2.1
      rw [Go.WideShapes.add_plain] at h1 h2
      exact ⟨h1, h2⟩
    · obtain ⟨i, hi, rfl⟩ := List.mem_map.1 hr
      exact (hf i (by simpa using hi)).2.2
theorem run_of_arg {H : Type} {enc : TypeId × Value → H} {W : World} {base : Nat} {v : Value} {d : DataW H} {p : List MemPlace} (hval : Value.okWide Try.prog W .any base 53 v)
    (h : DataW.Trod enc Try.prog W 0 (fun _ => true) true 53 v d p) : ∃ r : Int × Int, v = rn r ∧ i64R r := by
  obtain ⟨v0, v1, y0, y1, n, rfl, _, _, h0, h1⟩ := Joins.open_agg2 Try.underlying53 (by kernel_rfl) (by kernel_rfl) hval h
  obtain ⟨x, hl, _, hw⟩ := DataW.trod_int Try.underlying3 h0
  obtain ⟨y, hl', _, hw'⟩ := DataW.trod_int Try.underlying3 h1
  simp only [List.cons.injEq, and_true] at hl hl'
  subst hl; subst hl'
  exact ⟨(x, y), rfl, bounds_i64 hw, bounds_i64 hw'⟩
end Go.Proofs.Ytdiejmebodpjeaa
