/- What the laws of chapter 2 draw: runs, and pairs. -/
import Derived.Test.YtcelebblcjhpaaaDoorDr4
namespace Go.Proofs.YtcelebblcjhpaaaDoor
open Go.RowKit Pb

theorem res_row_slot3 {P : Program} {fn : Func} {p q r s : Tmp} {ty : TypeId} (h : fn.results = #[.cell p ty, .tmp q, .tmp r, .tmp s]) {tmps : Array Value} {w : World} {g : Nat} {t : TypeId} {cs : Array Value} {d : TypeDesc} {v v1 v2 : Value} (hg : Row w g t cs)
    (hp : tmps.getD p undef = .pointer (some ⟨g, 0, none⟩)) (hq : tmps.getD q undef = v) (hr : tmps.getD r undef = v1) (hs : tmps.getD s undef = v2) (hu : P.underlying ty = some d) (hd : (match d with | .struct _ | .array _ _ => true | _ => false) = true) (hi : (P.info? ty).map (·.size) = some cs.size) :
    (results fn tmps).run P w = .ok (.tuple #[.agg cs, v, v1, v2]) w := by
  have e1 : tmps[p]?.getD undef = .pointer (some ⟨g, 0, none⟩) := by simpa using hp
  have e2 : tmps[q]?.getD undef = v := by simpa using hq
  have e3 : tmps[r]?.getD undef = v1 := by simpa using hr
  have e4 : tmps[s]?.getD undef = v2 := by simpa using hs
  simp [results, h, e1, e2, e3, e4, asAddr, run_loadVar_row w g t ty cs (0, 0) d hg hu hd hi]
theorem res_row_slot2d {P : Program} {fn : Func} {p q r : Tmp} {ty : TypeId} (h : fn.results = #[.cell p ty, .tmp q, .tmp r]) {tmps : Array Value} {w : World} {g : Nat} {t : TypeId} {cs : Array Value} {d : TypeDesc} {v v1 : Value} (hg : Row w g t cs)
    (hp : tmps.getD p undef = .pointer (some ⟨g, 0, none⟩)) (hq : tmps.getD q undef = v) (hr : tmps.getD r undef = v1) (hu : P.underlying ty = some d) (hd : (match d with | .struct _ | .array _ _ => true | _ => false) = true) (hi : (P.info? ty).map (·.size) = some cs.size) :
    (results fn tmps).run P w = .ok (.tuple #[.agg cs, v, v1]) w := by
  have e1 : tmps[p]?.getD undef = .pointer (some ⟨g, 0, none⟩) := by simpa using hp
  have e2 : tmps[q]?.getD undef = v := by simpa using hq
  have e3 : tmps[r]?.getD undef = v1 := by simpa using hr
  simp [results, h, e1, e2, e3, asAddr, run_loadVar_row w g t ty cs (0, 0) d hg hu hd hi]

/-- A drawn bitmap, a drawn run, and what to set. -/
def RunOut (w : World) (e : Ending) (w' : World) : Prop := ∃ (lr : Int) (v' : Value) (zs : List Int) (a b : Int) (on : Bool), zs.length ≤ 6 ∧ (0 ≤ lr ∧ lr ≤ 96) ∧ (-1 ≤ a ∧ a ≤ 97) ∧ (-1 ≤ b ∧ b ≤ 117) ∧ e = .returned (.tuple #[bm lr v', .int .i64 a, .int .i64 b, .bool on]) ∧ Own w' w.heap.size v' zs ∧ Below w.heap.size w w'
/-- A drawn bitmap and a drawn run. -/
def SpanOut (w : World) (e : Ending) (w' : World) : Prop := ∃ (lr : Int) (v' : Value) (zs : List Int) (a b : Int), zs.length ≤ 6 ∧ (0 ≤ lr ∧ lr ≤ 96) ∧ (-1 ≤ a ∧ a ≤ 97) ∧ (-1 ≤ b ∧ b ≤ 117) ∧ e = .returned (.tuple #[bm lr v', .int .i64 a, .int .i64 b]) ∧ Own w' w.heap.size v' zs ∧ Below w.heap.size w w'
end Go.Proofs.YtcelebblcjhpaaaDoor
