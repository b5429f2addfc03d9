/- Blocks that hold a row of cells, whatever the program. -/
import Derived.Test.YtdagkbgobnaijabInts
import Derived.WalkKit
import Derived.WalkSpells
import Derived.WalkLawsBesides
import Derived.Lib.Hide
import Derived.Deep.RegionHeld3
import Derived.RegionTactic
namespace Go.Proofs.Ytdagkbgobnaijab
open Go.RowKit

/-- The block g, of type T, holds the cells cs. -/
def Row (w : World) (g : Nat) (T : TypeId) (cs : Array Value) : Prop := w.heap[g]? = some (.cells cs T (0, 0))
theorem Row.cell {w : World} {g : Nat} {T : TypeId} {cs : Array Value} (h : Row w g T cs) (k : Nat) : w.cell? ⟨g, k, none⟩ = cs[k]? := cell_of_row w g k _ _ _ h
theorem Row.frozen {w : World} {g : Nat} {T : TypeId} {cs : Array Value} (h : Row w g T cs) (k : Nat) : w.frozen? ⟨g, k, none⟩ = false := frozen_of_row w g k _ _ h
theorem Row.lt {w : World} {g : Nat} {T : TypeId} {cs : Array Value} (h : Row w g T cs) : g < w.heap.size := by
  by_cases e : g < w.heap.size
  · exact e
  · have hn : w.heap[g]? = none := by simp; omega
    rw [Row, hn] at h; cases h
theorem Row.below {w w' : World} {g : Nat} {T : TypeId} {cs : Array Value} (h : Row w g T cs) (hb : Below w.heap.size w w') : Row w' g T cs := by
  unfold Row; rw [hb.block g h.lt]; exact h
theorem Row.below' {w w' : World} {B g : Nat} {T : TypeId} {cs : Array Value} (h : Row w g T cs) (hb : Below B w w') (hg : g < B) : Row w' g T cs := by
  unfold Row; rw [hb.block g hg]; exact h
theorem Row.alloc {w : World} {g : Nat} {T : TypeId} {cs : Array Value} (h : Row w g T cs) (o : Obj) : Row (w.alloc o) g T cs := by
  unfold Row; rw [Below.heap_alloc w o g h.lt]; exact h
theorem Row.new (w : World) (T : TypeId) (cs : Array Value) : Row (w.alloc (.cells cs T)) w.heap.size T cs := heap_alloc_new _ _
theorem Row.new1 (w : World) (o : Obj) (T : TypeId) (cs : Array Value) : Row ((w.alloc o).alloc (.cells cs T)) (w.heap.size + 1) T cs := by
  have := Row.new (w.alloc o) T cs; simpa using this
theorem Row.new2 (w : World) (o o' : Obj) (T : TypeId) (cs : Array Value) : Row (((w.alloc o).alloc o').alloc (.cells cs T)) (w.heap.size + 1 + 1) T cs := by
  have := Row.new ((w.alloc o).alloc o') T cs; simpa using this
theorem Row.new3 (w : World) (o o' o'' : Obj) (T : TypeId) (cs : Array Value) : Row ((((w.alloc o).alloc o').alloc o'').alloc (.cells cs T)) (w.heap.size + 1 + 1 + 1) T cs := by
  have := Row.new (((w.alloc o).alloc o').alloc o'') T cs; simpa using this
theorem Row.other {w : World} {g : Nat} {T : TypeId} {cs : Array Value} (h : Row w g T cs) (a : Addr) (ha : g ≠ a.block) (x : Value) : Row (w.setCell a x) g T cs := by
  unfold Row; rw [heap_setCell_other w a g _ ha]; exact h
theorem Row.set {w : World} {g : Nat} {T : TypeId} {cs : Array Value} (h : Row w g T cs) (k : Nat) (x : Value) : Row (w.setCell ⟨g, k, none⟩ x) g T (cs.setIfInBounds k x) := heap_setCell_same w g k _ _ _ h
theorem Row.put {w : World} {g : Nat} {T : TypeId} {cs : Array Value} (h : Row w g T cs) (ds : Array Value) : Row (w.setRow g ds) g T ds := setRow_heap w g cs ds T (0, 0) h
theorem Row.putOther {w : World} {g g' : Nat} {T : TypeId} {cs : Array Value} (h : Row w g T cs) (ds : Array Value) (hn : g ≠ g') : Row (w.setRow g' ds) g T cs := by
  unfold Row; rw [setRow_other w g' g ds hn]; exact h
theorem below_setRow {B g : Nat} {w0 w : World} (hb : Below B w0 w) (hBg : B ≤ g) (cs : Array Value) : Below B w0 (w.setRow g cs) :=
  ⟨hb.os, hb.tape, hb.output, by rw [size_setRow]; exact hb.size, fun i hi => (setRow_other w g i cs (by omega)).trans (hb.block i hi)⟩
theorem below_drew {B : Nat} {w0 w : World} (hb : Below B w0 w) : Below B w0 w.drew := hb.trans ⟨rfl, rfl, rfl, Nat.le_refl _, fun _ _ => rfl⟩
theorem res_row {P : Program} {fn : Func} {p : Tmp} {ty : TypeId} (h : fn.results = #[.cell p ty]) {tmps : Array Value} {w : World} {g : Nat} {t : TypeId} {cs : Array Value} {d : TypeDesc} (hg : Row w g t cs)
    (hp : tmps.getD p undef = .pointer (some ⟨g, 0, none⟩)) (hu : P.underlying ty = some d) (hd : (match d with | .struct _ | .array _ _ => true | _ => false) = true) (hi : (P.info? ty).map (·.size) = some cs.size) :
    (results fn tmps).run P w = .ok (.agg cs) w := results_cell_row h tmps w g t cs (0, 0) d hp hg hu hd hi
theorem res_row_slot {P : Program} {fn : Func} {p q : Tmp} {ty : TypeId} (h : fn.results = #[.cell p ty, .tmp q]) {tmps : Array Value} {w : World} {g : Nat} {t : TypeId} {cs : Array Value} {d : TypeDesc} {v : Value} (hg : Row w g t cs)
    (hp : tmps.getD p undef = .pointer (some ⟨g, 0, none⟩)) (hq : tmps.getD q undef = v) (hu : P.underlying ty = some d) (hd : (match d with | .struct _ | .array _ _ => true | _ => false) = true) (hi : (P.info? ty).map (·.size) = some cs.size) :
    (results fn tmps).run P w = .ok (.tuple #[.agg cs, v]) w := by
  have hp' : tmps[p]?.getD undef = .pointer (some ⟨g, 0, none⟩) := by simpa using hp
  have hq' : tmps[q]?.getD undef = v := by simpa using hq
  simp [results, h, hp', hq', asAddr, run_loadVar_row w g t ty cs (0, 0) d hg hu hd hi]
theorem Row.grown {w w1 : World} {g : Nat} {T : TypeId} {cs : Array Value} (h : Row w g T cs) (hg : w.grownBy w1 none) : Row w1 g T cs := (hg.block g h.lt (by simp)).trans h
theorem Row.grownBy {w w1 : World} {g : Nat} {T : TypeId} {cs : Array Value} {c : Option Nat} (h : Row w g T cs) (hg : w.grownBy w1 c) (hn : c ≠ some g) : Row w1 g T cs := (hg.block g h.lt (fun e => hn e.symm)).trans h
theorem bst {B : Nat} {w w1 w2 : World} (h : Below B w w1) (k : Below w1.heap.size w1 w2) (hB : B ≤ w1.heap.size) : Below B w w2 := h.trans (k.mono hB)
end Go.Proofs.Ytdagkbgobnaijab
