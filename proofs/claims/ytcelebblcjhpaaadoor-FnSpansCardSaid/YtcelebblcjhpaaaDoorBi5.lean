/- Contracts of chapter 2: the project's own functions. -/
import Derived.Test.YtcelebblcjhpaaaDoorBi1
import Derived.IntWalk
import Derived.Deep.RegionWith
namespace Go.Proofs.YtcelebblcjhpaaaDoor
open Go.RowKit Pb

/-- Six words stored one by one. -/
def six (w : World) (g : Nat) (F : Nat → Int) : World := (((((w.setCell ⟨g, 0, none⟩ (.int .u16 (F 0))).setCell ⟨g, 1, none⟩ (.int .u16 (F 1))).setCell ⟨g, 2, none⟩ (.int .u16 (F 2))).setCell ⟨g, 3, none⟩ (.int .u16 (F 3))).setCell ⟨g, 4, none⟩ (.int .u16 (F 4))).setCell ⟨g, 5, none⟩ (.int .u16 (F 5))
theorem Blk.six {w : World} {g : Nat} {f : Nat → Int} (h : Blk w g f) (F : Nat → Int) : Blk (six w g F) g F := by
  have h1 := ((((((h.set (k := 0) (by omega) (F 0)).set (k := 1) (by omega) (F 1)).set (k := 2) (by omega) (F 2)).set (k := 3) (by omega) (F 3)).set (k := 4) (by omega) (F 4)).set (k := 5) (by omega) (F 5))
  exact h1.trans rfl
theorem Row.six {w : World} {g g' : Nat} {T : TypeId} {cs : Array Value} (h : Row w g T cs) (hn : g < g') (F : Nat → Int) : Row (six w g' F) g T cs :=
  (((((Row.other h _ (by simp; omega) _).other _ (by simp; omega) _).other _ (by simp; omega) _).other _ (by simp; omega) _).other _ (by simp; omega) _).other _ (by simp; omega) _
theorem below_six {B g : Nat} {w0 w : World} (h : Below B w0 w) (hg : B ≤ g) (F : Nat → Int) : Below B w0 (six w g F) :=
  (((((h.setCell (p := ⟨g, 0, none⟩) hg _).setCell (p := ⟨g, 1, none⟩) hg _).setCell (p := ⟨g, 2, none⟩) hg _).setCell (p := ⟨g, 3, none⟩) hg _).setCell (p := ⟨g, 4, none⟩) hg _).setCell (p := ⟨g, 5, none⟩) hg _

theorem c_without_eq (f g F : Nat → Int) (hF : F = fun k => bits .andNot .u16 (f k) (g k)) (w : World) : Calls Tryd.prog 48 #[a6 f, a6 g] w fun e w' => e = .returned (a6 F) ∧ Below w.heap.size w w' := by subst hF; exact c_without f g w

theorem c_with_eq (f g F : Nat → Int) (hF : F = fun k => bits .or .u16 (f k) (g k)) (w : World) : Calls Tryd.prog 50 #[a6 f, a6 g] w fun e w' => e = .returned (a6 F) ∧ Below w.heap.size w w' := by subst hF; exact c_with f g w

theorem c_both_eq (f g F : Nat → Int) (hF : F = fun k => bits .and .u16 (f k) (g k)) (w : World) : Calls Tryd.prog 78 #[a6 f, a6 g] w fun e w' => e = .returned (a6 F) ∧ Below w.heap.size w w' := by subst hF; exact c_both f g w
end Go.Proofs.YtcelebblcjhpaaaDoor
