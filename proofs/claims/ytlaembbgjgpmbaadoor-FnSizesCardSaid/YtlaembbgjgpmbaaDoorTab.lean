/- The package's table, from the row's list to the walks' fact; and a world for the witness. -/
import Derived.Test.YtlaembbgjgpmbaaDoorLift
import Derived.Test.YtlaembbgjgpmbaaDoorCtr2
namespace Go.Proofs.YtlaembbgjgpmbaaDoor
open Go.ChangeShapes Go.WideShapes Go.ChangeAt Go.RowKit
theorem gTab : Tryd.prog.globalNamed "loop.example/g00627/impl.classSizes" = some 0 := by kernel_rfl
theorem gTabType : (Tryd.prog.globals[0]?).map (·.type) = some 44 := by kernel_rfl
theorem cellsTab : Tryd.prog.cellsOf 44 = 41 := by kernel_rfl
def laidTab : List (String × DataW Unit) := [("loop.example/g00627/impl.classSizes", Rows.laid_loop_example_g00627_impl_classSizes)]
theorem tabW_of_laid {W : World} (h : laidMetH Tryd.prog laidTab W) : TabW W := by
  have hh : Lib.TabIs Tryd.prog W "loop.example/g00627/impl.classSizes" .i64 Pl.tab := Lib.tabIs_of_head (rest := []) gTab gTabType Tryd.underlying44 Tryd.underlying3 cellsInt cellsTab h
  exact fun k hk => hh.cell gTab k (by rw [Pl.len]; exact hk)
theorem r_tab : Tryd.prog.readableRec 44 = true ∧ 44 < Tryd.prog.types.size := ⟨by kernel_rfl, of_decide_eq_true (by kernel_rfl)⟩
theorem hvsTab : ∀ n ∈ ["loop.example/g00627/impl.classSizes"], ∀ g t, Tryd.prog.globalNamed n = some g → (Tryd.prog.globals[g]?).map (·.type) = some t → Tryd.prog.readableRec t = true ∧ t < Tryd.prog.types.size := by
  intro n hn g t h1 h2
  simp only [List.mem_singleton] at hn
  subst hn
  obtain rfl := Option.some.inj (gTab.symm.trans h1)
  obtain rfl := Option.some.inj (gTabType.symm.trans h2)
  exact r_tab

/-- A WORLD FOR THE WITNESS: the settled one, the table holding what its initialiser lays. -/
noncomputable def laidWorld (os : Os) : World :=
  { World.holding Tryd.prog os ⟨#[], #[], []⟩ with heap := (World.holding Tryd.prog os ⟨#[], #[], []⟩).heap.modify 0 fun
      | .cells _ t frozen => .cells tabAgg t frozen
      | o => o }
end Go.Proofs.YtlaembbgjgpmbaaDoor
