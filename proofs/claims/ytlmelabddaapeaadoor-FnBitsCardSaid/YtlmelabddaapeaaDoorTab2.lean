/- The library's table of lowest bits, from the row's list to the walks' fact; and a world for the witness. -/
import Derived.Test.YtlmelabddaapeaaDoorLift
import Derived.Test.YtlmelabddaapeaaDoorBd1
namespace Go.Proofs.YtlmelabddaapeaaDoor
open Go.ChangeShapes Go.WideShapes Go.ChangeAt Go.RowKit
theorem gTab : Tryd.prog.globalNamed "math/bits.deBruijn32tab" = some 0 := by kernel_rfl
theorem gTabType : (Tryd.prog.globals[0]?).map (·.type) = some 90 := by kernel_rfl
theorem cellsTab : Tryd.prog.cellsOf 90 = 32 := by kernel_rfl
theorem cellsU8 : Tryd.prog.cellsOf 5 = 1 := by kernel_rfl
def tabInts : List Int := Lib.deBruijn32tab.map (fun n : Nat => (n : Int))
def laidTab : List (String × DataW Unit) := [("math/bits.deBruijn32tab", Rows.laid_math_bits_deBruijn32tab)]
theorem tabInts_at : ∀ k, k < 32 → tabInts.getD k 0 = ((Lib.deBruijn32tab.getD k 0 : Nat) : Int) := by decide
theorem factOf {W : World} (h : laidMetH Tryd.prog laidTab W) : TabB W := by
  have hh : Lib.TabIs Tryd.prog W "math/bits.deBruijn32tab" .u8 tabInts := Lib.tabIs_of_head (rest := []) gTab gTabType Tryd.underlying90 Tryd.underlying5 cellsU8 cellsTab h
  intro k hk
  have := hh.cell gTab k (by show k < 32; exact hk)
  rw [this]
  rw [tabInts_at k hk]
theorem r_tab : Tryd.prog.readableRec 90 = true ∧ 90 < Tryd.prog.types.size := ⟨by kernel_rfl, of_decide_eq_true (by kernel_rfl)⟩
theorem hvsLaid : ∀ n ∈ ["math/bits.deBruijn32tab"], ∀ g t, Tryd.prog.globalNamed n = some g → (Tryd.prog.globals[g]?).map (·.type) = some t → Tryd.prog.readableRec t = true ∧ t < Tryd.prog.types.size := by
  intro n hn g t h1 h2
  simp only [List.mem_singleton] at hn
  subst hn
  obtain rfl := Option.some.inj (gTab.symm.trans h1)
  obtain rfl := Option.some.inj (gTabType.symm.trans h2)
  exact r_tab
def laidPlaces : List MemPlace := MemPlace.row ⟨0, 0, none⟩ 32
def tabAgg : Array Value := (tabInts.map (Value.int .u8)).toArray
/-- A WORLD FOR THE WITNESS: the settled one, the table holding what its initialiser lays. -/
noncomputable def laidWorld (os : Os) : World :=
  { World.holding Tryd.prog os ⟨#[], #[], []⟩ with heap := (World.holding Tryd.prog os ⟨#[], #[], []⟩).heap.modify 0 fun
      | .cells _ t frozen => .cells tabAgg t frozen
      | o => o }
end Go.Proofs.YtlmelabddaapeaaDoor
