/-
  DERIVED. GIVEN WITH THE SEED: THE CARDS: each row of YtlaembbgjgpmbaaDoorRows.lean that lists a variable, with what it lists TIED to the program's text (the seventh form; the later family's looks); each row that meets fmt, with fmt's text TOLD by the authors' own Lean function (tested against real Go, not proved from fmt's source: count such statements apart). THE CARD IS WHAT COUNTS. Prove the row's statement (the work); the ties are given (YtlaembbgjgpmbaaDoorTie.lean); close each card by the builder's one call (the guide's Derived/Test/ToyasCard.lean, 'card_holds'). Laid BY PROGRAM, IN A SANDBOX (cutbox-door.mjs). By AI agents, Wed Nov 11 2026. No macro, syntax, notation, axiom, sorry.
-/
import Derived.Test.YtlaembbgjgpmbaaDoorRows
import GoSem.ClaimSeven
namespace Go.Proofs.YtlaembbgjgpmbaaDoor
namespace Rows

/-- THE TIED CARD OF 'laws.FnSizes'. -/
def fnSizesCard : Claim7 := { stood := { row := fnSizesRow, standIns := [], harness := (true, "ded451ee09512e924f56db1a394a90e93305a0ee5573d4bf71b9fe8bf426e2f2"), looks := false }, kinds := [], alts := [], laidByText := true, laidKinds := [.data], laidTests := true, laidLooks := .later }
def FnSizesCardSaid : Prop := Claim7.holds Tryd.pinned (.plain (OpenSpec.ofChange fnSizesSpec)) fnSizesCard

/-- THE TIED CARD OF 'laws.FnSlots'. -/
def fnSlotsCard : Claim7 := { stood := { row := fnSlotsRow, standIns := [], harness := (true, "ded451ee09512e924f56db1a394a90e93305a0ee5573d4bf71b9fe8bf426e2f2"), looks := false }, kinds := [], alts := [], laidByText := true, laidKinds := [.data], laidTests := true, laidLooks := .later }
def FnSlotsCardSaid : Prop := Claim7.holds Tryd.pinned (.plain (OpenSpec.ofChange fnSlotsSpec)) fnSlotsCard

/-- THE TIED CARD OF 'laws.FnExactClassesOf'. -/
def fnExactClassesOfCard : Claim7 := { stood := { row := fnExactClassesOfRow, standIns := [], harness := (true, "ded451ee09512e924f56db1a394a90e93305a0ee5573d4bf71b9fe8bf426e2f2"), looks := false }, kinds := [], alts := [], laidByText := true, laidKinds := [.data], laidTests := true, laidLooks := .later }
def FnExactClassesOfCardSaid : Prop := Claim7.holds Tryd.pinned (.plain (OpenSpec.ofChange fnExactClassesOfSpec)) fnExactClassesOfCard

/-- THE TIED CARD OF 'laws.FnExactClassFor'. -/
def fnExactClassForCard : Claim7 := { stood := { row := fnExactClassForRow, standIns := [], harness := (true, "ded451ee09512e924f56db1a394a90e93305a0ee5573d4bf71b9fe8bf426e2f2"), looks := false }, kinds := [], alts := [], laidByText := true, laidKinds := [.data], laidTests := true, laidLooks := .later }
def FnExactClassForCardSaid : Prop := Claim7.holds Tryd.pinned (.plain (OpenSpec.ofChange fnExactClassForSpec)) fnExactClassForCard

/-- THE TIED CARD OF 'laws.FnExactWasteOf'. -/
def fnExactWasteOfCard : Claim7 := { stood := { row := fnExactWasteOfRow, standIns := [], harness := (true, "ded451ee09512e924f56db1a394a90e93305a0ee5573d4bf71b9fe8bf426e2f2"), looks := false }, kinds := [], alts := [], laidByText := true, laidKinds := [.data], laidTests := true, laidLooks := .later }
def FnExactWasteOfCardSaid : Prop := Claim7.holds Tryd.pinned (.plain (OpenSpec.ofChange fnExactWasteOfSpec)) fnExactWasteOfCard

/-- THE TIED CARD OF 'laws.FnExactSlotsIn'. -/
def fnExactSlotsInCard : Claim7 := { stood := { row := fnExactSlotsInRow, standIns := [], harness := (true, "ded451ee09512e924f56db1a394a90e93305a0ee5573d4bf71b9fe8bf426e2f2"), looks := false }, kinds := [], alts := [], laidByText := true, laidKinds := [.data], laidTests := true, laidLooks := .later }
def FnExactSlotsInCardSaid : Prop := Claim7.holds Tryd.pinned (.plain (OpenSpec.ofChange fnExactSlotsInSpec)) fnExactSlotsInCard

/-- THE TIED CARD OF 'laws.FnExactPagesFor'. -/
def fnExactPagesForCard : Claim7 := { stood := { row := fnExactPagesForRow, standIns := [], harness := (true, "ded451ee09512e924f56db1a394a90e93305a0ee5573d4bf71b9fe8bf426e2f2"), looks := false }, kinds := [], alts := [], laidByText := true, laidKinds := [.data], laidTests := true, laidLooks := .later }
def FnExactPagesForCardSaid : Prop := Claim7.holds Tryd.pinned (.plain (OpenSpec.ofChange fnExactPagesForSpec)) fnExactPagesForCard

/-- THE TIED CARD OF 'laws.FnExactTailOf'. -/
def fnExactTailOfCard : Claim7 := { stood := { row := fnExactTailOfRow, standIns := [], harness := (true, "ded451ee09512e924f56db1a394a90e93305a0ee5573d4bf71b9fe8bf426e2f2"), looks := false }, kinds := [], alts := [], laidByText := true, laidKinds := [.data], laidTests := true, laidLooks := .later }
def FnExactTailOfCardSaid : Prop := Claim7.holds Tryd.pinned (.plain (OpenSpec.ofChange fnExactTailOfSpec)) fnExactTailOfCard

/-- THE TIED CARD OF 'laws.FnExactSumWaste'. -/
def fnExactSumWasteCard : Claim7 := { stood := { row := fnExactSumWasteRow, standIns := [], harness := (true, "ded451ee09512e924f56db1a394a90e93305a0ee5573d4bf71b9fe8bf426e2f2"), looks := false }, kinds := [], alts := [], laidByText := true, laidKinds := [.data], laidTests := true, laidLooks := .later }
def FnExactSumWasteCardSaid : Prop := Claim7.holds Tryd.pinned (.plain (OpenSpec.ofChange fnExactSumWasteSpec)) fnExactSumWasteCard

/-- THE SECOND FORM's CARD OF 'laws.FnSizes'. -/
def fnSizesUptoCard : Claim7 := { stood := { row := fnSizesUptoRow, standIns := [], harness := (true, "ded451ee09512e924f56db1a394a90e93305a0ee5573d4bf71b9fe8bf426e2f2"), looks := false }, kinds := [], alts := [], laidByText := true, laidKinds := [.data], laidTests := true, laidLooks := .later }
def FnSizesUptoCardSaid : Prop := Claim7.holds Tryd.pinned (.plain (OpenSpec.upto fnSizesSpec)) fnSizesUptoCard

/-- THE SECOND FORM's CARD OF 'laws.FnSlots'. -/
def fnSlotsUptoCard : Claim7 := { stood := { row := fnSlotsUptoRow, standIns := [], harness := (true, "ded451ee09512e924f56db1a394a90e93305a0ee5573d4bf71b9fe8bf426e2f2"), looks := false }, kinds := [], alts := [], laidByText := true, laidKinds := [.data], laidTests := true, laidLooks := .later }
def FnSlotsUptoCardSaid : Prop := Claim7.holds Tryd.pinned (.plain (OpenSpec.upto fnSlotsSpec)) fnSlotsUptoCard

/-- THE SECOND FORM's CARD OF 'laws.FnExactClassesOf'. -/
def fnExactClassesOfUptoCard : Claim7 := { stood := { row := fnExactClassesOfUptoRow, standIns := [], harness := (true, "ded451ee09512e924f56db1a394a90e93305a0ee5573d4bf71b9fe8bf426e2f2"), looks := false }, kinds := [], alts := [], laidByText := true, laidKinds := [.data], laidTests := true, laidLooks := .later }
def FnExactClassesOfUptoCardSaid : Prop := Claim7.holds Tryd.pinned (.plain (OpenSpec.upto fnExactClassesOfSpec)) fnExactClassesOfUptoCard

/-- THE SECOND FORM's CARD OF 'laws.FnExactClassFor'. -/
def fnExactClassForUptoCard : Claim7 := { stood := { row := fnExactClassForUptoRow, standIns := [], harness := (true, "ded451ee09512e924f56db1a394a90e93305a0ee5573d4bf71b9fe8bf426e2f2"), looks := false }, kinds := [], alts := [], laidByText := true, laidKinds := [.data], laidTests := true, laidLooks := .later }
def FnExactClassForUptoCardSaid : Prop := Claim7.holds Tryd.pinned (.plain (OpenSpec.upto fnExactClassForSpec)) fnExactClassForUptoCard

/-- THE SECOND FORM's CARD OF 'laws.FnExactWasteOf'. -/
def fnExactWasteOfUptoCard : Claim7 := { stood := { row := fnExactWasteOfUptoRow, standIns := [], harness := (true, "ded451ee09512e924f56db1a394a90e93305a0ee5573d4bf71b9fe8bf426e2f2"), looks := false }, kinds := [], alts := [], laidByText := true, laidKinds := [.data], laidTests := true, laidLooks := .later }
def FnExactWasteOfUptoCardSaid : Prop := Claim7.holds Tryd.pinned (.plain (OpenSpec.upto fnExactWasteOfSpec)) fnExactWasteOfUptoCard

/-- THE SECOND FORM's CARD OF 'laws.FnExactSlotsIn'. -/
def fnExactSlotsInUptoCard : Claim7 := { stood := { row := fnExactSlotsInUptoRow, standIns := [], harness := (true, "ded451ee09512e924f56db1a394a90e93305a0ee5573d4bf71b9fe8bf426e2f2"), looks := false }, kinds := [], alts := [], laidByText := true, laidKinds := [.data], laidTests := true, laidLooks := .later }
def FnExactSlotsInUptoCardSaid : Prop := Claim7.holds Tryd.pinned (.plain (OpenSpec.upto fnExactSlotsInSpec)) fnExactSlotsInUptoCard

/-- THE SECOND FORM's CARD OF 'laws.FnExactPagesFor'. -/
def fnExactPagesForUptoCard : Claim7 := { stood := { row := fnExactPagesForUptoRow, standIns := [], harness := (true, "ded451ee09512e924f56db1a394a90e93305a0ee5573d4bf71b9fe8bf426e2f2"), looks := false }, kinds := [], alts := [], laidByText := true, laidKinds := [.data], laidTests := true, laidLooks := .later }
def FnExactPagesForUptoCardSaid : Prop := Claim7.holds Tryd.pinned (.plain (OpenSpec.upto fnExactPagesForSpec)) fnExactPagesForUptoCard

/-- THE SECOND FORM's CARD OF 'laws.FnExactTailOf'. -/
def fnExactTailOfUptoCard : Claim7 := { stood := { row := fnExactTailOfUptoRow, standIns := [], harness := (true, "ded451ee09512e924f56db1a394a90e93305a0ee5573d4bf71b9fe8bf426e2f2"), looks := false }, kinds := [], alts := [], laidByText := true, laidKinds := [.data], laidTests := true, laidLooks := .later }
def FnExactTailOfUptoCardSaid : Prop := Claim7.holds Tryd.pinned (.plain (OpenSpec.upto fnExactTailOfSpec)) fnExactTailOfUptoCard

/-- THE SECOND FORM's CARD OF 'laws.FnExactSumWaste'. -/
def fnExactSumWasteUptoCard : Claim7 := { stood := { row := fnExactSumWasteUptoRow, standIns := [], harness := (true, "ded451ee09512e924f56db1a394a90e93305a0ee5573d4bf71b9fe8bf426e2f2"), looks := false }, kinds := [], alts := [], laidByText := true, laidKinds := [.data], laidTests := true, laidLooks := .later }
def FnExactSumWasteUptoCardSaid : Prop := Claim7.holds Tryd.pinned (.plain (OpenSpec.upto fnExactSumWasteSpec)) fnExactSumWasteUptoCard
end Rows
end Go.Proofs.YtlaembbgjgpmbaaDoor
