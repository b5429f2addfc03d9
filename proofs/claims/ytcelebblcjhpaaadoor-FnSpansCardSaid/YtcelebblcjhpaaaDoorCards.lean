/-
  DERIVED. GIVEN WITH THE SEED: THE CARDS: each row of YtcelebblcjhpaaaDoorRows.lean that lists a variable, with what it lists TIED to the program's text (the seventh form; the later family's looks); each row that meets fmt, with fmt's text TOLD by the authors' own Lean function (tested against real Go, not proved from fmt's source: count such statements apart). THE CARD IS WHAT COUNTS. Prove the row's statement (the work); the ties are given (YtcelebblcjhpaaaDoorTie.lean); close each card by the builder's one call (the guide's Derived/Test/ToyasCard.lean, 'card_holds'). Laid BY PROGRAM, IN A SANDBOX (cutbox-door.mjs). By AI agents, Wed Nov 11 2026. No macro, syntax, notation, axiom, sorry.
-/
import Derived.Test.YtcelebblcjhpaaaDoorRows
import GoSem.ClaimSeven
namespace Go.Proofs.YtcelebblcjhpaaaDoor
namespace Rows

/-- THE TIED CARD OF 'laws.FnSpans'. -/
def fnSpansCard : Claim7 := { stood := { row := fnSpansRow, standIns := [], harness := (true, "1b5a6c2fd7895ffc096d8d30e0eb273d00559fdd5e6a411af559db021c3100b2"), looks := false }, kinds := [], alts := [], laidByText := true, laidKinds := [.data, .data], laidTests := true, laidLooks := .later }
def FnSpansCardSaid : Prop := Claim7.holds Tryd.pinned (.plain (OpenSpec.ofChange fnSpansSpec)) fnSpansCard

/-- THE TIED CARD OF 'laws.FnSwept'. -/
def fnSweptCard : Claim7 := { stood := { row := fnSweptRow, standIns := [], harness := (true, "1b5a6c2fd7895ffc096d8d30e0eb273d00559fdd5e6a411af559db021c3100b2"), looks := false }, kinds := [], alts := [], laidByText := true, laidKinds := [.data, .data], laidTests := true, laidLooks := .later }
def FnSweptCardSaid : Prop := Claim7.holds Tryd.pinned (.plain (OpenSpec.ofChange fnSweptSpec)) fnSweptCard

/-- THE TIED CARD OF 'laws.FnExactGoodSpan'. -/
def fnExactGoodSpanCard : Claim7 := { stood := { row := fnExactGoodSpanRow, standIns := [], harness := (true, "1b5a6c2fd7895ffc096d8d30e0eb273d00559fdd5e6a411af559db021c3100b2"), looks := false }, kinds := [], alts := [], laidByText := true, laidKinds := [.data], laidTests := true, laidLooks := .later }
def FnExactGoodSpanCardSaid : Prop := Claim7.holds Tryd.pinned (.plain (OpenSpec.ofChange fnExactGoodSpanSpec)) fnExactGoodSpanCard

/-- THE TIED CARD OF 'laws.FnExactNewSpan'. -/
def fnExactNewSpanCard : Claim7 := { stood := { row := fnExactNewSpanRow, standIns := [], harness := (true, "1b5a6c2fd7895ffc096d8d30e0eb273d00559fdd5e6a411af559db021c3100b2"), looks := false }, kinds := [], alts := [], laidByText := true, laidKinds := [.data], laidTests := true, laidLooks := .later }
def FnExactNewSpanCardSaid : Prop := Claim7.holds Tryd.pinned (.plain (OpenSpec.ofChange fnExactNewSpanSpec)) fnExactNewSpanCard

/-- THE TIED CARD OF 'laws.FnExactTakeSlot'. -/
def fnExactTakeSlotCard : Claim7 := { stood := { row := fnExactTakeSlotRow, standIns := [], harness := (true, "1b5a6c2fd7895ffc096d8d30e0eb273d00559fdd5e6a411af559db021c3100b2"), looks := false }, kinds := [], alts := [], laidByText := true, laidKinds := [.data, .data], laidTests := true, laidLooks := .later }
def FnExactTakeSlotCardSaid : Prop := Claim7.holds Tryd.pinned (.plain (OpenSpec.ofChange fnExactTakeSlotSpec)) fnExactTakeSlotCard

/-- THE TIED CARD OF 'laws.FnExactFreeSlot'. -/
def fnExactFreeSlotCard : Claim7 := { stood := { row := fnExactFreeSlotRow, standIns := [], harness := (true, "1b5a6c2fd7895ffc096d8d30e0eb273d00559fdd5e6a411af559db021c3100b2"), looks := false }, kinds := [], alts := [], laidByText := true, laidKinds := [.data], laidTests := true, laidLooks := .later }
def FnExactFreeSlotCardSaid : Prop := Claim7.holds Tryd.pinned (.plain (OpenSpec.ofChange fnExactFreeSlotSpec)) fnExactFreeSlotCard

/-- THE TIED CARD OF 'laws.FnExactThingAt'. -/
def fnExactThingAtCard : Claim7 := { stood := { row := fnExactThingAtRow, standIns := [], harness := (true, "1b5a6c2fd7895ffc096d8d30e0eb273d00559fdd5e6a411af559db021c3100b2"), looks := false }, kinds := [], alts := [], laidByText := true, laidKinds := [.data], laidTests := true, laidLooks := .later }
def FnExactThingAtCardSaid : Prop := Claim7.holds Tryd.pinned (.plain (OpenSpec.ofChange fnExactThingAtSpec)) fnExactThingAtCard

/-- THE TIED CARD OF 'laws.FnExactWordOf'. -/
def fnExactWordOfCard : Claim7 := { stood := { row := fnExactWordOfRow, standIns := [], harness := (true, "1b5a6c2fd7895ffc096d8d30e0eb273d00559fdd5e6a411af559db021c3100b2"), looks := false }, kinds := [], alts := [], laidByText := true, laidKinds := [.data], laidTests := true, laidLooks := .later }
def FnExactWordOfCardSaid : Prop := Claim7.holds Tryd.pinned (.plain (OpenSpec.ofChange fnExactWordOfSpec)) fnExactWordOfCard

/-- THE TIED CARD OF 'laws.FnExactSweepSpan'. -/
def fnExactSweepSpanCard : Claim7 := { stood := { row := fnExactSweepSpanRow, standIns := [], harness := (true, "1b5a6c2fd7895ffc096d8d30e0eb273d00559fdd5e6a411af559db021c3100b2"), looks := false }, kinds := [], alts := [], laidByText := true, laidKinds := [.data], laidTests := true, laidLooks := .later }
def FnExactSweepSpanCardSaid : Prop := Claim7.holds Tryd.pinned (.plain (OpenSpec.ofChange fnExactSweepSpanSpec)) fnExactSweepSpanCard

/-- THE SECOND FORM's CARD OF 'laws.FnSpans'. -/
def fnSpansUptoCard : Claim7 := { stood := { row := fnSpansUptoRow, standIns := [], harness := (true, "1b5a6c2fd7895ffc096d8d30e0eb273d00559fdd5e6a411af559db021c3100b2"), looks := false }, kinds := [], alts := [], laidByText := true, laidKinds := [.data, .data], laidTests := true, laidLooks := .later }
def FnSpansUptoCardSaid : Prop := Claim7.holds Tryd.pinned (.plain (OpenSpec.upto fnSpansSpec)) fnSpansUptoCard

/-- THE SECOND FORM's CARD OF 'laws.FnSwept'. -/
def fnSweptUptoCard : Claim7 := { stood := { row := fnSweptUptoRow, standIns := [], harness := (true, "1b5a6c2fd7895ffc096d8d30e0eb273d00559fdd5e6a411af559db021c3100b2"), looks := false }, kinds := [], alts := [], laidByText := true, laidKinds := [.data, .data], laidTests := true, laidLooks := .later }
def FnSweptUptoCardSaid : Prop := Claim7.holds Tryd.pinned (.plain (OpenSpec.upto fnSweptSpec)) fnSweptUptoCard

/-- THE SECOND FORM's CARD OF 'laws.FnExactGoodSpan'. -/
def fnExactGoodSpanUptoCard : Claim7 := { stood := { row := fnExactGoodSpanUptoRow, standIns := [], harness := (true, "1b5a6c2fd7895ffc096d8d30e0eb273d00559fdd5e6a411af559db021c3100b2"), looks := false }, kinds := [], alts := [], laidByText := true, laidKinds := [.data], laidTests := true, laidLooks := .later }
def FnExactGoodSpanUptoCardSaid : Prop := Claim7.holds Tryd.pinned (.plain (OpenSpec.upto fnExactGoodSpanSpec)) fnExactGoodSpanUptoCard

/-- THE SECOND FORM's CARD OF 'laws.FnExactNewSpan'. -/
def fnExactNewSpanUptoCard : Claim7 := { stood := { row := fnExactNewSpanUptoRow, standIns := [], harness := (true, "1b5a6c2fd7895ffc096d8d30e0eb273d00559fdd5e6a411af559db021c3100b2"), looks := false }, kinds := [], alts := [], laidByText := true, laidKinds := [.data], laidTests := true, laidLooks := .later }
def FnExactNewSpanUptoCardSaid : Prop := Claim7.holds Tryd.pinned (.plain (OpenSpec.upto fnExactNewSpanSpec)) fnExactNewSpanUptoCard

/-- THE SECOND FORM's CARD OF 'laws.FnExactTakeSlot'. -/
def fnExactTakeSlotUptoCard : Claim7 := { stood := { row := fnExactTakeSlotUptoRow, standIns := [], harness := (true, "1b5a6c2fd7895ffc096d8d30e0eb273d00559fdd5e6a411af559db021c3100b2"), looks := false }, kinds := [], alts := [], laidByText := true, laidKinds := [.data, .data], laidTests := true, laidLooks := .later }
def FnExactTakeSlotUptoCardSaid : Prop := Claim7.holds Tryd.pinned (.plain (OpenSpec.upto fnExactTakeSlotSpec)) fnExactTakeSlotUptoCard

/-- THE SECOND FORM's CARD OF 'laws.FnExactFreeSlot'. -/
def fnExactFreeSlotUptoCard : Claim7 := { stood := { row := fnExactFreeSlotUptoRow, standIns := [], harness := (true, "1b5a6c2fd7895ffc096d8d30e0eb273d00559fdd5e6a411af559db021c3100b2"), looks := false }, kinds := [], alts := [], laidByText := true, laidKinds := [.data], laidTests := true, laidLooks := .later }
def FnExactFreeSlotUptoCardSaid : Prop := Claim7.holds Tryd.pinned (.plain (OpenSpec.upto fnExactFreeSlotSpec)) fnExactFreeSlotUptoCard

/-- THE SECOND FORM's CARD OF 'laws.FnExactThingAt'. -/
def fnExactThingAtUptoCard : Claim7 := { stood := { row := fnExactThingAtUptoRow, standIns := [], harness := (true, "1b5a6c2fd7895ffc096d8d30e0eb273d00559fdd5e6a411af559db021c3100b2"), looks := false }, kinds := [], alts := [], laidByText := true, laidKinds := [.data], laidTests := true, laidLooks := .later }
def FnExactThingAtUptoCardSaid : Prop := Claim7.holds Tryd.pinned (.plain (OpenSpec.upto fnExactThingAtSpec)) fnExactThingAtUptoCard

/-- THE SECOND FORM's CARD OF 'laws.FnExactWordOf'. -/
def fnExactWordOfUptoCard : Claim7 := { stood := { row := fnExactWordOfUptoRow, standIns := [], harness := (true, "1b5a6c2fd7895ffc096d8d30e0eb273d00559fdd5e6a411af559db021c3100b2"), looks := false }, kinds := [], alts := [], laidByText := true, laidKinds := [.data], laidTests := true, laidLooks := .later }
def FnExactWordOfUptoCardSaid : Prop := Claim7.holds Tryd.pinned (.plain (OpenSpec.upto fnExactWordOfSpec)) fnExactWordOfUptoCard

/-- THE SECOND FORM's CARD OF 'laws.FnExactSweepSpan'. -/
def fnExactSweepSpanUptoCard : Claim7 := { stood := { row := fnExactSweepSpanUptoRow, standIns := [], harness := (true, "1b5a6c2fd7895ffc096d8d30e0eb273d00559fdd5e6a411af559db021c3100b2"), looks := false }, kinds := [], alts := [], laidByText := true, laidKinds := [.data], laidTests := true, laidLooks := .later }
def FnExactSweepSpanUptoCardSaid : Prop := Claim7.holds Tryd.pinned (.plain (OpenSpec.upto fnExactSweepSpanSpec)) fnExactSweepSpanUptoCard
end Rows
end Go.Proofs.YtcelebblcjhpaaaDoor
