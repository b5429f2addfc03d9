/-
  DERIVED. GIVEN WITH THE SEED: THE CARDS: each row of YtlmelabddaapeaaDoorRows.lean that lists a variable, with what it lists TIED to the program's text (the seventh form; the later family's looks); each row that meets fmt, with fmt's text TOLD by the authors' own Lean function (tested against real Go, not proved from fmt's source: count such statements apart). THE CARD IS WHAT COUNTS. Prove the row's statement (the work); the ties are given (YtlmelabddaapeaaDoorTie.lean); close each card by the builder's one call (the guide's Derived/Test/ToyasCard.lean, 'card_holds'). Laid BY PROGRAM, IN A SANDBOX (cutbox-door.mjs). By AI agents, Wed Nov 11 2026. No macro, syntax, notation, axiom, sorry.
-/
import Derived.Test.YtlmelabddaapeaaDoorRows
import GoSem.ClaimSeven
namespace Go.Proofs.YtlmelabddaapeaaDoor
namespace Rows

/-- THE TIED CARD OF 'laws.FnBits'. -/
def fnBitsCard : Claim7 := { stood := { row := fnBitsRow, standIns := [], harness := (true, "09434e74acf96481842509e46ce6e1d776968e6b909ce39e94d1a7764bae9294"), looks := false }, kinds := [], alts := [], laidByText := true, laidKinds := [.data], laidTests := true, laidLooks := .later }
def FnBitsCardSaid : Prop := Claim7.holds Tryd.pinned (.plain (OpenSpec.ofChange fnBitsSpec)) fnBitsCard

/-- THE TIED CARD OF 'laws.FnFound'. -/
def fnFoundCard : Claim7 := { stood := { row := fnFoundRow, standIns := [], harness := (true, "09434e74acf96481842509e46ce6e1d776968e6b909ce39e94d1a7764bae9294"), looks := false }, kinds := [], alts := [], laidByText := true, laidKinds := [.data], laidTests := true, laidLooks := .later }
def FnFoundCardSaid : Prop := Claim7.holds Tryd.pinned (.plain (OpenSpec.ofChange fnFoundSpec)) fnFoundCard

/-- THE TIED CARD OF 'laws.FnExactNextFree'. -/
def fnExactNextFreeCard : Claim7 := { stood := { row := fnExactNextFreeRow, standIns := [], harness := (true, "09434e74acf96481842509e46ce6e1d776968e6b909ce39e94d1a7764bae9294"), looks := false }, kinds := [], alts := [], laidByText := true, laidKinds := [.data], laidTests := true, laidLooks := .later }
def FnExactNextFreeCardSaid : Prop := Claim7.holds Tryd.pinned (.plain (OpenSpec.ofChange fnExactNextFreeSpec)) fnExactNextFreeCard

/-- THE TIED CARD OF 'laws.FnExactSetList'. -/
def fnExactSetListCard : Claim7 := { stood := { row := fnExactSetListRow, standIns := [], harness := (true, "09434e74acf96481842509e46ce6e1d776968e6b909ce39e94d1a7764bae9294"), looks := false }, kinds := [], alts := [], laidByText := true, laidKinds := [.data], laidTests := true, laidLooks := .later }
def FnExactSetListCardSaid : Prop := Claim7.holds Tryd.pinned (.plain (OpenSpec.ofChange fnExactSetListSpec)) fnExactSetListCard

/-- THE SECOND FORM's CARD OF 'laws.FnBits'. -/
def fnBitsUptoCard : Claim7 := { stood := { row := fnBitsUptoRow, standIns := [], harness := (true, "09434e74acf96481842509e46ce6e1d776968e6b909ce39e94d1a7764bae9294"), looks := false }, kinds := [], alts := [], laidByText := true, laidKinds := [.data], laidTests := true, laidLooks := .later }
def FnBitsUptoCardSaid : Prop := Claim7.holds Tryd.pinned (.plain (OpenSpec.upto fnBitsSpec)) fnBitsUptoCard

/-- THE SECOND FORM's CARD OF 'laws.FnFound'. -/
def fnFoundUptoCard : Claim7 := { stood := { row := fnFoundUptoRow, standIns := [], harness := (true, "09434e74acf96481842509e46ce6e1d776968e6b909ce39e94d1a7764bae9294"), looks := false }, kinds := [], alts := [], laidByText := true, laidKinds := [.data], laidTests := true, laidLooks := .later }
def FnFoundUptoCardSaid : Prop := Claim7.holds Tryd.pinned (.plain (OpenSpec.upto fnFoundSpec)) fnFoundUptoCard

/-- THE SECOND FORM's CARD OF 'laws.FnExactNextFree'. -/
def fnExactNextFreeUptoCard : Claim7 := { stood := { row := fnExactNextFreeUptoRow, standIns := [], harness := (true, "09434e74acf96481842509e46ce6e1d776968e6b909ce39e94d1a7764bae9294"), looks := false }, kinds := [], alts := [], laidByText := true, laidKinds := [.data], laidTests := true, laidLooks := .later }
def FnExactNextFreeUptoCardSaid : Prop := Claim7.holds Tryd.pinned (.plain (OpenSpec.upto fnExactNextFreeSpec)) fnExactNextFreeUptoCard

/-- THE SECOND FORM's CARD OF 'laws.FnExactSetList'. -/
def fnExactSetListUptoCard : Claim7 := { stood := { row := fnExactSetListUptoRow, standIns := [], harness := (true, "09434e74acf96481842509e46ce6e1d776968e6b909ce39e94d1a7764bae9294"), looks := false }, kinds := [], alts := [], laidByText := true, laidKinds := [.data], laidTests := true, laidLooks := .later }
def FnExactSetListUptoCardSaid : Prop := Claim7.holds Tryd.pinned (.plain (OpenSpec.upto fnExactSetListSpec)) fnExactSetListUptoCard
end Rows
end Go.Proofs.YtlmelabddaapeaaDoor
