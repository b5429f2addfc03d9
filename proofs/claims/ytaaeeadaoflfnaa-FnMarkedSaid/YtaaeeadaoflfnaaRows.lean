/-
  No cell of these rows narrows 'for every input' (looked for: loops, veiled, ifaces, maps, wideKeys, modest, calm, conditions, laid).
  DERIVED. THE GIVEN ROWS OF THIS SEAT. 12 by the template 'for every input the law returns true; each argument reads behind the call as it read before'; 0 by the template 'total and deterministic' (their statements: YtaaeeadaoflfnaaTotals.lean).
  GIVEN WITH THE SEED: the statements are not yours to turn. If you find one false, say at which input.
  Laid BY PROGRAM, IN A SANDBOX (cutbox-rows.mjs): the forced cells as the released guide's own fill.sh prints them over the translation 82e33f6b9508fc08… (all of the seat's roots in one cut). By AI agents, Wed Nov 11 2026. No macro, syntax, notation, axiom, sorry.
-/
import Derived.Test.YtaaeeadaoflfnaaChecked
import GoSem.Claim
import GoSem.ClaimJoined
import GoSem.ClaimMapViews
import Derived.JoinedTies
import Derived.KernelRfl
namespace Go.Proofs.Ytaaeeadaoflfnaa
/- THE CELL 'sum', in the pinned program and in every row, IS THE sha256 OF THE DUMP (.gsa) THAT YtaaeeadaoflfnaaProg.lean LOADS. Nothing in Lean hashes anything: it is a label: what it is worth is what the hold of that sum in a sandbox is worth. -/
noncomputable def Try.pinned : Pinned := { name := "ytaaeeadaoflfnaa", sum := "82e33f6b9508fc08a3736b9c9ad331f10dd2679ccd4278d859268a4226b1626b", checked := Try.checked }
namespace Rows
def none {H : Type} : Left H := { results := [], args := [] }

/-- 'laws.FnCleaned': WHATEVER THE INPUT: true; the input reads as it did. -/
def fnCleanedSpec : ChangeSpec := { name := "fnCleaned", fn := fun _ => fun
  | [d1, d2] => { results := [.lit (.bool true)], args := [d1, d2] }
  | _ => none }
def fnCleanedRow : OpenClaim := { program := "ytaaeeadaoflfnaa", sum := "82e33f6b9508fc08a3736b9c9ad331f10dd2679ccd4278d859268a4226b1626b", func := "loop.example/g00627/laws.FnCleaned", spec := "fnCleaned", unfollowed := true, recurses := true, apart := false }
def FnCleanedSaid : Prop := fnCleanedRow.holds Try.pinned (OpenSpec.ofChange fnCleanedSpec)

/-- ITS FALSE NEIGHBOUR: 'it returns false'. Refute it at one input. -/
def fnCleanedWrong : ChangeSpec := { name := "fnCleaned", fn := fun _ => fun
  | [d1, d2] => { results := [.lit (.bool false)], args := [d1, d2] }
  | _ => none }
def FnCleanedWrongFalsely : Prop := fnCleanedRow.holds Try.pinned (OpenSpec.ofChange fnCleanedWrong)

/-- 'laws.FnNamed': WHATEVER THE INPUT: true; the input reads as it did. -/
def fnNamedSpec : ChangeSpec := { name := "fnNamed", fn := fun _ => fun
  | [d1, d2] => { results := [.lit (.bool true)], args := [d1, d2] }
  | _ => none }
def fnNamedRow : OpenClaim := { program := "ytaaeeadaoflfnaa", sum := "82e33f6b9508fc08a3736b9c9ad331f10dd2679ccd4278d859268a4226b1626b", func := "loop.example/g00627/laws.FnNamed", spec := "fnNamed", unfollowed := true, recurses := true, apart := false }
def FnNamedSaid : Prop := fnNamedRow.holds Try.pinned (OpenSpec.ofChange fnNamedSpec)

/-- ITS FALSE NEIGHBOUR: 'it returns false'. Refute it at one input. -/
def fnNamedWrong : ChangeSpec := { name := "fnNamed", fn := fun _ => fun
  | [d1, d2] => { results := [.lit (.bool false)], args := [d1, d2] }
  | _ => none }
def FnNamedWrongFalsely : Prop := fnNamedRow.holds Try.pinned (OpenSpec.ofChange fnNamedWrong)

/-- 'laws.FnMarked': WHATEVER THE INPUT: true; the input reads as it did. -/
def fnMarkedSpec : ChangeSpec := { name := "fnMarked", fn := fun _ => fun
  | [d1, d2] => { results := [.lit (.bool true)], args := [d1, d2] }
  | _ => none }
def fnMarkedRow : OpenClaim := { program := "ytaaeeadaoflfnaa", sum := "82e33f6b9508fc08a3736b9c9ad331f10dd2679ccd4278d859268a4226b1626b", func := "loop.example/g00627/laws.FnMarked", spec := "fnMarked", unfollowed := true, recurses := true, apart := false }
def FnMarkedSaid : Prop := fnMarkedRow.holds Try.pinned (OpenSpec.ofChange fnMarkedSpec)

/-- ITS FALSE NEIGHBOUR: 'it returns false'. Refute it at one input. -/
def fnMarkedWrong : ChangeSpec := { name := "fnMarked", fn := fun _ => fun
  | [d1, d2] => { results := [.lit (.bool false)], args := [d1, d2] }
  | _ => none }
def FnMarkedWrongFalsely : Prop := fnMarkedRow.holds Try.pinned (OpenSpec.ofChange fnMarkedWrong)

/-- 'laws.FnScanned': WHATEVER THE INPUT: true; the input reads as it did. -/
def fnScannedSpec : ChangeSpec := { name := "fnScanned", fn := fun _ => fun
  | [d1, d2] => { results := [.lit (.bool true)], args := [d1, d2] }
  | _ => none }
def fnScannedRow : OpenClaim := { program := "ytaaeeadaoflfnaa", sum := "82e33f6b9508fc08a3736b9c9ad331f10dd2679ccd4278d859268a4226b1626b", func := "loop.example/g00627/laws.FnScanned", spec := "fnScanned", recurses := true, apart := false }
def FnScannedSaid : Prop := fnScannedRow.holds Try.pinned (OpenSpec.ofChange fnScannedSpec)

/-- ITS FALSE NEIGHBOUR: 'it returns false'. Refute it at one input. -/
def fnScannedWrong : ChangeSpec := { name := "fnScanned", fn := fun _ => fun
  | [d1, d2] => { results := [.lit (.bool false)], args := [d1, d2] }
  | _ => none }
def FnScannedWrongFalsely : Prop := fnScannedRow.holds Try.pinned (OpenSpec.ofChange fnScannedWrong)

/-- 'laws.FnExactNewThing': WHATEVER THE INPUT: true; the input reads as it did. -/
def fnExactNewThingSpec : ChangeSpec := { name := "fnExactNewThing", fn := fun _ => fun
  | [d1, d2] => { results := [.lit (.bool true)], args := [d1, d2] }
  | _ => none }
def fnExactNewThingRow : OpenClaim := { program := "ytaaeeadaoflfnaa", sum := "82e33f6b9508fc08a3736b9c9ad331f10dd2679ccd4278d859268a4226b1626b", func := "loop.example/g00627/laws.FnExactNewThing", spec := "fnExactNewThing", apart := false }
def FnExactNewThingSaid : Prop := fnExactNewThingRow.holds Try.pinned (OpenSpec.ofChange fnExactNewThingSpec)

/-- ITS FALSE NEIGHBOUR: 'it returns false'. Refute it at one input. -/
def fnExactNewThingWrong : ChangeSpec := { name := "fnExactNewThing", fn := fun _ => fun
  | [d1, d2] => { results := [.lit (.bool false)], args := [d1, d2] }
  | _ => none }
def FnExactNewThingWrongFalsely : Prop := fnExactNewThingRow.holds Try.pinned (OpenSpec.ofChange fnExactNewThingWrong)

/-- 'laws.FnExactStartColours': WHATEVER THE INPUT: true; the input reads as it did. -/
def fnExactStartColoursSpec : ChangeSpec := { name := "fnExactStartColours", fn := fun _ => fun
  | [d] => { results := [.lit (.bool true)], args := [d] }
  | _ => none }
def fnExactStartColoursRow : OpenClaim := { program := "ytaaeeadaoflfnaa", sum := "82e33f6b9508fc08a3736b9c9ad331f10dd2679ccd4278d859268a4226b1626b", func := "loop.example/g00627/laws.FnExactStartColours", spec := "fnExactStartColours", recurses := true, apart := false }
def FnExactStartColoursSaid : Prop := fnExactStartColoursRow.holds Try.pinned (OpenSpec.ofChange fnExactStartColoursSpec)

/-- ITS FALSE NEIGHBOUR: 'it returns false'. Refute it at one input. -/
def fnExactStartColoursWrong : ChangeSpec := { name := "fnExactStartColours", fn := fun _ => fun
  | [d] => { results := [.lit (.bool false)], args := [d] }
  | _ => none }
def FnExactStartColoursWrongFalsely : Prop := fnExactStartColoursRow.holds Try.pinned (OpenSpec.ofChange fnExactStartColoursWrong)

/-- 'laws.FnExactScanThing': WHATEVER THE INPUT: true; the input reads as it did. -/
def fnExactScanThingSpec : ChangeSpec := { name := "fnExactScanThing", fn := fun _ => fun
  | [d1, d2, d3] => { results := [.lit (.bool true)], args := [d1, d2, d3] }
  | _ => none }
def fnExactScanThingRow : OpenClaim := { program := "ytaaeeadaoflfnaa", sum := "82e33f6b9508fc08a3736b9c9ad331f10dd2679ccd4278d859268a4226b1626b", func := "loop.example/g00627/laws.FnExactScanThing", spec := "fnExactScanThing", recurses := true, apart := false }
def FnExactScanThingSaid : Prop := fnExactScanThingRow.holds Try.pinned (OpenSpec.ofChange fnExactScanThingSpec)

/-- ITS FALSE NEIGHBOUR: 'it returns false'. Refute it at one input. -/
def fnExactScanThingWrong : ChangeSpec := { name := "fnExactScanThing", fn := fun _ => fun
  | [d1, d2, d3] => { results := [.lit (.bool false)], args := [d1, d2, d3] }
  | _ => none }
def FnExactScanThingWrongFalsely : Prop := fnExactScanThingRow.holds Try.pinned (OpenSpec.ofChange fnExactScanThingWrong)

/-- 'laws.FnExactGreysIn': WHATEVER THE INPUT: true; the input reads as it did. -/
def fnExactGreysInSpec : ChangeSpec := { name := "fnExactGreysIn", fn := fun _ => fun
  | [d] => { results := [.lit (.bool true)], args := [d] }
  | _ => none }
def fnExactGreysInRow : OpenClaim := { program := "ytaaeeadaoflfnaa", sum := "82e33f6b9508fc08a3736b9c9ad331f10dd2679ccd4278d859268a4226b1626b", func := "loop.example/g00627/laws.FnExactGreysIn", spec := "fnExactGreysIn", apart := false }
def FnExactGreysInSaid : Prop := fnExactGreysInRow.holds Try.pinned (OpenSpec.ofChange fnExactGreysInSpec)

/-- ITS FALSE NEIGHBOUR: 'it returns false'. Refute it at one input. -/
def fnExactGreysInWrong : ChangeSpec := { name := "fnExactGreysIn", fn := fun _ => fun
  | [d] => { results := [.lit (.bool false)], args := [d] }
  | _ => none }
def FnExactGreysInWrongFalsely : Prop := fnExactGreysInRow.holds Try.pinned (OpenSpec.ofChange fnExactGreysInWrong)

/-- 'laws.FnExactMarkAll': WHATEVER THE INPUT: true; the input reads as it did. -/
def fnExactMarkAllSpec : ChangeSpec := { name := "fnExactMarkAll", fn := fun _ => fun
  | [d1, d2] => { results := [.lit (.bool true)], args := [d1, d2] }
  | _ => none }
def fnExactMarkAllRow : OpenClaim := { program := "ytaaeeadaoflfnaa", sum := "82e33f6b9508fc08a3736b9c9ad331f10dd2679ccd4278d859268a4226b1626b", func := "loop.example/g00627/laws.FnExactMarkAll", spec := "fnExactMarkAll", unfollowed := true, recurses := true, apart := false }
def FnExactMarkAllSaid : Prop := fnExactMarkAllRow.holds Try.pinned (OpenSpec.ofChange fnExactMarkAllSpec)

/-- ITS FALSE NEIGHBOUR: 'it returns false'. Refute it at one input. -/
def fnExactMarkAllWrong : ChangeSpec := { name := "fnExactMarkAll", fn := fun _ => fun
  | [d1, d2] => { results := [.lit (.bool false)], args := [d1, d2] }
  | _ => none }
def FnExactMarkAllWrongFalsely : Prop := fnExactMarkAllRow.holds Try.pinned (OpenSpec.ofChange fnExactMarkAllWrong)

/-- 'laws.FnExactIsSound': WHATEVER THE INPUT: true; the input reads as it did. -/
def fnExactIsSoundSpec : ChangeSpec := { name := "fnExactIsSound", fn := fun _ => fun
  | [d1, d2] => { results := [.lit (.bool true)], args := [d1, d2] }
  | _ => none }
def fnExactIsSoundRow : OpenClaim := { program := "ytaaeeadaoflfnaa", sum := "82e33f6b9508fc08a3736b9c9ad331f10dd2679ccd4278d859268a4226b1626b", func := "loop.example/g00627/laws.FnExactIsSound", spec := "fnExactIsSound", apart := false }
def FnExactIsSoundSaid : Prop := fnExactIsSoundRow.holds Try.pinned (OpenSpec.ofChange fnExactIsSoundSpec)

/-- ITS FALSE NEIGHBOUR: 'it returns false'. Refute it at one input. -/
def fnExactIsSoundWrong : ChangeSpec := { name := "fnExactIsSound", fn := fun _ => fun
  | [d1, d2] => { results := [.lit (.bool false)], args := [d1, d2] }
  | _ => none }
def FnExactIsSoundWrongFalsely : Prop := fnExactIsSoundRow.holds Try.pinned (OpenSpec.ofChange fnExactIsSoundWrong)

/-- 'laws.FnExactShadeThing': WHATEVER THE INPUT: true; the input reads as it did. -/
def fnExactShadeThingSpec : ChangeSpec := { name := "fnExactShadeThing", fn := fun _ => fun
  | [d1, d2] => { results := [.lit (.bool true)], args := [d1, d2] }
  | _ => none }
def fnExactShadeThingRow : OpenClaim := { program := "ytaaeeadaoflfnaa", sum := "82e33f6b9508fc08a3736b9c9ad331f10dd2679ccd4278d859268a4226b1626b", func := "loop.example/g00627/laws.FnExactShadeThing", spec := "fnExactShadeThing", recurses := true, apart := false }
def FnExactShadeThingSaid : Prop := fnExactShadeThingRow.holds Try.pinned (OpenSpec.ofChange fnExactShadeThingSpec)

/-- ITS FALSE NEIGHBOUR: 'it returns false'. Refute it at one input. -/
def fnExactShadeThingWrong : ChangeSpec := { name := "fnExactShadeThing", fn := fun _ => fun
  | [d1, d2] => { results := [.lit (.bool false)], args := [d1, d2] }
  | _ => none }
def FnExactShadeThingWrongFalsely : Prop := fnExactShadeThingRow.holds Try.pinned (OpenSpec.ofChange fnExactShadeThingWrong)

/-- 'laws.FnExactWhitesIn': WHATEVER THE INPUT: true; the input reads as it did. -/
def fnExactWhitesInSpec : ChangeSpec := { name := "fnExactWhitesIn", fn := fun _ => fun
  | [d] => { results := [.lit (.bool true)], args := [d] }
  | _ => none }
def fnExactWhitesInRow : OpenClaim := { program := "ytaaeeadaoflfnaa", sum := "82e33f6b9508fc08a3736b9c9ad331f10dd2679ccd4278d859268a4226b1626b", func := "loop.example/g00627/laws.FnExactWhitesIn", spec := "fnExactWhitesIn", apart := false }
def FnExactWhitesInSaid : Prop := fnExactWhitesInRow.holds Try.pinned (OpenSpec.ofChange fnExactWhitesInSpec)

/-- ITS FALSE NEIGHBOUR: 'it returns false'. Refute it at one input. -/
def fnExactWhitesInWrong : ChangeSpec := { name := "fnExactWhitesIn", fn := fun _ => fun
  | [d] => { results := [.lit (.bool false)], args := [d] }
  | _ => none }
def FnExactWhitesInWrongFalsely : Prop := fnExactWhitesInRow.holds Try.pinned (OpenSpec.ofChange fnExactWhitesInWrong)

/- THE SECOND FORM. 'bulk': how many values and letters a reading holds, each counted each time it is reached (what is shared counts as often as it is met; a slice's spare places count too). A statement '..UptoSaid' is the law's where the arguments, and the package variables that the reading takes, are together of bulk at most 1048576: NARROWER than '..Said'. Prove '..Said' where nothing that the law and all that it calls make is longer than what came in: it says more and counts as full. Else prove '..UptoSaid'. A law counts once. -/
mutual
def uptoBulk {H : Type} : DataW H → Nat
  | .lit (.string bytes) => bytes.length + 1
  | .lit _ => 1
  | .nil => 1
  | .ptr d => uptoBulk d + 1
  | .slice elems spare => uptoBulkAll elems + uptoBulkAll spare + 1
  | .agg parts => uptoBulkAll parts + 1
  | .iface _ d => uptoBulk d + 1
  | .map entries => uptoBulkEntries entries + 1
  | .held _ => 1
def uptoBulkAll {H : Type} : List (DataW H) → Nat
  | [] => 0
  | d :: r => uptoBulk d + uptoBulkAll r
def uptoBulkEntries {H : Type} : List (Lit × DataW H) → Nat
  | [] => 0
  | x :: r => uptoBulkEntry x + uptoBulkEntries r
def uptoBulkEntry {H : Type} : Lit × DataW H → Nat
  | (.string bytes, d) => bytes.length + uptoBulk d + 1
  | (_, d) => uptoBulk d + 1
 end
def uptoSmall : (H : Type) → List (DataW H) → Bool := fun _ ds => decide (uptoBulkAll ds ≤ 1048576)
def OpenSpec.upto (s : _root_.Go.ChangeSpec) : _root_.Go.OpenSpec := { _root_.Go.OpenSpec.ofChange s with cond := some uptoSmall }

/-- 'laws.FnCleaned', WHERE WHAT IT READS IS OF BULK AT MOST 1048576: true; the input reads as it did. -/
def fnCleanedUptoRow : OpenClaim := { program := "ytaaeeadaoflfnaa", sum := "82e33f6b9508fc08a3736b9c9ad331f10dd2679ccd4278d859268a4226b1626b", func := "loop.example/g00627/laws.FnCleaned", spec := "fnCleaned", unfollowed := true, recurses := true, apart := false, narrowed := true }
def FnCleanedUptoSaid : Prop := fnCleanedUptoRow.holds Try.pinned (OpenSpec.upto fnCleanedSpec)

/-- 'laws.FnNamed', WHERE WHAT IT READS IS OF BULK AT MOST 1048576: true; the input reads as it did. -/
def fnNamedUptoRow : OpenClaim := { program := "ytaaeeadaoflfnaa", sum := "82e33f6b9508fc08a3736b9c9ad331f10dd2679ccd4278d859268a4226b1626b", func := "loop.example/g00627/laws.FnNamed", spec := "fnNamed", unfollowed := true, recurses := true, apart := false, narrowed := true }
def FnNamedUptoSaid : Prop := fnNamedUptoRow.holds Try.pinned (OpenSpec.upto fnNamedSpec)

/-- 'laws.FnMarked', WHERE WHAT IT READS IS OF BULK AT MOST 1048576: true; the input reads as it did. -/
def fnMarkedUptoRow : OpenClaim := { program := "ytaaeeadaoflfnaa", sum := "82e33f6b9508fc08a3736b9c9ad331f10dd2679ccd4278d859268a4226b1626b", func := "loop.example/g00627/laws.FnMarked", spec := "fnMarked", unfollowed := true, recurses := true, apart := false, narrowed := true }
def FnMarkedUptoSaid : Prop := fnMarkedUptoRow.holds Try.pinned (OpenSpec.upto fnMarkedSpec)

/-- 'laws.FnScanned', WHERE WHAT IT READS IS OF BULK AT MOST 1048576: true; the input reads as it did. -/
def fnScannedUptoRow : OpenClaim := { program := "ytaaeeadaoflfnaa", sum := "82e33f6b9508fc08a3736b9c9ad331f10dd2679ccd4278d859268a4226b1626b", func := "loop.example/g00627/laws.FnScanned", spec := "fnScanned", recurses := true, apart := false, narrowed := true }
def FnScannedUptoSaid : Prop := fnScannedUptoRow.holds Try.pinned (OpenSpec.upto fnScannedSpec)

/-- 'laws.FnExactNewThing', WHERE WHAT IT READS IS OF BULK AT MOST 1048576: true; the input reads as it did. -/
def fnExactNewThingUptoRow : OpenClaim := { program := "ytaaeeadaoflfnaa", sum := "82e33f6b9508fc08a3736b9c9ad331f10dd2679ccd4278d859268a4226b1626b", func := "loop.example/g00627/laws.FnExactNewThing", spec := "fnExactNewThing", apart := false, narrowed := true }
def FnExactNewThingUptoSaid : Prop := fnExactNewThingUptoRow.holds Try.pinned (OpenSpec.upto fnExactNewThingSpec)

/-- 'laws.FnExactStartColours', WHERE WHAT IT READS IS OF BULK AT MOST 1048576: true; the input reads as it did. -/
def fnExactStartColoursUptoRow : OpenClaim := { program := "ytaaeeadaoflfnaa", sum := "82e33f6b9508fc08a3736b9c9ad331f10dd2679ccd4278d859268a4226b1626b", func := "loop.example/g00627/laws.FnExactStartColours", spec := "fnExactStartColours", recurses := true, apart := false, narrowed := true }
def FnExactStartColoursUptoSaid : Prop := fnExactStartColoursUptoRow.holds Try.pinned (OpenSpec.upto fnExactStartColoursSpec)

/-- 'laws.FnExactScanThing', WHERE WHAT IT READS IS OF BULK AT MOST 1048576: true; the input reads as it did. -/
def fnExactScanThingUptoRow : OpenClaim := { program := "ytaaeeadaoflfnaa", sum := "82e33f6b9508fc08a3736b9c9ad331f10dd2679ccd4278d859268a4226b1626b", func := "loop.example/g00627/laws.FnExactScanThing", spec := "fnExactScanThing", recurses := true, apart := false, narrowed := true }
def FnExactScanThingUptoSaid : Prop := fnExactScanThingUptoRow.holds Try.pinned (OpenSpec.upto fnExactScanThingSpec)

/-- 'laws.FnExactGreysIn', WHERE WHAT IT READS IS OF BULK AT MOST 1048576: true; the input reads as it did. -/
def fnExactGreysInUptoRow : OpenClaim := { program := "ytaaeeadaoflfnaa", sum := "82e33f6b9508fc08a3736b9c9ad331f10dd2679ccd4278d859268a4226b1626b", func := "loop.example/g00627/laws.FnExactGreysIn", spec := "fnExactGreysIn", apart := false, narrowed := true }
def FnExactGreysInUptoSaid : Prop := fnExactGreysInUptoRow.holds Try.pinned (OpenSpec.upto fnExactGreysInSpec)

/-- 'laws.FnExactMarkAll', WHERE WHAT IT READS IS OF BULK AT MOST 1048576: true; the input reads as it did. -/
def fnExactMarkAllUptoRow : OpenClaim := { program := "ytaaeeadaoflfnaa", sum := "82e33f6b9508fc08a3736b9c9ad331f10dd2679ccd4278d859268a4226b1626b", func := "loop.example/g00627/laws.FnExactMarkAll", spec := "fnExactMarkAll", unfollowed := true, recurses := true, apart := false, narrowed := true }
def FnExactMarkAllUptoSaid : Prop := fnExactMarkAllUptoRow.holds Try.pinned (OpenSpec.upto fnExactMarkAllSpec)

/-- 'laws.FnExactIsSound', WHERE WHAT IT READS IS OF BULK AT MOST 1048576: true; the input reads as it did. -/
def fnExactIsSoundUptoRow : OpenClaim := { program := "ytaaeeadaoflfnaa", sum := "82e33f6b9508fc08a3736b9c9ad331f10dd2679ccd4278d859268a4226b1626b", func := "loop.example/g00627/laws.FnExactIsSound", spec := "fnExactIsSound", apart := false, narrowed := true }
def FnExactIsSoundUptoSaid : Prop := fnExactIsSoundUptoRow.holds Try.pinned (OpenSpec.upto fnExactIsSoundSpec)

/-- 'laws.FnExactShadeThing', WHERE WHAT IT READS IS OF BULK AT MOST 1048576: true; the input reads as it did. -/
def fnExactShadeThingUptoRow : OpenClaim := { program := "ytaaeeadaoflfnaa", sum := "82e33f6b9508fc08a3736b9c9ad331f10dd2679ccd4278d859268a4226b1626b", func := "loop.example/g00627/laws.FnExactShadeThing", spec := "fnExactShadeThing", recurses := true, apart := false, narrowed := true }
def FnExactShadeThingUptoSaid : Prop := fnExactShadeThingUptoRow.holds Try.pinned (OpenSpec.upto fnExactShadeThingSpec)

/-- 'laws.FnExactWhitesIn', WHERE WHAT IT READS IS OF BULK AT MOST 1048576: true; the input reads as it did. -/
def fnExactWhitesInUptoRow : OpenClaim := { program := "ytaaeeadaoflfnaa", sum := "82e33f6b9508fc08a3736b9c9ad331f10dd2679ccd4278d859268a4226b1626b", func := "loop.example/g00627/laws.FnExactWhitesIn", spec := "fnExactWhitesIn", apart := false, narrowed := true }
def FnExactWhitesInUptoSaid : Prop := fnExactWhitesInUptoRow.holds Try.pinned (OpenSpec.upto fnExactWhitesInSpec)

end Rows
end Go.Proofs.Ytaaeeadaoflfnaa
