/-
  No cell of these rows narrows 'for every input' (looked for: loops, veiled, ifaces, maps, wideKeys, modest, calm, conditions, laid).
  DERIVED. THE GIVEN ROWS OF THIS SEAT. 10 by the template 'for every input the law returns true; each argument reads behind the call as it read before'; 0 by the template 'total and deterministic' (their statements: YthanckifinfpiaaTotals.lean).
  GIVEN WITH THE SEED: the statements are not yours to turn. If you find one false, say at which input.
  Laid BY PROGRAM, IN A SANDBOX (cutbox-rows.mjs): the forced cells as the released guide's own fill.sh prints them over the translation 3d27cf10aeb62064… (all of the seat's roots in one cut). By AI agents, Wed Nov 11 2026. No macro, syntax, notation, axiom, sorry.
-/
import Derived.Test.YthanckifinfpiaaChecked
import GoSem.Claim
import GoSem.ClaimJoined
import GoSem.ClaimMapViews
import Derived.JoinedTies
import Derived.KernelRfl
namespace Go.Proofs.Ythanckifinfpiaa
/- THE CELL 'sum', in the pinned program and in every row, IS THE sha256 OF THE DUMP (.gsa) THAT YthanckifinfpiaaProg.lean LOADS. Nothing in Lean hashes anything: it is a label: what it is worth is what the hold of that sum in a sandbox is worth. -/
noncomputable def Try.pinned : Pinned := { name := "ythanckifinfpiaa", sum := "3d27cf10aeb62064310246dd37ef7b24f8b1fe4846d54b0787e0981ccf670490", checked := Try.checked }
namespace Rows
def none {H : Type} : Left H := { results := [], args := [] }

/-- 'laws.FnCleaned': WHATEVER THE INPUT: true; the input reads as it did. -/
def fnCleanedSpec : ChangeSpec := { name := "fnCleaned", fn := fun _ => fun
  | [d1, d2] => { results := [.lit (.bool true)], args := [d1, d2] }
  | _ => none }
def fnCleanedRow : OpenClaim := { program := "ythanckifinfpiaa", sum := "3d27cf10aeb62064310246dd37ef7b24f8b1fe4846d54b0787e0981ccf670490", func := "loop.example/g00627/laws.FnCleaned", spec := "fnCleaned", unfollowed := true, recurses := true, apart := false }
def FnCleanedSaid : Prop := fnCleanedRow.holds Try.pinned (OpenSpec.ofChange fnCleanedSpec)

/-- ITS FALSE NEIGHBOUR: 'it returns false'. Refute it at one input. -/
def fnCleanedWrong : ChangeSpec := { name := "fnCleaned", fn := fun _ => fun
  | [d1, d2] => { results := [.lit (.bool false)], args := [d1, d2] }
  | _ => none }
def FnCleanedWrongFalsely : Prop := fnCleanedRow.holds Try.pinned (OpenSpec.ofChange fnCleanedWrong)

/-- 'laws.FnNamed': WHATEVER THE INPUT: true; the input reads as it did. -/
def fnNamedSpec : ChangeSpec := { name := "fnNamed", fn := fun _ => fun
  | [d1, d2] => { results := [.lit (.bool true)], args := [d1, d2] }
  | _ => none }
def fnNamedRow : OpenClaim := { program := "ythanckifinfpiaa", sum := "3d27cf10aeb62064310246dd37ef7b24f8b1fe4846d54b0787e0981ccf670490", func := "loop.example/g00627/laws.FnNamed", spec := "fnNamed", unfollowed := true, recurses := true, apart := false }
def FnNamedSaid : Prop := fnNamedRow.holds Try.pinned (OpenSpec.ofChange fnNamedSpec)

/-- ITS FALSE NEIGHBOUR: 'it returns false'. Refute it at one input. -/
def fnNamedWrong : ChangeSpec := { name := "fnNamed", fn := fun _ => fun
  | [d1, d2] => { results := [.lit (.bool false)], args := [d1, d2] }
  | _ => none }
def FnNamedWrongFalsely : Prop := fnNamedRow.holds Try.pinned (OpenSpec.ofChange fnNamedWrong)

/-- 'laws.FnMoves': WHATEVER THE INPUT: true; the input reads as it did. -/
def fnMovesSpec : ChangeSpec := { name := "fnMoves", fn := fun _ => fun
  | [d1, d2] => { results := [.lit (.bool true)], args := [d1, d2] }
  | _ => none }
def fnMovesRow : OpenClaim := { program := "ythanckifinfpiaa", sum := "3d27cf10aeb62064310246dd37ef7b24f8b1fe4846d54b0787e0981ccf670490", func := "loop.example/g00627/laws.FnMoves", spec := "fnMoves", unfollowed := true, recurses := true, apart := false }
def FnMovesSaid : Prop := fnMovesRow.holds Try.pinned (OpenSpec.ofChange fnMovesSpec)

/-- ITS FALSE NEIGHBOUR: 'it returns false'. Refute it at one input. -/
def fnMovesWrong : ChangeSpec := { name := "fnMoves", fn := fun _ => fun
  | [d1, d2] => { results := [.lit (.bool false)], args := [d1, d2] }
  | _ => none }
def FnMovesWrongFalsely : Prop := fnMovesRow.holds Try.pinned (OpenSpec.ofChange fnMovesWrong)

/-- 'laws.FnExactStartMarking': WHATEVER THE INPUT: true; the input reads as it did. -/
def fnExactStartMarkingSpec : ChangeSpec := { name := "fnExactStartMarking", fn := fun _ => fun
  | [d] => { results := [.lit (.bool true)], args := [d] }
  | _ => none }
def fnExactStartMarkingRow : OpenClaim := { program := "ythanckifinfpiaa", sum := "3d27cf10aeb62064310246dd37ef7b24f8b1fe4846d54b0787e0981ccf670490", func := "loop.example/g00627/laws.FnExactStartMarking", spec := "fnExactStartMarking", recurses := true, apart := false }
def FnExactStartMarkingSaid : Prop := fnExactStartMarkingRow.holds Try.pinned (OpenSpec.ofChange fnExactStartMarkingSpec)

/-- ITS FALSE NEIGHBOUR: 'it returns false'. Refute it at one input. -/
def fnExactStartMarkingWrong : ChangeSpec := { name := "fnExactStartMarking", fn := fun _ => fun
  | [d] => { results := [.lit (.bool false)], args := [d] }
  | _ => none }
def FnExactStartMarkingWrongFalsely : Prop := fnExactStartMarkingRow.holds Try.pinned (OpenSpec.ofChange fnExactStartMarkingWrong)

/-- 'laws.FnExactGoodMarking': WHATEVER THE INPUT: true; the input reads as it did. -/
def fnExactGoodMarkingSpec : ChangeSpec := { name := "fnExactGoodMarking", fn := fun _ => fun
  | [d] => { results := [.lit (.bool true)], args := [d] }
  | _ => none }
def fnExactGoodMarkingRow : OpenClaim := { program := "ythanckifinfpiaa", sum := "3d27cf10aeb62064310246dd37ef7b24f8b1fe4846d54b0787e0981ccf670490", func := "loop.example/g00627/laws.FnExactGoodMarking", spec := "fnExactGoodMarking", apart := false }
def FnExactGoodMarkingSaid : Prop := fnExactGoodMarkingRow.holds Try.pinned (OpenSpec.ofChange fnExactGoodMarkingSpec)

/-- ITS FALSE NEIGHBOUR: 'it returns false'. Refute it at one input. -/
def fnExactGoodMarkingWrong : ChangeSpec := { name := "fnExactGoodMarking", fn := fun _ => fun
  | [d] => { results := [.lit (.bool false)], args := [d] }
  | _ => none }
def FnExactGoodMarkingWrongFalsely : Prop := fnExactGoodMarkingRow.holds Try.pinned (OpenSpec.ofChange fnExactGoodMarkingWrong)

/-- 'laws.FnExactStepBySnapshot': WHATEVER THE INPUT: true; the input reads as it did. -/
def fnExactStepBySnapshotSpec : ChangeSpec := { name := "fnExactStepBySnapshot", fn := fun _ => fun
  | [d1, d2] => { results := [.lit (.bool true)], args := [d1, d2] }
  | _ => none }
def fnExactStepBySnapshotRow : OpenClaim := { program := "ythanckifinfpiaa", sum := "3d27cf10aeb62064310246dd37ef7b24f8b1fe4846d54b0787e0981ccf670490", func := "loop.example/g00627/laws.FnExactStepBySnapshot", spec := "fnExactStepBySnapshot", unfollowed := true, recurses := true, apart := false }
def FnExactStepBySnapshotSaid : Prop := fnExactStepBySnapshotRow.holds Try.pinned (OpenSpec.ofChange fnExactStepBySnapshotSpec)

/-- ITS FALSE NEIGHBOUR: 'it returns false'. Refute it at one input. -/
def fnExactStepBySnapshotWrong : ChangeSpec := { name := "fnExactStepBySnapshot", fn := fun _ => fun
  | [d1, d2] => { results := [.lit (.bool false)], args := [d1, d2] }
  | _ => none }
def FnExactStepBySnapshotWrongFalsely : Prop := fnExactStepBySnapshotRow.holds Try.pinned (OpenSpec.ofChange fnExactStepBySnapshotWrong)

/-- 'laws.FnExactStepByPut': WHATEVER THE INPUT: true; the input reads as it did. -/
def fnExactStepByPutSpec : ChangeSpec := { name := "fnExactStepByPut", fn := fun _ => fun
  | [d1, d2] => { results := [.lit (.bool true)], args := [d1, d2] }
  | _ => none }
def fnExactStepByPutRow : OpenClaim := { program := "ythanckifinfpiaa", sum := "3d27cf10aeb62064310246dd37ef7b24f8b1fe4846d54b0787e0981ccf670490", func := "loop.example/g00627/laws.FnExactStepByPut", spec := "fnExactStepByPut", unfollowed := true, recurses := true, apart := false }
def FnExactStepByPutSaid : Prop := fnExactStepByPutRow.holds Try.pinned (OpenSpec.ofChange fnExactStepByPutSpec)

/-- ITS FALSE NEIGHBOUR: 'it returns false'. Refute it at one input. -/
def fnExactStepByPutWrong : ChangeSpec := { name := "fnExactStepByPut", fn := fun _ => fun
  | [d1, d2] => { results := [.lit (.bool false)], args := [d1, d2] }
  | _ => none }
def FnExactStepByPutWrongFalsely : Prop := fnExactStepByPutRow.holds Try.pinned (OpenSpec.ofChange fnExactStepByPutWrong)

/-- 'laws.FnExactPlayMarking': WHATEVER THE INPUT: true; the input reads as it did. -/
def fnExactPlayMarkingSpec : ChangeSpec := { name := "fnExactPlayMarking", fn := fun _ => fun
  | [d1, d2, d3] => { results := [.lit (.bool true)], args := [d1, d2, d3] }
  | _ => none }
def fnExactPlayMarkingRow : OpenClaim := { program := "ythanckifinfpiaa", sum := "3d27cf10aeb62064310246dd37ef7b24f8b1fe4846d54b0787e0981ccf670490", func := "loop.example/g00627/laws.FnExactPlayMarking", spec := "fnExactPlayMarking", unfollowed := true, recurses := true, apart := false }
def FnExactPlayMarkingSaid : Prop := fnExactPlayMarkingRow.holds Try.pinned (OpenSpec.ofChange fnExactPlayMarkingSpec)

/-- ITS FALSE NEIGHBOUR: 'it returns false'. Refute it at one input. -/
def fnExactPlayMarkingWrong : ChangeSpec := { name := "fnExactPlayMarking", fn := fun _ => fun
  | [d1, d2, d3] => { results := [.lit (.bool false)], args := [d1, d2, d3] }
  | _ => none }
def FnExactPlayMarkingWrongFalsely : Prop := fnExactPlayMarkingRow.holds Try.pinned (OpenSpec.ofChange fnExactPlayMarkingWrong)

/-- 'laws.FnExactEndMarking': WHATEVER THE INPUT: true; the input reads as it did. -/
def fnExactEndMarkingSpec : ChangeSpec := { name := "fnExactEndMarking", fn := fun _ => fun
  | [d1, d2] => { results := [.lit (.bool true)], args := [d1, d2] }
  | _ => none }
def fnExactEndMarkingRow : OpenClaim := { program := "ythanckifinfpiaa", sum := "3d27cf10aeb62064310246dd37ef7b24f8b1fe4846d54b0787e0981ccf670490", func := "loop.example/g00627/laws.FnExactEndMarking", spec := "fnExactEndMarking", unfollowed := true, recurses := true, apart := false }
def FnExactEndMarkingSaid : Prop := fnExactEndMarkingRow.holds Try.pinned (OpenSpec.ofChange fnExactEndMarkingSpec)

/-- ITS FALSE NEIGHBOUR: 'it returns false'. Refute it at one input. -/
def fnExactEndMarkingWrong : ChangeSpec := { name := "fnExactEndMarking", fn := fun _ => fun
  | [d1, d2] => { results := [.lit (.bool false)], args := [d1, d2] }
  | _ => none }
def FnExactEndMarkingWrongFalsely : Prop := fnExactEndMarkingRow.holds Try.pinned (OpenSpec.ofChange fnExactEndMarkingWrong)

/-- 'laws.FnExactKeptFrom': WHATEVER THE INPUT: true; the input reads as it did. -/
def fnExactKeptFromSpec : ChangeSpec := { name := "fnExactKeptFrom", fn := fun _ => fun
  | [d] => { results := [.lit (.bool true)], args := [d] }
  | _ => none }
def fnExactKeptFromRow : OpenClaim := { program := "ythanckifinfpiaa", sum := "3d27cf10aeb62064310246dd37ef7b24f8b1fe4846d54b0787e0981ccf670490", func := "loop.example/g00627/laws.FnExactKeptFrom", spec := "fnExactKeptFrom", apart := false }
def FnExactKeptFromSaid : Prop := fnExactKeptFromRow.holds Try.pinned (OpenSpec.ofChange fnExactKeptFromSpec)

/-- ITS FALSE NEIGHBOUR: 'it returns false'. Refute it at one input. -/
def fnExactKeptFromWrong : ChangeSpec := { name := "fnExactKeptFrom", fn := fun _ => fun
  | [d] => { results := [.lit (.bool false)], args := [d] }
  | _ => none }
def FnExactKeptFromWrongFalsely : Prop := fnExactKeptFromRow.holds Try.pinned (OpenSpec.ofChange fnExactKeptFromWrong)

/- THE SECOND FORM. 'bulk': how many values and letters a reading holds, each counted each time it is reached (what is shared counts as often as it is met; a slice's spare places count too). A statement '..UptoSaid' is the law's where the arguments, and the package variables that the reading takes, are together of bulk at most 1048576: NARROWER than '..Said'. Prove '..Said' where nothing that the law and all that it calls make is longer than what came in: it says more and counts as full. Else prove '..UptoSaid'. A law counts once. -/
mutual
def uptoBulk {H : Type} : DataW H → Nat
  | .lit (.string bytes) => bytes.length + 1
  | .lit _ => 1
  | .nil => 1
  | .ptr d => uptoBulk d + 1
  | .slice elems spare => uptoBulkAll elems + uptoBulkAll spare + 1
  | .agg parts => uptoBulkAll parts + 1
  | .iface _ d => uptoBulk d + 1
  | .map entries => uptoBulkEntries entries + 1
  | .held _ => 1
def uptoBulkAll {H : Type} : List (DataW H) → Nat
  | [] => 0
  | d :: r => uptoBulk d + uptoBulkAll r
def uptoBulkEntries {H : Type} : List (Lit × DataW H) → Nat
  | [] => 0
  | x :: r => uptoBulkEntry x + uptoBulkEntries r
def uptoBulkEntry {H : Type} : Lit × DataW H → Nat
  | (.string bytes, d) => bytes.length + uptoBulk d + 1
  | (_, d) => uptoBulk d + 1
 end
def uptoSmall : (H : Type) → List (DataW H) → Bool := fun _ ds => decide (uptoBulkAll ds ≤ 1048576)
def OpenSpec.upto (s : _root_.Go.ChangeSpec) : _root_.Go.OpenSpec := { _root_.Go.OpenSpec.ofChange s with cond := some uptoSmall }

/-- 'laws.FnCleaned', WHERE WHAT IT READS IS OF BULK AT MOST 1048576: true; the input reads as it did. -/
def fnCleanedUptoRow : OpenClaim := { program := "ythanckifinfpiaa", sum := "3d27cf10aeb62064310246dd37ef7b24f8b1fe4846d54b0787e0981ccf670490", func := "loop.example/g00627/laws.FnCleaned", spec := "fnCleaned", unfollowed := true, recurses := true, apart := false, narrowed := true }
def FnCleanedUptoSaid : Prop := fnCleanedUptoRow.holds Try.pinned (OpenSpec.upto fnCleanedSpec)

/-- 'laws.FnNamed', WHERE WHAT IT READS IS OF BULK AT MOST 1048576: true; the input reads as it did. -/
def fnNamedUptoRow : OpenClaim := { program := "ythanckifinfpiaa", sum := "3d27cf10aeb62064310246dd37ef7b24f8b1fe4846d54b0787e0981ccf670490", func := "loop.example/g00627/laws.FnNamed", spec := "fnNamed", unfollowed := true, recurses := true, apart := false, narrowed := true }
def FnNamedUptoSaid : Prop := fnNamedUptoRow.holds Try.pinned (OpenSpec.upto fnNamedSpec)

/-- 'laws.FnMoves', WHERE WHAT IT READS IS OF BULK AT MOST 1048576: true; the input reads as it did. -/
def fnMovesUptoRow : OpenClaim := { program := "ythanckifinfpiaa", sum := "3d27cf10aeb62064310246dd37ef7b24f8b1fe4846d54b0787e0981ccf670490", func := "loop.example/g00627/laws.FnMoves", spec := "fnMoves", unfollowed := true, recurses := true, apart := false, narrowed := true }
def FnMovesUptoSaid : Prop := fnMovesUptoRow.holds Try.pinned (OpenSpec.upto fnMovesSpec)

/-- 'laws.FnExactStartMarking', WHERE WHAT IT READS IS OF BULK AT MOST 1048576: true; the input reads as it did. -/
def fnExactStartMarkingUptoRow : OpenClaim := { program := "ythanckifinfpiaa", sum := "3d27cf10aeb62064310246dd37ef7b24f8b1fe4846d54b0787e0981ccf670490", func := "loop.example/g00627/laws.FnExactStartMarking", spec := "fnExactStartMarking", recurses := true, apart := false, narrowed := true }
def FnExactStartMarkingUptoSaid : Prop := fnExactStartMarkingUptoRow.holds Try.pinned (OpenSpec.upto fnExactStartMarkingSpec)

/-- 'laws.FnExactGoodMarking', WHERE WHAT IT READS IS OF BULK AT MOST 1048576: true; the input reads as it did. -/
def fnExactGoodMarkingUptoRow : OpenClaim := { program := "ythanckifinfpiaa", sum := "3d27cf10aeb62064310246dd37ef7b24f8b1fe4846d54b0787e0981ccf670490", func := "loop.example/g00627/laws.FnExactGoodMarking", spec := "fnExactGoodMarking", apart := false, narrowed := true }
def FnExactGoodMarkingUptoSaid : Prop := fnExactGoodMarkingUptoRow.holds Try.pinned (OpenSpec.upto fnExactGoodMarkingSpec)

/-- 'laws.FnExactStepBySnapshot', WHERE WHAT IT READS IS OF BULK AT MOST 1048576: true; the input reads as it did. -/
def fnExactStepBySnapshotUptoRow : OpenClaim := { program := "ythanckifinfpiaa", sum := "3d27cf10aeb62064310246dd37ef7b24f8b1fe4846d54b0787e0981ccf670490", func := "loop.example/g00627/laws.FnExactStepBySnapshot", spec := "fnExactStepBySnapshot", unfollowed := true, recurses := true, apart := false, narrowed := true }
def FnExactStepBySnapshotUptoSaid : Prop := fnExactStepBySnapshotUptoRow.holds Try.pinned (OpenSpec.upto fnExactStepBySnapshotSpec)

/-- 'laws.FnExactStepByPut', WHERE WHAT IT READS IS OF BULK AT MOST 1048576: true; the input reads as it did. -/
def fnExactStepByPutUptoRow : OpenClaim := { program := "ythanckifinfpiaa", sum := "3d27cf10aeb62064310246dd37ef7b24f8b1fe4846d54b0787e0981ccf670490", func := "loop.example/g00627/laws.FnExactStepByPut", spec := "fnExactStepByPut", unfollowed := true, recurses := true, apart := false, narrowed := true }
def FnExactStepByPutUptoSaid : Prop := fnExactStepByPutUptoRow.holds Try.pinned (OpenSpec.upto fnExactStepByPutSpec)

/-- 'laws.FnExactPlayMarking', WHERE WHAT IT READS IS OF BULK AT MOST 1048576: true; the input reads as it did. -/
def fnExactPlayMarkingUptoRow : OpenClaim := { program := "ythanckifinfpiaa", sum := "3d27cf10aeb62064310246dd37ef7b24f8b1fe4846d54b0787e0981ccf670490", func := "loop.example/g00627/laws.FnExactPlayMarking", spec := "fnExactPlayMarking", unfollowed := true, recurses := true, apart := false, narrowed := true }
def FnExactPlayMarkingUptoSaid : Prop := fnExactPlayMarkingUptoRow.holds Try.pinned (OpenSpec.upto fnExactPlayMarkingSpec)

/-- 'laws.FnExactEndMarking', WHERE WHAT IT READS IS OF BULK AT MOST 1048576: true; the input reads as it did. -/
def fnExactEndMarkingUptoRow : OpenClaim := { program := "ythanckifinfpiaa", sum := "3d27cf10aeb62064310246dd37ef7b24f8b1fe4846d54b0787e0981ccf670490", func := "loop.example/g00627/laws.FnExactEndMarking", spec := "fnExactEndMarking", unfollowed := true, recurses := true, apart := false, narrowed := true }
def FnExactEndMarkingUptoSaid : Prop := fnExactEndMarkingUptoRow.holds Try.pinned (OpenSpec.upto fnExactEndMarkingSpec)

/-- 'laws.FnExactKeptFrom', WHERE WHAT IT READS IS OF BULK AT MOST 1048576: true; the input reads as it did. -/
def fnExactKeptFromUptoRow : OpenClaim := { program := "ythanckifinfpiaa", sum := "3d27cf10aeb62064310246dd37ef7b24f8b1fe4846d54b0787e0981ccf670490", func := "loop.example/g00627/laws.FnExactKeptFrom", spec := "fnExactKeptFrom", apart := false, narrowed := true }
def FnExactKeptFromUptoSaid : Prop := fnExactKeptFromUptoRow.holds Try.pinned (OpenSpec.upto fnExactKeptFromSpec)

end Rows
end Go.Proofs.Ythanckifinfpiaa
