/-
  No cell of these rows narrows 'for every input' (looked for: loops, veiled, ifaces, maps, wideKeys, modest, calm, conditions, laid).
  DERIVED. THE GIVEN ROWS OF THIS SEAT. 12 by the template 'for every input the law returns true; each argument reads behind the call as it read before'; 0 by the template 'total and deterministic' (their statements: YtbmfkgfmibpkjaaTotals.lean).
  GIVEN WITH THE SEED: the statements are not yours to turn. If you find one false, say at which input.
  Laid BY PROGRAM, IN A SANDBOX (cutbox-rows.mjs): the forced cells as the released guide's own fill.sh prints them over the translation b01384294a53daf4… (all of the seat's roots in one cut). By AI agents, Wed Nov 11 2026. No macro, syntax, notation, axiom, sorry.
-/
import Derived.Test.YtbmfkgfmibpkjaaChecked
import GoSem.Claim
import GoSem.ClaimJoined
import GoSem.ClaimMapViews
import Derived.JoinedTies
import Derived.KernelRfl
namespace Go.Proofs.Ytbmfkgfmibpkjaa
/- THE CELL 'sum', in the pinned program and in every row, IS THE sha256 OF THE DUMP (.gsa) THAT YtbmfkgfmibpkjaaProg.lean LOADS. Nothing in Lean hashes anything: it is a label: what it is worth is what the hold of that sum in a sandbox is worth. -/
noncomputable def Try.pinned : Pinned := { name := "ytbmfkgfmibpkjaa", sum := "b01384294a53daf4d259e8ef41a240812b5744a3a1da23a2d0b4cc0fe824f892", checked := Try.checked }
namespace Rows
def none {H : Type} : Left H := { results := [], args := [] }

/-- 'laws.FnExactStepBySnapshot': WHATEVER THE INPUT: true; the input reads as it did. -/
def fnExactStepBySnapshotSpec : ChangeSpec := { name := "fnExactStepBySnapshot", fn := fun _ => fun
  | [d1, d2] => { results := [.lit (.bool true)], args := [d1, d2] }
  | _ => none }
def fnExactStepBySnapshotRow : OpenClaim := { program := "ytbmfkgfmibpkjaa", sum := "b01384294a53daf4d259e8ef41a240812b5744a3a1da23a2d0b4cc0fe824f892", func := "loop.example/g00627/laws.FnExactStepBySnapshot", spec := "fnExactStepBySnapshot", unfollowed := true, recurses := true, apart := false }
def FnExactStepBySnapshotSaid : Prop := fnExactStepBySnapshotRow.holds Try.pinned (OpenSpec.ofChange fnExactStepBySnapshotSpec)

/-- ITS FALSE NEIGHBOUR: 'it returns false'. Refute it at one input. -/
def fnExactStepBySnapshotWrong : ChangeSpec := { name := "fnExactStepBySnapshot", fn := fun _ => fun
  | [d1, d2] => { results := [.lit (.bool false)], args := [d1, d2] }
  | _ => none }
def FnExactStepBySnapshotWrongFalsely : Prop := fnExactStepBySnapshotRow.holds Try.pinned (OpenSpec.ofChange fnExactStepBySnapshotWrong)

/-- 'laws.FnExactStepByPut': WHATEVER THE INPUT: true; the input reads as it did. -/
def fnExactStepByPutSpec : ChangeSpec := { name := "fnExactStepByPut", fn := fun _ => fun
  | [d1, d2] => { results := [.lit (.bool true)], args := [d1, d2] }
  | _ => none }
def fnExactStepByPutRow : OpenClaim := { program := "ytbmfkgfmibpkjaa", sum := "b01384294a53daf4d259e8ef41a240812b5744a3a1da23a2d0b4cc0fe824f892", func := "loop.example/g00627/laws.FnExactStepByPut", spec := "fnExactStepByPut", unfollowed := true, recurses := true, apart := false }
def FnExactStepByPutSaid : Prop := fnExactStepByPutRow.holds Try.pinned (OpenSpec.ofChange fnExactStepByPutSpec)

/-- ITS FALSE NEIGHBOUR: 'it returns false'. Refute it at one input. -/
def fnExactStepByPutWrong : ChangeSpec := { name := "fnExactStepByPut", fn := fun _ => fun
  | [d1, d2] => { results := [.lit (.bool false)], args := [d1, d2] }
  | _ => none }
def FnExactStepByPutWrongFalsely : Prop := fnExactStepByPutRow.holds Try.pinned (OpenSpec.ofChange fnExactStepByPutWrong)

/-- 'laws.FnExactPlayMarking': WHATEVER THE INPUT: true; the input reads as it did. -/
def fnExactPlayMarkingSpec : ChangeSpec := { name := "fnExactPlayMarking", fn := fun _ => fun
  | [d1, d2, d3] => { results := [.lit (.bool true)], args := [d1, d2, d3] }
  | _ => none }
def fnExactPlayMarkingRow : OpenClaim := { program := "ytbmfkgfmibpkjaa", sum := "b01384294a53daf4d259e8ef41a240812b5744a3a1da23a2d0b4cc0fe824f892", func := "loop.example/g00627/laws.FnExactPlayMarking", spec := "fnExactPlayMarking", unfollowed := true, recurses := true, apart := false }
def FnExactPlayMarkingSaid : Prop := fnExactPlayMarkingRow.holds Try.pinned (OpenSpec.ofChange fnExactPlayMarkingSpec)

/-- ITS FALSE NEIGHBOUR: 'it returns false'. Refute it at one input. -/
def fnExactPlayMarkingWrong : ChangeSpec := { name := "fnExactPlayMarking", fn := fun _ => fun
  | [d1, d2, d3] => { results := [.lit (.bool false)], args := [d1, d2, d3] }
  | _ => none }
def FnExactPlayMarkingWrongFalsely : Prop := fnExactPlayMarkingRow.holds Try.pinned (OpenSpec.ofChange fnExactPlayMarkingWrong)

/-- 'laws.FnExactNewAges': WHATEVER THE INPUT: true; the input reads as it did. -/
def fnExactNewAgesSpec : ChangeSpec := { name := "fnExactNewAges", fn := fun _ => fun
  | [d] => { results := [.lit (.bool true)], args := [d] }
  | _ => none }
def fnExactNewAgesRow : OpenClaim := { program := "ytbmfkgfmibpkjaa", sum := "b01384294a53daf4d259e8ef41a240812b5744a3a1da23a2d0b4cc0fe824f892", func := "loop.example/g00627/laws.FnExactNewAges", spec := "fnExactNewAges", apart := false }
def FnExactNewAgesSaid : Prop := fnExactNewAgesRow.holds Try.pinned (OpenSpec.ofChange fnExactNewAgesSpec)

/-- ITS FALSE NEIGHBOUR: 'it returns false'. Refute it at one input. -/
def fnExactNewAgesWrong : ChangeSpec := { name := "fnExactNewAges", fn := fun _ => fun
  | [d] => { results := [.lit (.bool false)], args := [d] }
  | _ => none }
def FnExactNewAgesWrongFalsely : Prop := fnExactNewAgesRow.holds Try.pinned (OpenSpec.ofChange fnExactNewAgesWrong)

/-- 'laws.FnExactGoodAges': WHATEVER THE INPUT: true; the input reads as it did. -/
def fnExactGoodAgesSpec : ChangeSpec := { name := "fnExactGoodAges", fn := fun _ => fun
  | [d] => { results := [.lit (.bool true)], args := [d] }
  | _ => none }
def fnExactGoodAgesRow : OpenClaim := { program := "ytbmfkgfmibpkjaa", sum := "b01384294a53daf4d259e8ef41a240812b5744a3a1da23a2d0b4cc0fe824f892", func := "loop.example/g00627/laws.FnExactGoodAges", spec := "fnExactGoodAges", unfollowed := true, recurses := true, apart := false }
def FnExactGoodAgesSaid : Prop := fnExactGoodAgesRow.holds Try.pinned (OpenSpec.ofChange fnExactGoodAgesSpec)

/-- ITS FALSE NEIGHBOUR: 'it returns false'. Refute it at one input. -/
def fnExactGoodAgesWrong : ChangeSpec := { name := "fnExactGoodAges", fn := fun _ => fun
  | [d] => { results := [.lit (.bool false)], args := [d] }
  | _ => none }
def FnExactGoodAgesWrongFalsely : Prop := fnExactGoodAgesRow.holds Try.pinned (OpenSpec.ofChange fnExactGoodAgesWrong)

/-- 'laws.FnExactStepAges': WHATEVER THE INPUT: true; the input reads as it did. -/
def fnExactStepAgesSpec : ChangeSpec := { name := "fnExactStepAges", fn := fun _ => fun
  | [d1, d2] => { results := [.lit (.bool true)], args := [d1, d2] }
  | _ => none }
def fnExactStepAgesRow : OpenClaim := { program := "ytbmfkgfmibpkjaa", sum := "b01384294a53daf4d259e8ef41a240812b5744a3a1da23a2d0b4cc0fe824f892", func := "loop.example/g00627/laws.FnExactStepAges", spec := "fnExactStepAges", inPlace := ["slices.overlaps[int]"], unfollowed := true, recurses := true, apart := false }
def FnExactStepAgesSaid : Prop := fnExactStepAgesRow.holds Try.pinned (OpenSpec.ofChange fnExactStepAgesSpec)

/-- ITS FALSE NEIGHBOUR: 'it returns false'. Refute it at one input. -/
def fnExactStepAgesWrong : ChangeSpec := { name := "fnExactStepAges", fn := fun _ => fun
  | [d1, d2] => { results := [.lit (.bool false)], args := [d1, d2] }
  | _ => none }
def FnExactStepAgesWrongFalsely : Prop := fnExactStepAgesRow.holds Try.pinned (OpenSpec.ofChange fnExactStepAgesWrong)

/-- 'laws.FnExactPlayAges': WHATEVER THE INPUT: true; the input reads as it did. -/
def fnExactPlayAgesSpec : ChangeSpec := { name := "fnExactPlayAges", fn := fun _ => fun
  | [d1, d2] => { results := [.lit (.bool true)], args := [d1, d2] }
  | _ => none }
def fnExactPlayAgesRow : OpenClaim := { program := "ytbmfkgfmibpkjaa", sum := "b01384294a53daf4d259e8ef41a240812b5744a3a1da23a2d0b4cc0fe824f892", func := "loop.example/g00627/laws.FnExactPlayAges", spec := "fnExactPlayAges", inPlace := ["slices.overlaps[int]"], unfollowed := true, recurses := true, apart := false }
def FnExactPlayAgesSaid : Prop := fnExactPlayAgesRow.holds Try.pinned (OpenSpec.ofChange fnExactPlayAgesSpec)

/-- ITS FALSE NEIGHBOUR: 'it returns false'. Refute it at one input. -/
def fnExactPlayAgesWrong : ChangeSpec := { name := "fnExactPlayAges", fn := fun _ => fun
  | [d1, d2] => { results := [.lit (.bool false)], args := [d1, d2] }
  | _ => none }
def FnExactPlayAgesWrongFalsely : Prop := fnExactPlayAgesRow.holds Try.pinned (OpenSpec.ofChange fnExactPlayAgesWrong)

/-- 'laws.FnExactOldNaming': WHATEVER THE INPUT: true; the input reads as it did. -/
def fnExactOldNamingSpec : ChangeSpec := { name := "fnExactOldNaming", fn := fun _ => fun
  | [d] => { results := [.lit (.bool true)], args := [d] }
  | _ => none }
def fnExactOldNamingRow : OpenClaim := { program := "ytbmfkgfmibpkjaa", sum := "b01384294a53daf4d259e8ef41a240812b5744a3a1da23a2d0b4cc0fe824f892", func := "loop.example/g00627/laws.FnExactOldNaming", spec := "fnExactOldNaming", unfollowed := true, recurses := true, apart := false }
def FnExactOldNamingSaid : Prop := fnExactOldNamingRow.holds Try.pinned (OpenSpec.ofChange fnExactOldNamingSpec)

/-- ITS FALSE NEIGHBOUR: 'it returns false'. Refute it at one input. -/
def fnExactOldNamingWrong : ChangeSpec := { name := "fnExactOldNaming", fn := fun _ => fun
  | [d] => { results := [.lit (.bool false)], args := [d] }
  | _ => none }
def FnExactOldNamingWrongFalsely : Prop := fnExactOldNamingRow.holds Try.pinned (OpenSpec.ofChange fnExactOldNamingWrong)

/-- 'laws.FnExactYoungIn': WHATEVER THE INPUT: true; the input reads as it did. -/
def fnExactYoungInSpec : ChangeSpec := { name := "fnExactYoungIn", fn := fun _ => fun
  | [d] => { results := [.lit (.bool true)], args := [d] }
  | _ => none }
def fnExactYoungInRow : OpenClaim := { program := "ytbmfkgfmibpkjaa", sum := "b01384294a53daf4d259e8ef41a240812b5744a3a1da23a2d0b4cc0fe824f892", func := "loop.example/g00627/laws.FnExactYoungIn", spec := "fnExactYoungIn", unfollowed := true, recurses := true, apart := false }
def FnExactYoungInSaid : Prop := fnExactYoungInRow.holds Try.pinned (OpenSpec.ofChange fnExactYoungInSpec)

/-- ITS FALSE NEIGHBOUR: 'it returns false'. Refute it at one input. -/
def fnExactYoungInWrong : ChangeSpec := { name := "fnExactYoungIn", fn := fun _ => fun
  | [d] => { results := [.lit (.bool false)], args := [d] }
  | _ => none }
def FnExactYoungInWrongFalsely : Prop := fnExactYoungInRow.holds Try.pinned (OpenSpec.ofChange fnExactYoungInWrong)

/-- 'laws.FnExactMinorKeeps': WHATEVER THE INPUT: true; the input reads as it did. -/
def fnExactMinorKeepsSpec : ChangeSpec := { name := "fnExactMinorKeeps", fn := fun _ => fun
  | [d] => { results := [.lit (.bool true)], args := [d] }
  | _ => none }
def fnExactMinorKeepsRow : OpenClaim := { program := "ytbmfkgfmibpkjaa", sum := "b01384294a53daf4d259e8ef41a240812b5744a3a1da23a2d0b4cc0fe824f892", func := "loop.example/g00627/laws.FnExactMinorKeeps", spec := "fnExactMinorKeeps", unfollowed := true, recurses := true, apart := false }
def FnExactMinorKeepsSaid : Prop := fnExactMinorKeepsRow.holds Try.pinned (OpenSpec.ofChange fnExactMinorKeepsSpec)

/-- ITS FALSE NEIGHBOUR: 'it returns false'. Refute it at one input. -/
def fnExactMinorKeepsWrong : ChangeSpec := { name := "fnExactMinorKeeps", fn := fun _ => fun
  | [d] => { results := [.lit (.bool false)], args := [d] }
  | _ => none }
def FnExactMinorKeepsWrongFalsely : Prop := fnExactMinorKeepsRow.holds Try.pinned (OpenSpec.ofChange fnExactMinorKeepsWrong)

/-- 'laws.FnMoves': WHATEVER THE INPUT: true; the input reads as it did. -/
def fnMovesSpec : ChangeSpec := { name := "fnMoves", fn := fun _ => fun
  | [d1, d2] => { results := [.lit (.bool true)], args := [d1, d2] }
  | _ => none }
def fnMovesRow : OpenClaim := { program := "ytbmfkgfmibpkjaa", sum := "b01384294a53daf4d259e8ef41a240812b5744a3a1da23a2d0b4cc0fe824f892", func := "loop.example/g00627/laws.FnMoves", spec := "fnMoves", unfollowed := true, recurses := true, apart := false }
def FnMovesSaid : Prop := fnMovesRow.holds Try.pinned (OpenSpec.ofChange fnMovesSpec)

/-- ITS FALSE NEIGHBOUR: 'it returns false'. Refute it at one input. -/
def fnMovesWrong : ChangeSpec := { name := "fnMoves", fn := fun _ => fun
  | [d1, d2] => { results := [.lit (.bool false)], args := [d1, d2] }
  | _ => none }
def FnMovesWrongFalsely : Prop := fnMovesRow.holds Try.pinned (OpenSpec.ofChange fnMovesWrong)

/-- 'laws.FnLost': WHATEVER THE INPUT: true; the input reads as it did. -/
def fnLostSpec : ChangeSpec := { name := "fnLost", fn := fun _ => fun
  | [d1, d2] => { results := [.lit (.bool true)], args := [d1, d2] }
  | _ => none }
def fnLostRow : OpenClaim := { program := "ytbmfkgfmibpkjaa", sum := "b01384294a53daf4d259e8ef41a240812b5744a3a1da23a2d0b4cc0fe824f892", func := "loop.example/g00627/laws.FnLost", spec := "fnLost", unfollowed := true, recurses := true, apart := false }
def FnLostSaid : Prop := fnLostRow.holds Try.pinned (OpenSpec.ofChange fnLostSpec)

/-- ITS FALSE NEIGHBOUR: 'it returns false'. Refute it at one input. -/
def fnLostWrong : ChangeSpec := { name := "fnLost", fn := fun _ => fun
  | [d1, d2] => { results := [.lit (.bool false)], args := [d1, d2] }
  | _ => none }
def FnLostWrongFalsely : Prop := fnLostRow.holds Try.pinned (OpenSpec.ofChange fnLostWrong)

/- THE SECOND FORM. 'bulk': how many values and letters a reading holds, each counted each time it is reached (what is shared counts as often as it is met; a slice's spare places count too). A statement '..UptoSaid' is the law's where the arguments, and the package variables that the reading takes, are together of bulk at most 1048576: NARROWER than '..Said'. Prove '..Said' where nothing that the law and all that it calls make is longer than what came in: it says more and counts as full. Else prove '..UptoSaid'. A law counts once. -/
mutual
def uptoBulk {H : Type} : DataW H → Nat
  | .lit (.string bytes) => bytes.length + 1
  | .lit _ => 1
  | .nil => 1
  | .ptr d => uptoBulk d + 1
  | .slice elems spare => uptoBulkAll elems + uptoBulkAll spare + 1
  | .agg parts => uptoBulkAll parts + 1
  | .iface _ d => uptoBulk d + 1
  | .map entries => uptoBulkEntries entries + 1
  | .held _ => 1
def uptoBulkAll {H : Type} : List (DataW H) → Nat
  | [] => 0
  | d :: r => uptoBulk d + uptoBulkAll r
def uptoBulkEntries {H : Type} : List (Lit × DataW H) → Nat
  | [] => 0
  | x :: r => uptoBulkEntry x + uptoBulkEntries r
def uptoBulkEntry {H : Type} : Lit × DataW H → Nat
  | (.string bytes, d) => bytes.length + uptoBulk d + 1
  | (_, d) => uptoBulk d + 1
 end
def uptoSmall : (H : Type) → List (DataW H) → Bool := fun _ ds => decide (uptoBulkAll ds ≤ 1048576)
def OpenSpec.upto (s : _root_.Go.ChangeSpec) : _root_.Go.OpenSpec := { _root_.Go.OpenSpec.ofChange s with cond := some uptoSmall }

/-- 'laws.FnExactStepBySnapshot', WHERE WHAT IT READS IS OF BULK AT MOST 1048576: true; the input reads as it did. -/
def fnExactStepBySnapshotUptoRow : OpenClaim := { program := "ytbmfkgfmibpkjaa", sum := "b01384294a53daf4d259e8ef41a240812b5744a3a1da23a2d0b4cc0fe824f892", func := "loop.example/g00627/laws.FnExactStepBySnapshot", spec := "fnExactStepBySnapshot", unfollowed := true, recurses := true, apart := false, narrowed := true }
def FnExactStepBySnapshotUptoSaid : Prop := fnExactStepBySnapshotUptoRow.holds Try.pinned (OpenSpec.upto fnExactStepBySnapshotSpec)

/-- 'laws.FnExactStepByPut', WHERE WHAT IT READS IS OF BULK AT MOST 1048576: true; the input reads as it did. -/
def fnExactStepByPutUptoRow : OpenClaim := { program := "ytbmfkgfmibpkjaa", sum := "b01384294a53daf4d259e8ef41a240812b5744a3a1da23a2d0b4cc0fe824f892", func := "loop.example/g00627/laws.FnExactStepByPut", spec := "fnExactStepByPut", unfollowed := true, recurses := true, apart := false, narrowed := true }
def FnExactStepByPutUptoSaid : Prop := fnExactStepByPutUptoRow.holds Try.pinned (OpenSpec.upto fnExactStepByPutSpec)

/-- 'laws.FnExactPlayMarking', WHERE WHAT IT READS IS OF BULK AT MOST 1048576: true; the input reads as it did. -/
def fnExactPlayMarkingUptoRow : OpenClaim := { program := "ytbmfkgfmibpkjaa", sum := "b01384294a53daf4d259e8ef41a240812b5744a3a1da23a2d0b4cc0fe824f892", func := "loop.example/g00627/laws.FnExactPlayMarking", spec := "fnExactPlayMarking", unfollowed := true, recurses := true, apart := false, narrowed := true }
def FnExactPlayMarkingUptoSaid : Prop := fnExactPlayMarkingUptoRow.holds Try.pinned (OpenSpec.upto fnExactPlayMarkingSpec)

/-- 'laws.FnExactNewAges', WHERE WHAT IT READS IS OF BULK AT MOST 1048576: true; the input reads as it did. -/
def fnExactNewAgesUptoRow : OpenClaim := { program := "ytbmfkgfmibpkjaa", sum := "b01384294a53daf4d259e8ef41a240812b5744a3a1da23a2d0b4cc0fe824f892", func := "loop.example/g00627/laws.FnExactNewAges", spec := "fnExactNewAges", apart := false, narrowed := true }
def FnExactNewAgesUptoSaid : Prop := fnExactNewAgesUptoRow.holds Try.pinned (OpenSpec.upto fnExactNewAgesSpec)

/-- 'laws.FnExactGoodAges', WHERE WHAT IT READS IS OF BULK AT MOST 1048576: true; the input reads as it did. -/
def fnExactGoodAgesUptoRow : OpenClaim := { program := "ytbmfkgfmibpkjaa", sum := "b01384294a53daf4d259e8ef41a240812b5744a3a1da23a2d0b4cc0fe824f892", func := "loop.example/g00627/laws.FnExactGoodAges", spec := "fnExactGoodAges", unfollowed := true, recurses := true, apart := false, narrowed := true }
def FnExactGoodAgesUptoSaid : Prop := fnExactGoodAgesUptoRow.holds Try.pinned (OpenSpec.upto fnExactGoodAgesSpec)

/-- 'laws.FnExactStepAges', WHERE WHAT IT READS IS OF BULK AT MOST 1048576: true; the input reads as it did. -/
def fnExactStepAgesUptoRow : OpenClaim := { program := "ytbmfkgfmibpkjaa", sum := "b01384294a53daf4d259e8ef41a240812b5744a3a1da23a2d0b4cc0fe824f892", func := "loop.example/g00627/laws.FnExactStepAges", spec := "fnExactStepAges", inPlace := ["slices.overlaps[int]"], unfollowed := true, recurses := true, apart := false, narrowed := true }
def FnExactStepAgesUptoSaid : Prop := fnExactStepAgesUptoRow.holds Try.pinned (OpenSpec.upto fnExactStepAgesSpec)

/-- 'laws.FnExactPlayAges', WHERE WHAT IT READS IS OF BULK AT MOST 1048576: true; the input reads as it did. -/
def fnExactPlayAgesUptoRow : OpenClaim := { program := "ytbmfkgfmibpkjaa", sum := "b01384294a53daf4d259e8ef41a240812b5744a3a1da23a2d0b4cc0fe824f892", func := "loop.example/g00627/laws.FnExactPlayAges", spec := "fnExactPlayAges", inPlace := ["slices.overlaps[int]"], unfollowed := true, recurses := true, apart := false, narrowed := true }
def FnExactPlayAgesUptoSaid : Prop := fnExactPlayAgesUptoRow.holds Try.pinned (OpenSpec.upto fnExactPlayAgesSpec)

/-- 'laws.FnExactOldNaming', WHERE WHAT IT READS IS OF BULK AT MOST 1048576: true; the input reads as it did. -/
def fnExactOldNamingUptoRow : OpenClaim := { program := "ytbmfkgfmibpkjaa", sum := "b01384294a53daf4d259e8ef41a240812b5744a3a1da23a2d0b4cc0fe824f892", func := "loop.example/g00627/laws.FnExactOldNaming", spec := "fnExactOldNaming", unfollowed := true, recurses := true, apart := false, narrowed := true }
def FnExactOldNamingUptoSaid : Prop := fnExactOldNamingUptoRow.holds Try.pinned (OpenSpec.upto fnExactOldNamingSpec)

/-- 'laws.FnExactYoungIn', WHERE WHAT IT READS IS OF BULK AT MOST 1048576: true; the input reads as it did. -/
def fnExactYoungInUptoRow : OpenClaim := { program := "ytbmfkgfmibpkjaa", sum := "b01384294a53daf4d259e8ef41a240812b5744a3a1da23a2d0b4cc0fe824f892", func := "loop.example/g00627/laws.FnExactYoungIn", spec := "fnExactYoungIn", unfollowed := true, recurses := true, apart := false, narrowed := true }
def FnExactYoungInUptoSaid : Prop := fnExactYoungInUptoRow.holds Try.pinned (OpenSpec.upto fnExactYoungInSpec)

/-- 'laws.FnExactMinorKeeps', WHERE WHAT IT READS IS OF BULK AT MOST 1048576: true; the input reads as it did. -/
def fnExactMinorKeepsUptoRow : OpenClaim := { program := "ytbmfkgfmibpkjaa", sum := "b01384294a53daf4d259e8ef41a240812b5744a3a1da23a2d0b4cc0fe824f892", func := "loop.example/g00627/laws.FnExactMinorKeeps", spec := "fnExactMinorKeeps", unfollowed := true, recurses := true, apart := false, narrowed := true }
def FnExactMinorKeepsUptoSaid : Prop := fnExactMinorKeepsUptoRow.holds Try.pinned (OpenSpec.upto fnExactMinorKeepsSpec)

/-- 'laws.FnMoves', WHERE WHAT IT READS IS OF BULK AT MOST 1048576: true; the input reads as it did. -/
def fnMovesUptoRow : OpenClaim := { program := "ytbmfkgfmibpkjaa", sum := "b01384294a53daf4d259e8ef41a240812b5744a3a1da23a2d0b4cc0fe824f892", func := "loop.example/g00627/laws.FnMoves", spec := "fnMoves", unfollowed := true, recurses := true, apart := false, narrowed := true }
def FnMovesUptoSaid : Prop := fnMovesUptoRow.holds Try.pinned (OpenSpec.upto fnMovesSpec)

/-- 'laws.FnLost', WHERE WHAT IT READS IS OF BULK AT MOST 1048576: true; the input reads as it did. -/
def fnLostUptoRow : OpenClaim := { program := "ytbmfkgfmibpkjaa", sum := "b01384294a53daf4d259e8ef41a240812b5744a3a1da23a2d0b4cc0fe824f892", func := "loop.example/g00627/laws.FnLost", spec := "fnLost", unfollowed := true, recurses := true, apart := false, narrowed := true }
def FnLostUptoSaid : Prop := fnLostUptoRow.holds Try.pinned (OpenSpec.upto fnLostSpec)

end Rows
end Go.Proofs.Ytbmfkgfmibpkjaa
