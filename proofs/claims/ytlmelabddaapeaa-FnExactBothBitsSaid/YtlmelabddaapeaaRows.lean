/-
  No cell of these rows narrows 'for every input' (looked for: loops, veiled, ifaces, maps, wideKeys, modest, calm, conditions, laid).
  DERIVED. THE GIVEN ROWS OF THIS SEAT. 7 by the template 'for every input the law returns true; each argument reads behind the call as it read before'; 0 by the template 'total and deterministic' (their statements: YtlmelabddaapeaaTotals.lean).
  GIVEN WITH THE SEED: the statements are not yours to turn. If you find one false, say at which input.
  Laid BY PROGRAM, IN A SANDBOX (cutbox-rows.mjs): the forced cells as the released guide's own fill.sh prints them over the translation cb4ea3ec225c19c5… (all of the seat's roots in one cut). By AI agents, Wed Nov 11 2026. No macro, syntax, notation, axiom, sorry.
-/
import Derived.Test.YtlmelabddaapeaaChecked
import GoSem.Claim
import GoSem.ClaimJoined
import GoSem.ClaimMapViews
import Derived.JoinedTies
import Derived.KernelRfl
namespace Go.Proofs.Ytlmelabddaapeaa
/- THE CELL 'sum', in the pinned program and in every row, IS THE sha256 OF THE DUMP (.gsa) THAT YtlmelabddaapeaaProg.lean LOADS. Nothing in Lean hashes anything: it is a label: what it is worth is what the hold of that sum in a sandbox is worth. -/
noncomputable def Try.pinned : Pinned := { name := "ytlmelabddaapeaa", sum := "cb4ea3ec225c19c54e340b1bf9aaa68ca6d11c92a3fe750fdebf46af3d99ce90", checked := Try.checked }
namespace Rows
def none {H : Type} : Left H := { results := [], args := [] }

/-- 'laws.FnExactNewBits': WHATEVER THE INPUT: true; the input reads as it did. -/
def fnExactNewBitsSpec : ChangeSpec := { name := "fnExactNewBits", fn := fun _ => fun
  | [d] => { results := [.lit (.bool true)], args := [d] }
  | _ => none }
def fnExactNewBitsRow : OpenClaim := { program := "ytlmelabddaapeaa", sum := "cb4ea3ec225c19c54e340b1bf9aaa68ca6d11c92a3fe750fdebf46af3d99ce90", func := "loop.example/g00627/laws.FnExactNewBits", spec := "fnExactNewBits", apart := false }
def FnExactNewBitsSaid : Prop := fnExactNewBitsRow.holds Try.pinned (OpenSpec.ofChange fnExactNewBitsSpec)

/-- ITS FALSE NEIGHBOUR: 'it returns false'. Refute it at one input. -/
def fnExactNewBitsWrong : ChangeSpec := { name := "fnExactNewBits", fn := fun _ => fun
  | [d] => { results := [.lit (.bool false)], args := [d] }
  | _ => none }
def FnExactNewBitsWrongFalsely : Prop := fnExactNewBitsRow.holds Try.pinned (OpenSpec.ofChange fnExactNewBitsWrong)

/-- 'laws.FnExactGoodBits': WHATEVER THE INPUT: true; the input reads as it did. -/
def fnExactGoodBitsSpec : ChangeSpec := { name := "fnExactGoodBits", fn := fun _ => fun
  | [d] => { results := [.lit (.bool true)], args := [d] }
  | _ => none }
def fnExactGoodBitsRow : OpenClaim := { program := "ytlmelabddaapeaa", sum := "cb4ea3ec225c19c54e340b1bf9aaa68ca6d11c92a3fe750fdebf46af3d99ce90", func := "loop.example/g00627/laws.FnExactGoodBits", spec := "fnExactGoodBits", apart := false }
def FnExactGoodBitsSaid : Prop := fnExactGoodBitsRow.holds Try.pinned (OpenSpec.ofChange fnExactGoodBitsSpec)

/-- ITS FALSE NEIGHBOUR: 'it returns false'. Refute it at one input. -/
def fnExactGoodBitsWrong : ChangeSpec := { name := "fnExactGoodBits", fn := fun _ => fun
  | [d] => { results := [.lit (.bool false)], args := [d] }
  | _ => none }
def FnExactGoodBitsWrongFalsely : Prop := fnExactGoodBitsRow.holds Try.pinned (OpenSpec.ofChange fnExactGoodBitsWrong)

/-- 'laws.FnExactSetRun': WHATEVER THE INPUT: true; the input reads as it did. -/
def fnExactSetRunSpec : ChangeSpec := { name := "fnExactSetRun", fn := fun _ => fun
  | [d1, d2, d3, d4] => { results := [.lit (.bool true)], args := [d1, d2, d3, d4] }
  | _ => none }
def fnExactSetRunRow : OpenClaim := { program := "ytlmelabddaapeaa", sum := "cb4ea3ec225c19c54e340b1bf9aaa68ca6d11c92a3fe750fdebf46af3d99ce90", func := "loop.example/g00627/laws.FnExactSetRun", spec := "fnExactSetRun", apart := false }
def FnExactSetRunSaid : Prop := fnExactSetRunRow.holds Try.pinned (OpenSpec.ofChange fnExactSetRunSpec)

/-- ITS FALSE NEIGHBOUR: 'it returns false'. Refute it at one input. -/
def fnExactSetRunWrong : ChangeSpec := { name := "fnExactSetRun", fn := fun _ => fun
  | [d1, d2, d3, d4] => { results := [.lit (.bool false)], args := [d1, d2, d3, d4] }
  | _ => none }
def FnExactSetRunWrongFalsely : Prop := fnExactSetRunRow.holds Try.pinned (OpenSpec.ofChange fnExactSetRunWrong)

/-- 'laws.FnExactIsSet': WHATEVER THE INPUT: true; the input reads as it did. -/
def fnExactIsSetSpec : ChangeSpec := { name := "fnExactIsSet", fn := fun _ => fun
  | [d1, d2] => { results := [.lit (.bool true)], args := [d1, d2] }
  | _ => none }
def fnExactIsSetRow : OpenClaim := { program := "ytlmelabddaapeaa", sum := "cb4ea3ec225c19c54e340b1bf9aaa68ca6d11c92a3fe750fdebf46af3d99ce90", func := "loop.example/g00627/laws.FnExactIsSet", spec := "fnExactIsSet", apart := false }
def FnExactIsSetSaid : Prop := fnExactIsSetRow.holds Try.pinned (OpenSpec.ofChange fnExactIsSetSpec)

/-- ITS FALSE NEIGHBOUR: 'it returns false'. Refute it at one input. -/
def fnExactIsSetWrong : ChangeSpec := { name := "fnExactIsSet", fn := fun _ => fun
  | [d1, d2] => { results := [.lit (.bool false)], args := [d1, d2] }
  | _ => none }
def FnExactIsSetWrongFalsely : Prop := fnExactIsSetRow.holds Try.pinned (OpenSpec.ofChange fnExactIsSetWrong)

/-- 'laws.FnExactCountSet': WHATEVER THE INPUT: true; the input reads as it did. -/
def fnExactCountSetSpec : ChangeSpec := { name := "fnExactCountSet", fn := fun _ => fun
  | [d1, d2, d3] => { results := [.lit (.bool true)], args := [d1, d2, d3] }
  | _ => none }
def fnExactCountSetRow : OpenClaim := { program := "ytlmelabddaapeaa", sum := "cb4ea3ec225c19c54e340b1bf9aaa68ca6d11c92a3fe750fdebf46af3d99ce90", func := "loop.example/g00627/laws.FnExactCountSet", spec := "fnExactCountSet", apart := false }
def FnExactCountSetSaid : Prop := fnExactCountSetRow.holds Try.pinned (OpenSpec.ofChange fnExactCountSetSpec)

/-- ITS FALSE NEIGHBOUR: 'it returns false'. Refute it at one input. -/
def fnExactCountSetWrong : ChangeSpec := { name := "fnExactCountSet", fn := fun _ => fun
  | [d1, d2, d3] => { results := [.lit (.bool false)], args := [d1, d2, d3] }
  | _ => none }
def FnExactCountSetWrongFalsely : Prop := fnExactCountSetRow.holds Try.pinned (OpenSpec.ofChange fnExactCountSetWrong)

/-- 'laws.FnExactBothBits': WHATEVER THE INPUT: true; the input reads as it did. -/
def fnExactBothBitsSpec : ChangeSpec := { name := "fnExactBothBits", fn := fun _ => fun
  | [d1, d2] => { results := [.lit (.bool true)], args := [d1, d2] }
  | _ => none }
def fnExactBothBitsRow : OpenClaim := { program := "ytlmelabddaapeaa", sum := "cb4ea3ec225c19c54e340b1bf9aaa68ca6d11c92a3fe750fdebf46af3d99ce90", func := "loop.example/g00627/laws.FnExactBothBits", spec := "fnExactBothBits", apart := false }
def FnExactBothBitsSaid : Prop := fnExactBothBitsRow.holds Try.pinned (OpenSpec.ofChange fnExactBothBitsSpec)

/-- ITS FALSE NEIGHBOUR: 'it returns false'. Refute it at one input. -/
def fnExactBothBitsWrong : ChangeSpec := { name := "fnExactBothBits", fn := fun _ => fun
  | [d1, d2] => { results := [.lit (.bool false)], args := [d1, d2] }
  | _ => none }
def FnExactBothBitsWrongFalsely : Prop := fnExactBothBitsRow.holds Try.pinned (OpenSpec.ofChange fnExactBothBitsWrong)

/-- 'laws.FnExactWithoutBits': WHATEVER THE INPUT: true; the input reads as it did. -/
def fnExactWithoutBitsSpec : ChangeSpec := { name := "fnExactWithoutBits", fn := fun _ => fun
  | [d1, d2] => { results := [.lit (.bool true)], args := [d1, d2] }
  | _ => none }
def fnExactWithoutBitsRow : OpenClaim := { program := "ytlmelabddaapeaa", sum := "cb4ea3ec225c19c54e340b1bf9aaa68ca6d11c92a3fe750fdebf46af3d99ce90", func := "loop.example/g00627/laws.FnExactWithoutBits", spec := "fnExactWithoutBits", apart := false }
def FnExactWithoutBitsSaid : Prop := fnExactWithoutBitsRow.holds Try.pinned (OpenSpec.ofChange fnExactWithoutBitsSpec)

/-- ITS FALSE NEIGHBOUR: 'it returns false'. Refute it at one input. -/
def fnExactWithoutBitsWrong : ChangeSpec := { name := "fnExactWithoutBits", fn := fun _ => fun
  | [d1, d2] => { results := [.lit (.bool false)], args := [d1, d2] }
  | _ => none }
def FnExactWithoutBitsWrongFalsely : Prop := fnExactWithoutBitsRow.holds Try.pinned (OpenSpec.ofChange fnExactWithoutBitsWrong)

/- THE SECOND FORM. 'bulk': how many values and letters a reading holds, each counted each time it is reached (what is shared counts as often as it is met; a slice's spare places count too). A statement '..UptoSaid' is the law's where the arguments, and the package variables that the reading takes, are together of bulk at most 1048576: NARROWER than '..Said'. Prove '..Said' where nothing that the law and all that it calls make is longer than what came in: it says more and counts as full. Else prove '..UptoSaid'. A law counts once. -/
mutual
def uptoBulk {H : Type} : DataW H → Nat
  | .lit (.string bytes) => bytes.length + 1
  | .lit _ => 1
  | .nil => 1
  | .ptr d => uptoBulk d + 1
  | .slice elems spare => uptoBulkAll elems + uptoBulkAll spare + 1
  | .agg parts => uptoBulkAll parts + 1
  | .iface _ d => uptoBulk d + 1
  | .map entries => uptoBulkEntries entries + 1
  | .held _ => 1
def uptoBulkAll {H : Type} : List (DataW H) → Nat
  | [] => 0
  | d :: r => uptoBulk d + uptoBulkAll r
def uptoBulkEntries {H : Type} : List (Lit × DataW H) → Nat
  | [] => 0
  | x :: r => uptoBulkEntry x + uptoBulkEntries r
def uptoBulkEntry {H : Type} : Lit × DataW H → Nat
  | (.string bytes, d) => bytes.length + uptoBulk d + 1
  | (_, d) => uptoBulk d + 1
 end
def uptoSmall : (H : Type) → List (DataW H) → Bool := fun _ ds => decide (uptoBulkAll ds ≤ 1048576)
def OpenSpec.upto (s : _root_.Go.ChangeSpec) : _root_.Go.OpenSpec := { _root_.Go.OpenSpec.ofChange s with cond := some uptoSmall }

/-- 'laws.FnExactNewBits', WHERE WHAT IT READS IS OF BULK AT MOST 1048576: true; the input reads as it did. -/
def fnExactNewBitsUptoRow : OpenClaim := { program := "ytlmelabddaapeaa", sum := "cb4ea3ec225c19c54e340b1bf9aaa68ca6d11c92a3fe750fdebf46af3d99ce90", func := "loop.example/g00627/laws.FnExactNewBits", spec := "fnExactNewBits", apart := false, narrowed := true }
def FnExactNewBitsUptoSaid : Prop := fnExactNewBitsUptoRow.holds Try.pinned (OpenSpec.upto fnExactNewBitsSpec)

/-- 'laws.FnExactGoodBits', WHERE WHAT IT READS IS OF BULK AT MOST 1048576: true; the input reads as it did. -/
def fnExactGoodBitsUptoRow : OpenClaim := { program := "ytlmelabddaapeaa", sum := "cb4ea3ec225c19c54e340b1bf9aaa68ca6d11c92a3fe750fdebf46af3d99ce90", func := "loop.example/g00627/laws.FnExactGoodBits", spec := "fnExactGoodBits", apart := false, narrowed := true }
def FnExactGoodBitsUptoSaid : Prop := fnExactGoodBitsUptoRow.holds Try.pinned (OpenSpec.upto fnExactGoodBitsSpec)

/-- 'laws.FnExactSetRun', WHERE WHAT IT READS IS OF BULK AT MOST 1048576: true; the input reads as it did. -/
def fnExactSetRunUptoRow : OpenClaim := { program := "ytlmelabddaapeaa", sum := "cb4ea3ec225c19c54e340b1bf9aaa68ca6d11c92a3fe750fdebf46af3d99ce90", func := "loop.example/g00627/laws.FnExactSetRun", spec := "fnExactSetRun", apart := false, narrowed := true }
def FnExactSetRunUptoSaid : Prop := fnExactSetRunUptoRow.holds Try.pinned (OpenSpec.upto fnExactSetRunSpec)

/-- 'laws.FnExactIsSet', WHERE WHAT IT READS IS OF BULK AT MOST 1048576: true; the input reads as it did. -/
def fnExactIsSetUptoRow : OpenClaim := { program := "ytlmelabddaapeaa", sum := "cb4ea3ec225c19c54e340b1bf9aaa68ca6d11c92a3fe750fdebf46af3d99ce90", func := "loop.example/g00627/laws.FnExactIsSet", spec := "fnExactIsSet", apart := false, narrowed := true }
def FnExactIsSetUptoSaid : Prop := fnExactIsSetUptoRow.holds Try.pinned (OpenSpec.upto fnExactIsSetSpec)

/-- 'laws.FnExactCountSet', WHERE WHAT IT READS IS OF BULK AT MOST 1048576: true; the input reads as it did. -/
def fnExactCountSetUptoRow : OpenClaim := { program := "ytlmelabddaapeaa", sum := "cb4ea3ec225c19c54e340b1bf9aaa68ca6d11c92a3fe750fdebf46af3d99ce90", func := "loop.example/g00627/laws.FnExactCountSet", spec := "fnExactCountSet", apart := false, narrowed := true }
def FnExactCountSetUptoSaid : Prop := fnExactCountSetUptoRow.holds Try.pinned (OpenSpec.upto fnExactCountSetSpec)

/-- 'laws.FnExactBothBits', WHERE WHAT IT READS IS OF BULK AT MOST 1048576: true; the input reads as it did. -/
def fnExactBothBitsUptoRow : OpenClaim := { program := "ytlmelabddaapeaa", sum := "cb4ea3ec225c19c54e340b1bf9aaa68ca6d11c92a3fe750fdebf46af3d99ce90", func := "loop.example/g00627/laws.FnExactBothBits", spec := "fnExactBothBits", apart := false, narrowed := true }
def FnExactBothBitsUptoSaid : Prop := fnExactBothBitsUptoRow.holds Try.pinned (OpenSpec.upto fnExactBothBitsSpec)

/-- 'laws.FnExactWithoutBits', WHERE WHAT IT READS IS OF BULK AT MOST 1048576: true; the input reads as it did. -/
def fnExactWithoutBitsUptoRow : OpenClaim := { program := "ytlmelabddaapeaa", sum := "cb4ea3ec225c19c54e340b1bf9aaa68ca6d11c92a3fe750fdebf46af3d99ce90", func := "loop.example/g00627/laws.FnExactWithoutBits", spec := "fnExactWithoutBits", apart := false, narrowed := true }
def FnExactWithoutBitsUptoSaid : Prop := fnExactWithoutBitsUptoRow.holds Try.pinned (OpenSpec.upto fnExactWithoutBitsSpec)

end Rows
end Go.Proofs.Ytlmelabddaapeaa
