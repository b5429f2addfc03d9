/-
  No cell of these rows narrows 'for every input' (looked for: loops, veiled, ifaces, maps, wideKeys, modest, calm, conditions, laid).
  DERIVED. THE GIVEN ROWS OF THIS SEAT. 9 by the template 'for every input the law returns true; each argument reads behind the call as it read before'; 0 by the template 'total and deterministic' (their statements: YtkbphmnacdpdgaaTotals.lean).
  GIVEN WITH THE SEED: the statements are not yours to turn. If you find one false, say at which input.
  Laid BY PROGRAM, IN A SANDBOX (cutbox-rows.mjs): the forced cells as the released guide's own fill.sh prints them over the translation 8c9a7d1e840e4bd2… (all of the seat's roots in one cut). By AI agents, Wed Nov 11 2026. No macro, syntax, notation, axiom, sorry.
-/
import Derived.Test.YtkbphmnacdpdgaaChecked
import GoSem.Claim
import GoSem.ClaimJoined
import GoSem.ClaimMapViews
import Derived.JoinedTies
import Derived.KernelRfl
namespace Go.Proofs.Ytkbphmnacdpdgaa
/- THE CELL 'sum', in the pinned program and in every row, IS THE sha256 OF THE DUMP (.gsa) THAT YtkbphmnacdpdgaaProg.lean LOADS. Nothing in Lean hashes anything: it is a label: what it is worth is what the hold of that sum in a sandbox is worth. -/
noncomputable def Try.pinned : Pinned := { name := "ytkbphmnacdpdgaa", sum := "8c9a7d1e840e4bd20918e9416b7777d3353998f974346cb93b267bc308a17198", checked := Try.checked }
namespace Rows
def none {H : Type} : Left H := { results := [], args := [] }

/-- 'laws.FnWork': WHATEVER THE INPUT: true; the input reads as it did. -/
def fnWorkSpec : ChangeSpec := { name := "fnWork", fn := fun _ => fun
  | [d1, d2] => { results := [.lit (.bool true)], args := [d1, d2] }
  | _ => none }
def fnWorkRow : OpenClaim := { program := "ytkbphmnacdpdgaa", sum := "8c9a7d1e840e4bd20918e9416b7777d3353998f974346cb93b267bc308a17198", func := "loop.example/g00627/laws.FnWork", spec := "fnWork", recurses := true, apart := false }
def FnWorkSaid : Prop := fnWorkRow.holds Try.pinned (OpenSpec.ofChange fnWorkSpec)

/-- ITS FALSE NEIGHBOUR: 'it returns false'. Refute it at one input. -/
def fnWorkWrong : ChangeSpec := { name := "fnWork", fn := fun _ => fun
  | [d1, d2] => { results := [.lit (.bool false)], args := [d1, d2] }
  | _ => none }
def FnWorkWrongFalsely : Prop := fnWorkRow.holds Try.pinned (OpenSpec.ofChange fnWorkWrong)

/-- 'laws.FnStolen': WHATEVER THE INPUT: true; the input reads as it did. -/
def fnStolenSpec : ChangeSpec := { name := "fnStolen", fn := fun _ => fun
  | [d1, d2] => { results := [.lit (.bool true)], args := [d1, d2] }
  | _ => none }
def fnStolenRow : OpenClaim := { program := "ytkbphmnacdpdgaa", sum := "8c9a7d1e840e4bd20918e9416b7777d3353998f974346cb93b267bc308a17198", func := "loop.example/g00627/laws.FnStolen", spec := "fnStolen", unfollowed := true, recurses := true, apart := false }
def FnStolenSaid : Prop := fnStolenRow.holds Try.pinned (OpenSpec.ofChange fnStolenSpec)

/-- ITS FALSE NEIGHBOUR: 'it returns false'. Refute it at one input. -/
def fnStolenWrong : ChangeSpec := { name := "fnStolen", fn := fun _ => fun
  | [d1, d2] => { results := [.lit (.bool false)], args := [d1, d2] }
  | _ => none }
def FnStolenWrongFalsely : Prop := fnStolenRow.holds Try.pinned (OpenSpec.ofChange fnStolenWrong)

/-- 'laws.FnExactNewWork': WHATEVER THE INPUT: true; the input reads as it did. -/
def fnExactNewWorkSpec : ChangeSpec := { name := "fnExactNewWork", fn := fun _ => fun
  | [d] => { results := [.lit (.bool true)], args := [d] }
  | _ => none }
def fnExactNewWorkRow : OpenClaim := { program := "ytkbphmnacdpdgaa", sum := "8c9a7d1e840e4bd20918e9416b7777d3353998f974346cb93b267bc308a17198", func := "loop.example/g00627/laws.FnExactNewWork", spec := "fnExactNewWork", apart := false }
def FnExactNewWorkSaid : Prop := fnExactNewWorkRow.holds Try.pinned (OpenSpec.ofChange fnExactNewWorkSpec)

/-- ITS FALSE NEIGHBOUR: 'it returns false'. Refute it at one input. -/
def fnExactNewWorkWrong : ChangeSpec := { name := "fnExactNewWork", fn := fun _ => fun
  | [d] => { results := [.lit (.bool false)], args := [d] }
  | _ => none }
def FnExactNewWorkWrongFalsely : Prop := fnExactNewWorkRow.holds Try.pinned (OpenSpec.ofChange fnExactNewWorkWrong)

/-- 'laws.FnExactGoodWork': WHATEVER THE INPUT: true; the input reads as it did. -/
def fnExactGoodWorkSpec : ChangeSpec := { name := "fnExactGoodWork", fn := fun _ => fun
  | [d] => { results := [.lit (.bool true)], args := [d] }
  | _ => none }
def fnExactGoodWorkRow : OpenClaim := { program := "ytkbphmnacdpdgaa", sum := "8c9a7d1e840e4bd20918e9416b7777d3353998f974346cb93b267bc308a17198", func := "loop.example/g00627/laws.FnExactGoodWork", spec := "fnExactGoodWork", recurses := true, apart := false }
def FnExactGoodWorkSaid : Prop := fnExactGoodWorkRow.holds Try.pinned (OpenSpec.ofChange fnExactGoodWorkSpec)

/-- ITS FALSE NEIGHBOUR: 'it returns false'. Refute it at one input. -/
def fnExactGoodWorkWrong : ChangeSpec := { name := "fnExactGoodWork", fn := fun _ => fun
  | [d] => { results := [.lit (.bool false)], args := [d] }
  | _ => none }
def FnExactGoodWorkWrongFalsely : Prop := fnExactGoodWorkRow.holds Try.pinned (OpenSpec.ofChange fnExactGoodWorkWrong)

/-- 'laws.FnExactStepWork': WHATEVER THE INPUT: true; the input reads as it did. -/
def fnExactStepWorkSpec : ChangeSpec := { name := "fnExactStepWork", fn := fun _ => fun
  | [d1, d2] => { results := [.lit (.bool true)], args := [d1, d2] }
  | _ => none }
def fnExactStepWorkRow : OpenClaim := { program := "ytkbphmnacdpdgaa", sum := "8c9a7d1e840e4bd20918e9416b7777d3353998f974346cb93b267bc308a17198", func := "loop.example/g00627/laws.FnExactStepWork", spec := "fnExactStepWork", recurses := true, apart := false }
def FnExactStepWorkSaid : Prop := fnExactStepWorkRow.holds Try.pinned (OpenSpec.ofChange fnExactStepWorkSpec)

/-- ITS FALSE NEIGHBOUR: 'it returns false'. Refute it at one input. -/
def fnExactStepWorkWrong : ChangeSpec := { name := "fnExactStepWork", fn := fun _ => fun
  | [d1, d2] => { results := [.lit (.bool false)], args := [d1, d2] }
  | _ => none }
def FnExactStepWorkWrongFalsely : Prop := fnExactStepWorkRow.holds Try.pinned (OpenSpec.ofChange fnExactStepWorkWrong)

/-- 'laws.FnExactPlayWork': WHATEVER THE INPUT: true; the input reads as it did. -/
def fnExactPlayWorkSpec : ChangeSpec := { name := "fnExactPlayWork", fn := fun _ => fun
  | [d] => { results := [.lit (.bool true)], args := [d] }
  | _ => none }
def fnExactPlayWorkRow : OpenClaim := { program := "ytkbphmnacdpdgaa", sum := "8c9a7d1e840e4bd20918e9416b7777d3353998f974346cb93b267bc308a17198", func := "loop.example/g00627/laws.FnExactPlayWork", spec := "fnExactPlayWork", apart := false }
def FnExactPlayWorkSaid : Prop := fnExactPlayWorkRow.holds Try.pinned (OpenSpec.ofChange fnExactPlayWorkSpec)

/-- ITS FALSE NEIGHBOUR: 'it returns false'. Refute it at one input. -/
def fnExactPlayWorkWrong : ChangeSpec := { name := "fnExactPlayWork", fn := fun _ => fun
  | [d] => { results := [.lit (.bool false)], args := [d] }
  | _ => none }
def FnExactPlayWorkWrongFalsely : Prop := fnExactPlayWorkRow.holds Try.pinned (OpenSpec.ofChange fnExactPlayWorkWrong)

/-- 'laws.FnExactLeftIn': WHATEVER THE INPUT: true; the input reads as it did. -/
def fnExactLeftInSpec : ChangeSpec := { name := "fnExactLeftIn", fn := fun _ => fun
  | [d] => { results := [.lit (.bool true)], args := [d] }
  | _ => none }
def fnExactLeftInRow : OpenClaim := { program := "ytkbphmnacdpdgaa", sum := "8c9a7d1e840e4bd20918e9416b7777d3353998f974346cb93b267bc308a17198", func := "loop.example/g00627/laws.FnExactLeftIn", spec := "fnExactLeftIn", recurses := true, apart := false }
def FnExactLeftInSaid : Prop := fnExactLeftInRow.holds Try.pinned (OpenSpec.ofChange fnExactLeftInSpec)

/-- ITS FALSE NEIGHBOUR: 'it returns false'. Refute it at one input. -/
def fnExactLeftInWrong : ChangeSpec := { name := "fnExactLeftIn", fn := fun _ => fun
  | [d] => { results := [.lit (.bool false)], args := [d] }
  | _ => none }
def FnExactLeftInWrongFalsely : Prop := fnExactLeftInRow.holds Try.pinned (OpenSpec.ofChange fnExactLeftInWrong)

/-- 'laws.FnExactFinishWork': WHATEVER THE INPUT: true; the input reads as it did. -/
def fnExactFinishWorkSpec : ChangeSpec := { name := "fnExactFinishWork", fn := fun _ => fun
  | [d] => { results := [.lit (.bool true)], args := [d] }
  | _ => none }
def fnExactFinishWorkRow : OpenClaim := { program := "ytkbphmnacdpdgaa", sum := "8c9a7d1e840e4bd20918e9416b7777d3353998f974346cb93b267bc308a17198", func := "loop.example/g00627/laws.FnExactFinishWork", spec := "fnExactFinishWork", recurses := true, apart := false }
def FnExactFinishWorkSaid : Prop := fnExactFinishWorkRow.holds Try.pinned (OpenSpec.ofChange fnExactFinishWorkSpec)

/-- ITS FALSE NEIGHBOUR: 'it returns false'. Refute it at one input. -/
def fnExactFinishWorkWrong : ChangeSpec := { name := "fnExactFinishWork", fn := fun _ => fun
  | [d] => { results := [.lit (.bool false)], args := [d] }
  | _ => none }
def FnExactFinishWorkWrongFalsely : Prop := fnExactFinishWorkRow.holds Try.pinned (OpenSpec.ofChange fnExactFinishWorkWrong)

/-- 'laws.FnExactShareWork': WHATEVER THE INPUT: true; the input reads as it did. -/
def fnExactShareWorkSpec : ChangeSpec := { name := "fnExactShareWork", fn := fun _ => fun
  | [d] => { results := [.lit (.bool true)], args := [d] }
  | _ => none }
def fnExactShareWorkRow : OpenClaim := { program := "ytkbphmnacdpdgaa", sum := "8c9a7d1e840e4bd20918e9416b7777d3353998f974346cb93b267bc308a17198", func := "loop.example/g00627/laws.FnExactShareWork", spec := "fnExactShareWork", unfollowed := true, recurses := true, apart := false }
def FnExactShareWorkSaid : Prop := fnExactShareWorkRow.holds Try.pinned (OpenSpec.ofChange fnExactShareWorkSpec)

/-- ITS FALSE NEIGHBOUR: 'it returns false'. Refute it at one input. -/
def fnExactShareWorkWrong : ChangeSpec := { name := "fnExactShareWork", fn := fun _ => fun
  | [d] => { results := [.lit (.bool false)], args := [d] }
  | _ => none }
def FnExactShareWorkWrongFalsely : Prop := fnExactShareWorkRow.holds Try.pinned (OpenSpec.ofChange fnExactShareWorkWrong)

/- THE SECOND FORM. 'bulk': how many values and letters a reading holds, each counted each time it is reached (what is shared counts as often as it is met; a slice's spare places count too). A statement '..UptoSaid' is the law's where the arguments, and the package variables that the reading takes, are together of bulk at most 1048576: NARROWER than '..Said'. Prove '..Said' where nothing that the law and all that it calls make is longer than what came in: it says more and counts as full. Else prove '..UptoSaid'. A law counts once. -/
mutual
def uptoBulk {H : Type} : DataW H → Nat
  | .lit (.string bytes) => bytes.length + 1
  | .lit _ => 1
  | .nil => 1
  | .ptr d => uptoBulk d + 1
  | .slice elems spare => uptoBulkAll elems + uptoBulkAll spare + 1
  | .agg parts => uptoBulkAll parts + 1
  | .iface _ d => uptoBulk d + 1
  | .map entries => uptoBulkEntries entries + 1
  | .held _ => 1
def uptoBulkAll {H : Type} : List (DataW H) → Nat
  | [] => 0
  | d :: r => uptoBulk d + uptoBulkAll r
def uptoBulkEntries {H : Type} : List (Lit × DataW H) → Nat
  | [] => 0
  | x :: r => uptoBulkEntry x + uptoBulkEntries r
def uptoBulkEntry {H : Type} : Lit × DataW H → Nat
  | (.string bytes, d) => bytes.length + uptoBulk d + 1
  | (_, d) => uptoBulk d + 1
 end
def uptoSmall : (H : Type) → List (DataW H) → Bool := fun _ ds => decide (uptoBulkAll ds ≤ 1048576)
def OpenSpec.upto (s : _root_.Go.ChangeSpec) : _root_.Go.OpenSpec := { _root_.Go.OpenSpec.ofChange s with cond := some uptoSmall }

/-- 'laws.FnWork', WHERE WHAT IT READS IS OF BULK AT MOST 1048576: true; the input reads as it did. -/
def fnWorkUptoRow : OpenClaim := { program := "ytkbphmnacdpdgaa", sum := "8c9a7d1e840e4bd20918e9416b7777d3353998f974346cb93b267bc308a17198", func := "loop.example/g00627/laws.FnWork", spec := "fnWork", recurses := true, apart := false, narrowed := true }
def FnWorkUptoSaid : Prop := fnWorkUptoRow.holds Try.pinned (OpenSpec.upto fnWorkSpec)

/-- 'laws.FnStolen', WHERE WHAT IT READS IS OF BULK AT MOST 1048576: true; the input reads as it did. -/
def fnStolenUptoRow : OpenClaim := { program := "ytkbphmnacdpdgaa", sum := "8c9a7d1e840e4bd20918e9416b7777d3353998f974346cb93b267bc308a17198", func := "loop.example/g00627/laws.FnStolen", spec := "fnStolen", unfollowed := true, recurses := true, apart := false, narrowed := true }
def FnStolenUptoSaid : Prop := fnStolenUptoRow.holds Try.pinned (OpenSpec.upto fnStolenSpec)

/-- 'laws.FnExactNewWork', WHERE WHAT IT READS IS OF BULK AT MOST 1048576: true; the input reads as it did. -/
def fnExactNewWorkUptoRow : OpenClaim := { program := "ytkbphmnacdpdgaa", sum := "8c9a7d1e840e4bd20918e9416b7777d3353998f974346cb93b267bc308a17198", func := "loop.example/g00627/laws.FnExactNewWork", spec := "fnExactNewWork", apart := false, narrowed := true }
def FnExactNewWorkUptoSaid : Prop := fnExactNewWorkUptoRow.holds Try.pinned (OpenSpec.upto fnExactNewWorkSpec)

/-- 'laws.FnExactGoodWork', WHERE WHAT IT READS IS OF BULK AT MOST 1048576: true; the input reads as it did. -/
def fnExactGoodWorkUptoRow : OpenClaim := { program := "ytkbphmnacdpdgaa", sum := "8c9a7d1e840e4bd20918e9416b7777d3353998f974346cb93b267bc308a17198", func := "loop.example/g00627/laws.FnExactGoodWork", spec := "fnExactGoodWork", recurses := true, apart := false, narrowed := true }
def FnExactGoodWorkUptoSaid : Prop := fnExactGoodWorkUptoRow.holds Try.pinned (OpenSpec.upto fnExactGoodWorkSpec)

/-- 'laws.FnExactStepWork', WHERE WHAT IT READS IS OF BULK AT MOST 1048576: true; the input reads as it did. -/
def fnExactStepWorkUptoRow : OpenClaim := { program := "ytkbphmnacdpdgaa", sum := "8c9a7d1e840e4bd20918e9416b7777d3353998f974346cb93b267bc308a17198", func := "loop.example/g00627/laws.FnExactStepWork", spec := "fnExactStepWork", recurses := true, apart := false, narrowed := true }
def FnExactStepWorkUptoSaid : Prop := fnExactStepWorkUptoRow.holds Try.pinned (OpenSpec.upto fnExactStepWorkSpec)

/-- 'laws.FnExactPlayWork', WHERE WHAT IT READS IS OF BULK AT MOST 1048576: true; the input reads as it did. -/
def fnExactPlayWorkUptoRow : OpenClaim := { program := "ytkbphmnacdpdgaa", sum := "8c9a7d1e840e4bd20918e9416b7777d3353998f974346cb93b267bc308a17198", func := "loop.example/g00627/laws.FnExactPlayWork", spec := "fnExactPlayWork", apart := false, narrowed := true }
def FnExactPlayWorkUptoSaid : Prop := fnExactPlayWorkUptoRow.holds Try.pinned (OpenSpec.upto fnExactPlayWorkSpec)

/-- 'laws.FnExactLeftIn', WHERE WHAT IT READS IS OF BULK AT MOST 1048576: true; the input reads as it did. -/
def fnExactLeftInUptoRow : OpenClaim := { program := "ytkbphmnacdpdgaa", sum := "8c9a7d1e840e4bd20918e9416b7777d3353998f974346cb93b267bc308a17198", func := "loop.example/g00627/laws.FnExactLeftIn", spec := "fnExactLeftIn", recurses := true, apart := false, narrowed := true }
def FnExactLeftInUptoSaid : Prop := fnExactLeftInUptoRow.holds Try.pinned (OpenSpec.upto fnExactLeftInSpec)

/-- 'laws.FnExactFinishWork', WHERE WHAT IT READS IS OF BULK AT MOST 1048576: true; the input reads as it did. -/
def fnExactFinishWorkUptoRow : OpenClaim := { program := "ytkbphmnacdpdgaa", sum := "8c9a7d1e840e4bd20918e9416b7777d3353998f974346cb93b267bc308a17198", func := "loop.example/g00627/laws.FnExactFinishWork", spec := "fnExactFinishWork", recurses := true, apart := false, narrowed := true }
def FnExactFinishWorkUptoSaid : Prop := fnExactFinishWorkUptoRow.holds Try.pinned (OpenSpec.upto fnExactFinishWorkSpec)

/-- 'laws.FnExactShareWork', WHERE WHAT IT READS IS OF BULK AT MOST 1048576: true; the input reads as it did. -/
def fnExactShareWorkUptoRow : OpenClaim := { program := "ytkbphmnacdpdgaa", sum := "8c9a7d1e840e4bd20918e9416b7777d3353998f974346cb93b267bc308a17198", func := "loop.example/g00627/laws.FnExactShareWork", spec := "fnExactShareWork", unfollowed := true, recurses := true, apart := false, narrowed := true }
def FnExactShareWorkUptoSaid : Prop := fnExactShareWorkUptoRow.holds Try.pinned (OpenSpec.upto fnExactShareWorkSpec)

end Rows
end Go.Proofs.Ytkbphmnacdpdgaa
