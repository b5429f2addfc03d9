/-
  NARROWER THAN 'FOR EVERY INPUT', by the rows' own cells (each row's printed sentence says how): FnSizes: laid · FnSlots: laid · FnExactClassesOf: laid · FnExactClassFor: laid · FnExactWasteOf: laid · FnExactSlotsIn: laid · FnExactPagesFor: laid · FnExactTailOf: laid · FnExactSumWaste: laid.
  DERIVED. THE GIVEN ROWS OF THIS SEAT. 9 by the template 'for every input the law returns true; each argument reads behind the call as it read before'; 0 by the template 'total and deterministic' (their statements: YtlaembbgjgpmbaaDoorTotals.lean).
  GIVEN WITH THE SEED: the statements are not yours to turn. If you find one false, say at which input.
  Laid BY PROGRAM, IN A SANDBOX (cutbox-rows.mjs): the forced cells as the released guide's own fill.sh prints them over the translation ffdc63e960372972… (all of the seat's roots in one cut). By AI agents, Wed Nov 11 2026. No macro, syntax, notation, axiom, sorry.
-/
import Derived.Test.YtlaembbgjgpmbaaDoorChecked
import GoSem.Claim
import GoSem.ClaimJoined
import GoSem.ClaimMapViews
import Derived.JoinedTies
import Derived.KernelRfl
namespace Go.Proofs.YtlaembbgjgpmbaaDoor
/- THE CELL 'sum', in the pinned program and in every row, IS THE sha256 OF THE DUMP (.gsa) THAT YtlaembbgjgpmbaaDoorProg.lean LOADS. Nothing in Lean hashes anything: it is a label: what it is worth is what the hold of that sum in a sandbox is worth. -/
noncomputable def Tryd.pinned : Pinned := { name := "ytlaembbgjgpmbaadoor", sum := "ffdc63e960372972944a8ed1bd877fa4ec1aba747161a8f59df4d34c638d34e1", checked := Tryd.checked }
namespace Rows
def none {H : Type} : Left H := { results := [], args := [] }

/- WHAT THE LISTED PACKAGE-LEVEL VARIABLES READ AS WHEN THE CALL BEGINS. Each datum BY PROGRAM (the guide's laid-datum.mjs) off the statement by which the dump's own 'gosem.cut.vars' lays the variable. In a bare row this is a premise. The card (YtlaembbgjgpmbaaDoorCards.lean) ties it to the program's text. -/
def laid_loop_example_g00627_impl_classSizes {H : Type} : DataW H := .agg [.lit (.int .i64 1), .lit (.int .i64 2), .lit (.int .i64 3), .lit (.int .i64 4), .lit (.int .i64 5), .lit (.int .i64 6), .lit (.int .i64 7), .lit (.int .i64 8), .lit (.int .i64 9), .lit (.int .i64 10), .lit (.int .i64 11), .lit (.int .i64 12), .lit (.int .i64 13), .lit (.int .i64 14), .lit (.int .i64 15), .lit (.int .i64 16), .lit (.int .i64 18), .lit (.int .i64 20), .lit (.int .i64 22), .lit (.int .i64 24), .lit (.int .i64 27), .lit (.int .i64 30), .lit (.int .i64 33), .lit (.int .i64 37), .lit (.int .i64 41), .lit (.int .i64 46), .lit (.int .i64 51), .lit (.int .i64 57), .lit (.int .i64 64), .lit (.int .i64 72), .lit (.int .i64 81), .lit (.int .i64 91), .lit (.int .i64 102), .lit (.int .i64 114), .lit (.int .i64 128), .lit (.int .i64 144), .lit (.int .i64 162), .lit (.int .i64 182), .lit (.int .i64 204), .lit (.int .i64 229), .lit (.int .i64 256)]

/-- 'laws.FnSizes': WHATEVER THE INPUT: true; the input reads as it did. -/
def fnSizesSpec : ChangeSpec := { name := "fnSizes", vars := ["loop.example/g00627/impl.classSizes"], fn := fun _ => fun
  | [d1, d2, g1] => { results := [.lit (.bool true)], args := [d1, d2], vars := [g1] }
  | _ => none }
def fnSizesRow : OpenClaim := { program := "ytlaembbgjgpmbaadoor", sum := "ffdc63e960372972944a8ed1bd877fa4ec1aba747161a8f59df4d34c638d34e1", func := "loop.example/g00627/laws.FnSizes", spec := "fnSizes", named := ["loop.example/g00627/impl.classSizes"], apart := false, laid := [("loop.example/g00627/impl.classSizes", laid_loop_example_g00627_impl_classSizes)] }
def FnSizesSaid : Prop := fnSizesRow.holds Tryd.pinned (OpenSpec.ofChange fnSizesSpec)

/-- ITS FALSE NEIGHBOUR: 'it returns false'. Refute it at one input. -/
def fnSizesWrong : ChangeSpec := { name := "fnSizes", vars := ["loop.example/g00627/impl.classSizes"], fn := fun _ => fun
  | [d1, d2, g1] => { results := [.lit (.bool false)], args := [d1, d2], vars := [g1] }
  | _ => none }
def FnSizesWrongFalsely : Prop := fnSizesRow.holds Tryd.pinned (OpenSpec.ofChange fnSizesWrong)

/-- 'laws.FnSlots': WHATEVER THE INPUT: true; the input reads as it did. -/
def fnSlotsSpec : ChangeSpec := { name := "fnSlots", vars := ["loop.example/g00627/impl.classSizes"], fn := fun _ => fun
  | [d1, d2, g1] => { results := [.lit (.bool true)], args := [d1, d2], vars := [g1] }
  | _ => none }
def fnSlotsRow : OpenClaim := { program := "ytlaembbgjgpmbaadoor", sum := "ffdc63e960372972944a8ed1bd877fa4ec1aba747161a8f59df4d34c638d34e1", func := "loop.example/g00627/laws.FnSlots", spec := "fnSlots", named := ["loop.example/g00627/impl.classSizes"], apart := false, laid := [("loop.example/g00627/impl.classSizes", laid_loop_example_g00627_impl_classSizes)] }
def FnSlotsSaid : Prop := fnSlotsRow.holds Tryd.pinned (OpenSpec.ofChange fnSlotsSpec)

/-- ITS FALSE NEIGHBOUR: 'it returns false'. Refute it at one input. -/
def fnSlotsWrong : ChangeSpec := { name := "fnSlots", vars := ["loop.example/g00627/impl.classSizes"], fn := fun _ => fun
  | [d1, d2, g1] => { results := [.lit (.bool false)], args := [d1, d2], vars := [g1] }
  | _ => none }
def FnSlotsWrongFalsely : Prop := fnSlotsRow.holds Tryd.pinned (OpenSpec.ofChange fnSlotsWrong)

/-- 'laws.FnExactClassesOf': WHATEVER THE INPUT: true; the input reads as it did. -/
def fnExactClassesOfSpec : ChangeSpec := { name := "fnExactClassesOf", vars := ["loop.example/g00627/impl.classSizes"], fn := fun _ => fun
  | [g1] => { results := [.lit (.bool true)], args := [], vars := [g1] }
  | _ => none }
def fnExactClassesOfRow : OpenClaim := { program := "ytlaembbgjgpmbaadoor", sum := "ffdc63e960372972944a8ed1bd877fa4ec1aba747161a8f59df4d34c638d34e1", func := "loop.example/g00627/laws.FnExactClassesOf", spec := "fnExactClassesOf", named := ["loop.example/g00627/impl.classSizes"], apart := false, laid := [("loop.example/g00627/impl.classSizes", laid_loop_example_g00627_impl_classSizes)] }
def FnExactClassesOfSaid : Prop := fnExactClassesOfRow.holds Tryd.pinned (OpenSpec.ofChange fnExactClassesOfSpec)

/-- ITS FALSE NEIGHBOUR: 'it returns false'. Refute it at one input. -/
def fnExactClassesOfWrong : ChangeSpec := { name := "fnExactClassesOf", vars := ["loop.example/g00627/impl.classSizes"], fn := fun _ => fun
  | [g1] => { results := [.lit (.bool false)], args := [], vars := [g1] }
  | _ => none }
def FnExactClassesOfWrongFalsely : Prop := fnExactClassesOfRow.holds Tryd.pinned (OpenSpec.ofChange fnExactClassesOfWrong)

/-- 'laws.FnExactClassFor': WHATEVER THE INPUT: true; the input reads as it did. -/
def fnExactClassForSpec : ChangeSpec := { name := "fnExactClassFor", vars := ["loop.example/g00627/impl.classSizes"], fn := fun _ => fun
  | [d, g1] => { results := [.lit (.bool true)], args := [d], vars := [g1] }
  | _ => none }
def fnExactClassForRow : OpenClaim := { program := "ytlaembbgjgpmbaadoor", sum := "ffdc63e960372972944a8ed1bd877fa4ec1aba747161a8f59df4d34c638d34e1", func := "loop.example/g00627/laws.FnExactClassFor", spec := "fnExactClassFor", named := ["loop.example/g00627/impl.classSizes"], apart := false, laid := [("loop.example/g00627/impl.classSizes", laid_loop_example_g00627_impl_classSizes)] }
def FnExactClassForSaid : Prop := fnExactClassForRow.holds Tryd.pinned (OpenSpec.ofChange fnExactClassForSpec)

/-- ITS FALSE NEIGHBOUR: 'it returns false'. Refute it at one input. -/
def fnExactClassForWrong : ChangeSpec := { name := "fnExactClassFor", vars := ["loop.example/g00627/impl.classSizes"], fn := fun _ => fun
  | [d, g1] => { results := [.lit (.bool false)], args := [d], vars := [g1] }
  | _ => none }
def FnExactClassForWrongFalsely : Prop := fnExactClassForRow.holds Tryd.pinned (OpenSpec.ofChange fnExactClassForWrong)

/-- 'laws.FnExactWasteOf': WHATEVER THE INPUT: true; the input reads as it did. -/
def fnExactWasteOfSpec : ChangeSpec := { name := "fnExactWasteOf", vars := ["loop.example/g00627/impl.classSizes"], fn := fun _ => fun
  | [d, g1] => { results := [.lit (.bool true)], args := [d], vars := [g1] }
  | _ => none }
def fnExactWasteOfRow : OpenClaim := { program := "ytlaembbgjgpmbaadoor", sum := "ffdc63e960372972944a8ed1bd877fa4ec1aba747161a8f59df4d34c638d34e1", func := "loop.example/g00627/laws.FnExactWasteOf", spec := "fnExactWasteOf", named := ["loop.example/g00627/impl.classSizes"], apart := false, laid := [("loop.example/g00627/impl.classSizes", laid_loop_example_g00627_impl_classSizes)] }
def FnExactWasteOfSaid : Prop := fnExactWasteOfRow.holds Tryd.pinned (OpenSpec.ofChange fnExactWasteOfSpec)

/-- ITS FALSE NEIGHBOUR: 'it returns false'. Refute it at one input. -/
def fnExactWasteOfWrong : ChangeSpec := { name := "fnExactWasteOf", vars := ["loop.example/g00627/impl.classSizes"], fn := fun _ => fun
  | [d, g1] => { results := [.lit (.bool false)], args := [d], vars := [g1] }
  | _ => none }
def FnExactWasteOfWrongFalsely : Prop := fnExactWasteOfRow.holds Tryd.pinned (OpenSpec.ofChange fnExactWasteOfWrong)

/-- 'laws.FnExactSlotsIn': WHATEVER THE INPUT: true; the input reads as it did. -/
def fnExactSlotsInSpec : ChangeSpec := { name := "fnExactSlotsIn", vars := ["loop.example/g00627/impl.classSizes"], fn := fun _ => fun
  | [d, g1] => { results := [.lit (.bool true)], args := [d], vars := [g1] }
  | _ => none }
def fnExactSlotsInRow : OpenClaim := { program := "ytlaembbgjgpmbaadoor", sum := "ffdc63e960372972944a8ed1bd877fa4ec1aba747161a8f59df4d34c638d34e1", func := "loop.example/g00627/laws.FnExactSlotsIn", spec := "fnExactSlotsIn", named := ["loop.example/g00627/impl.classSizes"], apart := false, laid := [("loop.example/g00627/impl.classSizes", laid_loop_example_g00627_impl_classSizes)] }
def FnExactSlotsInSaid : Prop := fnExactSlotsInRow.holds Tryd.pinned (OpenSpec.ofChange fnExactSlotsInSpec)

/-- ITS FALSE NEIGHBOUR: 'it returns false'. Refute it at one input. -/
def fnExactSlotsInWrong : ChangeSpec := { name := "fnExactSlotsIn", vars := ["loop.example/g00627/impl.classSizes"], fn := fun _ => fun
  | [d, g1] => { results := [.lit (.bool false)], args := [d], vars := [g1] }
  | _ => none }
def FnExactSlotsInWrongFalsely : Prop := fnExactSlotsInRow.holds Tryd.pinned (OpenSpec.ofChange fnExactSlotsInWrong)

/-- 'laws.FnExactPagesFor': WHATEVER THE INPUT: true; the input reads as it did. -/
def fnExactPagesForSpec : ChangeSpec := { name := "fnExactPagesFor", vars := ["loop.example/g00627/impl.classSizes"], fn := fun _ => fun
  | [d, g1] => { results := [.lit (.bool true)], args := [d], vars := [g1] }
  | _ => none }
def fnExactPagesForRow : OpenClaim := { program := "ytlaembbgjgpmbaadoor", sum := "ffdc63e960372972944a8ed1bd877fa4ec1aba747161a8f59df4d34c638d34e1", func := "loop.example/g00627/laws.FnExactPagesFor", spec := "fnExactPagesFor", named := ["loop.example/g00627/impl.classSizes"], apart := false, laid := [("loop.example/g00627/impl.classSizes", laid_loop_example_g00627_impl_classSizes)] }
def FnExactPagesForSaid : Prop := fnExactPagesForRow.holds Tryd.pinned (OpenSpec.ofChange fnExactPagesForSpec)

/-- ITS FALSE NEIGHBOUR: 'it returns false'. Refute it at one input. -/
def fnExactPagesForWrong : ChangeSpec := { name := "fnExactPagesFor", vars := ["loop.example/g00627/impl.classSizes"], fn := fun _ => fun
  | [d, g1] => { results := [.lit (.bool false)], args := [d], vars := [g1] }
  | _ => none }
def FnExactPagesForWrongFalsely : Prop := fnExactPagesForRow.holds Tryd.pinned (OpenSpec.ofChange fnExactPagesForWrong)

/-- 'laws.FnExactTailOf': WHATEVER THE INPUT: true; the input reads as it did. -/
def fnExactTailOfSpec : ChangeSpec := { name := "fnExactTailOf", vars := ["loop.example/g00627/impl.classSizes"], fn := fun _ => fun
  | [d, g1] => { results := [.lit (.bool true)], args := [d], vars := [g1] }
  | _ => none }
def fnExactTailOfRow : OpenClaim := { program := "ytlaembbgjgpmbaadoor", sum := "ffdc63e960372972944a8ed1bd877fa4ec1aba747161a8f59df4d34c638d34e1", func := "loop.example/g00627/laws.FnExactTailOf", spec := "fnExactTailOf", named := ["loop.example/g00627/impl.classSizes"], apart := false, laid := [("loop.example/g00627/impl.classSizes", laid_loop_example_g00627_impl_classSizes)] }
def FnExactTailOfSaid : Prop := fnExactTailOfRow.holds Tryd.pinned (OpenSpec.ofChange fnExactTailOfSpec)

/-- ITS FALSE NEIGHBOUR: 'it returns false'. Refute it at one input. -/
def fnExactTailOfWrong : ChangeSpec := { name := "fnExactTailOf", vars := ["loop.example/g00627/impl.classSizes"], fn := fun _ => fun
  | [d, g1] => { results := [.lit (.bool false)], args := [d], vars := [g1] }
  | _ => none }
def FnExactTailOfWrongFalsely : Prop := fnExactTailOfRow.holds Tryd.pinned (OpenSpec.ofChange fnExactTailOfWrong)

/-- 'laws.FnExactSumWaste': WHATEVER THE INPUT: true; the input reads as it did. -/
def fnExactSumWasteSpec : ChangeSpec := { name := "fnExactSumWaste", vars := ["loop.example/g00627/impl.classSizes"], fn := fun _ => fun
  | [d, g1] => { results := [.lit (.bool true)], args := [d], vars := [g1] }
  | _ => none }
def fnExactSumWasteRow : OpenClaim := { program := "ytlaembbgjgpmbaadoor", sum := "ffdc63e960372972944a8ed1bd877fa4ec1aba747161a8f59df4d34c638d34e1", func := "loop.example/g00627/laws.FnExactSumWaste", spec := "fnExactSumWaste", named := ["loop.example/g00627/impl.classSizes"], apart := false, laid := [("loop.example/g00627/impl.classSizes", laid_loop_example_g00627_impl_classSizes)] }
def FnExactSumWasteSaid : Prop := fnExactSumWasteRow.holds Tryd.pinned (OpenSpec.ofChange fnExactSumWasteSpec)

/-- ITS FALSE NEIGHBOUR: 'it returns false'. Refute it at one input. -/
def fnExactSumWasteWrong : ChangeSpec := { name := "fnExactSumWaste", vars := ["loop.example/g00627/impl.classSizes"], fn := fun _ => fun
  | [d, g1] => { results := [.lit (.bool false)], args := [d], vars := [g1] }
  | _ => none }
def FnExactSumWasteWrongFalsely : Prop := fnExactSumWasteRow.holds Tryd.pinned (OpenSpec.ofChange fnExactSumWasteWrong)

/- THE SECOND FORM. 'bulk': how many values and letters a reading holds, each counted each time it is reached (what is shared counts as often as it is met; a slice's spare places count too). A statement '..UptoSaid' is the law's where the arguments, and the package variables that the reading takes, are together of bulk at most 1048576: NARROWER than '..Said'. Prove '..Said' where nothing that the law and all that it calls make is longer than what came in: it says more and counts as full. Else prove '..UptoSaid'. A law counts once. -/
mutual
def uptoBulk {H : Type} : DataW H → Nat
  | .lit (.string bytes) => bytes.length + 1
  | .lit _ => 1
  | .nil => 1
  | .ptr d => uptoBulk d + 1
  | .slice elems spare => uptoBulkAll elems + uptoBulkAll spare + 1
  | .agg parts => uptoBulkAll parts + 1
  | .iface _ d => uptoBulk d + 1
  | .map entries => uptoBulkEntries entries + 1
  | .held _ => 1
def uptoBulkAll {H : Type} : List (DataW H) → Nat
  | [] => 0
  | d :: r => uptoBulk d + uptoBulkAll r
def uptoBulkEntries {H : Type} : List (Lit × DataW H) → Nat
  | [] => 0
  | x :: r => uptoBulkEntry x + uptoBulkEntries r
def uptoBulkEntry {H : Type} : Lit × DataW H → Nat
  | (.string bytes, d) => bytes.length + uptoBulk d + 1
  | (_, d) => uptoBulk d + 1
 end
def uptoSmall : (H : Type) → List (DataW H) → Bool := fun _ ds => decide (uptoBulkAll ds ≤ 1048576)
def OpenSpec.upto (s : _root_.Go.ChangeSpec) : _root_.Go.OpenSpec := { _root_.Go.OpenSpec.ofChange s with cond := some uptoSmall }

/-- 'laws.FnSizes', WHERE WHAT IT READS IS OF BULK AT MOST 1048576: true; the input reads as it did. -/
def fnSizesUptoRow : OpenClaim := { program := "ytlaembbgjgpmbaadoor", sum := "ffdc63e960372972944a8ed1bd877fa4ec1aba747161a8f59df4d34c638d34e1", func := "loop.example/g00627/laws.FnSizes", spec := "fnSizes", named := ["loop.example/g00627/impl.classSizes"], apart := false, laid := [("loop.example/g00627/impl.classSizes", laid_loop_example_g00627_impl_classSizes)], narrowed := true }
def FnSizesUptoSaid : Prop := fnSizesUptoRow.holds Tryd.pinned (OpenSpec.upto fnSizesSpec)

/-- 'laws.FnSlots', WHERE WHAT IT READS IS OF BULK AT MOST 1048576: true; the input reads as it did. -/
def fnSlotsUptoRow : OpenClaim := { program := "ytlaembbgjgpmbaadoor", sum := "ffdc63e960372972944a8ed1bd877fa4ec1aba747161a8f59df4d34c638d34e1", func := "loop.example/g00627/laws.FnSlots", spec := "fnSlots", named := ["loop.example/g00627/impl.classSizes"], apart := false, laid := [("loop.example/g00627/impl.classSizes", laid_loop_example_g00627_impl_classSizes)], narrowed := true }
def FnSlotsUptoSaid : Prop := fnSlotsUptoRow.holds Tryd.pinned (OpenSpec.upto fnSlotsSpec)

/-- 'laws.FnExactClassesOf', WHERE WHAT IT READS IS OF BULK AT MOST 1048576: true; the input reads as it did. -/
def fnExactClassesOfUptoRow : OpenClaim := { program := "ytlaembbgjgpmbaadoor", sum := "ffdc63e960372972944a8ed1bd877fa4ec1aba747161a8f59df4d34c638d34e1", func := "loop.example/g00627/laws.FnExactClassesOf", spec := "fnExactClassesOf", named := ["loop.example/g00627/impl.classSizes"], apart := false, laid := [("loop.example/g00627/impl.classSizes", laid_loop_example_g00627_impl_classSizes)], narrowed := true }
def FnExactClassesOfUptoSaid : Prop := fnExactClassesOfUptoRow.holds Tryd.pinned (OpenSpec.upto fnExactClassesOfSpec)

/-- 'laws.FnExactClassFor', WHERE WHAT IT READS IS OF BULK AT MOST 1048576: true; the input reads as it did. -/
def fnExactClassForUptoRow : OpenClaim := { program := "ytlaembbgjgpmbaadoor", sum := "ffdc63e960372972944a8ed1bd877fa4ec1aba747161a8f59df4d34c638d34e1", func := "loop.example/g00627/laws.FnExactClassFor", spec := "fnExactClassFor", named := ["loop.example/g00627/impl.classSizes"], apart := false, laid := [("loop.example/g00627/impl.classSizes", laid_loop_example_g00627_impl_classSizes)], narrowed := true }
def FnExactClassForUptoSaid : Prop := fnExactClassForUptoRow.holds Tryd.pinned (OpenSpec.upto fnExactClassForSpec)

/-- 'laws.FnExactWasteOf', WHERE WHAT IT READS IS OF BULK AT MOST 1048576: true; the input reads as it did. -/
def fnExactWasteOfUptoRow : OpenClaim := { program := "ytlaembbgjgpmbaadoor", sum := "ffdc63e960372972944a8ed1bd877fa4ec1aba747161a8f59df4d34c638d34e1", func := "loop.example/g00627/laws.FnExactWasteOf", spec := "fnExactWasteOf", named := ["loop.example/g00627/impl.classSizes"], apart := false, laid := [("loop.example/g00627/impl.classSizes", laid_loop_example_g00627_impl_classSizes)], narrowed := true }
def FnExactWasteOfUptoSaid : Prop := fnExactWasteOfUptoRow.holds Tryd.pinned (OpenSpec.upto fnExactWasteOfSpec)

/-- 'laws.FnExactSlotsIn', WHERE WHAT IT READS IS OF BULK AT MOST 1048576: true; the input reads as it did. -/
def fnExactSlotsInUptoRow : OpenClaim := { program := "ytlaembbgjgpmbaadoor", sum := "ffdc63e960372972944a8ed1bd877fa4ec1aba747161a8f59df4d34c638d34e1", func := "loop.example/g00627/laws.FnExactSlotsIn", spec := "fnExactSlotsIn", named := ["loop.example/g00627/impl.classSizes"], apart := false, laid := [("loop.example/g00627/impl.classSizes", laid_loop_example_g00627_impl_classSizes)], narrowed := true }
def FnExactSlotsInUptoSaid : Prop := fnExactSlotsInUptoRow.holds Tryd.pinned (OpenSpec.upto fnExactSlotsInSpec)

/-- 'laws.FnExactPagesFor', WHERE WHAT IT READS IS OF BULK AT MOST 1048576: true; the input reads as it did. -/
def fnExactPagesForUptoRow : OpenClaim := { program := "ytlaembbgjgpmbaadoor", sum := "ffdc63e960372972944a8ed1bd877fa4ec1aba747161a8f59df4d34c638d34e1", func := "loop.example/g00627/laws.FnExactPagesFor", spec := "fnExactPagesFor", named := ["loop.example/g00627/impl.classSizes"], apart := false, laid := [("loop.example/g00627/impl.classSizes", laid_loop_example_g00627_impl_classSizes)], narrowed := true }
def FnExactPagesForUptoSaid : Prop := fnExactPagesForUptoRow.holds Tryd.pinned (OpenSpec.upto fnExactPagesForSpec)

/-- 'laws.FnExactTailOf', WHERE WHAT IT READS IS OF BULK AT MOST 1048576: true; the input reads as it did. -/
def fnExactTailOfUptoRow : OpenClaim := { program := "ytlaembbgjgpmbaadoor", sum := "ffdc63e960372972944a8ed1bd877fa4ec1aba747161a8f59df4d34c638d34e1", func := "loop.example/g00627/laws.FnExactTailOf", spec := "fnExactTailOf", named := ["loop.example/g00627/impl.classSizes"], apart := false, laid := [("loop.example/g00627/impl.classSizes", laid_loop_example_g00627_impl_classSizes)], narrowed := true }
def FnExactTailOfUptoSaid : Prop := fnExactTailOfUptoRow.holds Tryd.pinned (OpenSpec.upto fnExactTailOfSpec)

/-- 'laws.FnExactSumWaste', WHERE WHAT IT READS IS OF BULK AT MOST 1048576: true; the input reads as it did. -/
def fnExactSumWasteUptoRow : OpenClaim := { program := "ytlaembbgjgpmbaadoor", sum := "ffdc63e960372972944a8ed1bd877fa4ec1aba747161a8f59df4d34c638d34e1", func := "loop.example/g00627/laws.FnExactSumWaste", spec := "fnExactSumWaste", named := ["loop.example/g00627/impl.classSizes"], apart := false, laid := [("loop.example/g00627/impl.classSizes", laid_loop_example_g00627_impl_classSizes)], narrowed := true }
def FnExactSumWasteUptoSaid : Prop := fnExactSumWasteUptoRow.holds Tryd.pinned (OpenSpec.upto fnExactSumWasteSpec)

end Rows
end Go.Proofs.YtlaembbgjgpmbaaDoor
