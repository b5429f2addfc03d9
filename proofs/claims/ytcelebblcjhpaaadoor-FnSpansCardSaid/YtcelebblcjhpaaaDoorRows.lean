/-
  NARROWER THAN 'FOR EVERY INPUT', by the rows' own cells (each row's printed sentence says how): FnSpans: laid · FnSwept: laid · FnExactGoodSpan: laid · FnExactNewSpan: laid · FnExactTakeSlot: laid · FnExactFreeSlot: laid · FnExactThingAt: laid · FnExactWordOf: laid · FnExactSweepSpan: laid.
  DERIVED. THE GIVEN ROWS OF THIS SEAT. 9 by the template 'for every input the law returns true; each argument reads behind the call as it read before'; 0 by the template 'total and deterministic' (their statements: YtcelebblcjhpaaaDoorTotals.lean).
  GIVEN WITH THE SEED: the statements are not yours to turn. If you find one false, say at which input.
  Laid BY PROGRAM, IN A SANDBOX (cutbox-rows.mjs): the forced cells as the released guide's own fill.sh prints them over the translation 9cbf91ef753ec638… (all of the seat's roots in one cut). By AI agents, Wed Nov 11 2026. No macro, syntax, notation, axiom, sorry.
-/
import Derived.Test.YtcelebblcjhpaaaDoorChecked
import GoSem.Claim
import GoSem.ClaimJoined
import GoSem.ClaimMapViews
import Derived.JoinedTies
import Derived.KernelRfl
namespace Go.Proofs.YtcelebblcjhpaaaDoor
/- THE CELL 'sum', in the pinned program and in every row, IS THE sha256 OF THE DUMP (.gsa) THAT YtcelebblcjhpaaaDoorProg.lean LOADS. Nothing in Lean hashes anything: it is a label: what it is worth is what the hold of that sum in a sandbox is worth. -/
noncomputable def Tryd.pinned : Pinned := { name := "ytcelebblcjhpaaadoor", sum := "9cbf91ef753ec6389e02df61a0a5950428c23a448158ad7abbf4a5db13d8dea8", checked := Tryd.checked }
namespace Rows
def none {H : Type} : Left H := { results := [], args := [] }

/- WHAT THE LISTED PACKAGE-LEVEL VARIABLES READ AS WHEN THE CALL BEGINS. Each datum BY PROGRAM (the guide's laid-datum.mjs) off the statement by which the dump's own 'gosem.cut.vars' lays the variable. In a bare row this is a premise. The card (YtcelebblcjhpaaaDoorCards.lean) ties it to the program's text. -/
def laid_math_bits_deBruijn32tab {H : Type} : DataW H := .agg [.lit (.int .u8 0), .lit (.int .u8 1), .lit (.int .u8 28), .lit (.int .u8 2), .lit (.int .u8 29), .lit (.int .u8 14), .lit (.int .u8 24), .lit (.int .u8 3), .lit (.int .u8 30), .lit (.int .u8 22), .lit (.int .u8 20), .lit (.int .u8 15), .lit (.int .u8 25), .lit (.int .u8 17), .lit (.int .u8 4), .lit (.int .u8 8), .lit (.int .u8 31), .lit (.int .u8 27), .lit (.int .u8 13), .lit (.int .u8 23), .lit (.int .u8 21), .lit (.int .u8 19), .lit (.int .u8 16), .lit (.int .u8 7), .lit (.int .u8 26), .lit (.int .u8 12), .lit (.int .u8 18), .lit (.int .u8 6), .lit (.int .u8 11), .lit (.int .u8 5), .lit (.int .u8 10), .lit (.int .u8 9)]
def laid_loop_example_g00627_impl_classSizes {H : Type} : DataW H := .agg [.lit (.int .i64 1), .lit (.int .i64 2), .lit (.int .i64 3), .lit (.int .i64 4), .lit (.int .i64 5), .lit (.int .i64 6), .lit (.int .i64 7), .lit (.int .i64 8), .lit (.int .i64 9), .lit (.int .i64 10), .lit (.int .i64 11), .lit (.int .i64 12), .lit (.int .i64 13), .lit (.int .i64 14), .lit (.int .i64 15), .lit (.int .i64 16), .lit (.int .i64 18), .lit (.int .i64 20), .lit (.int .i64 22), .lit (.int .i64 24), .lit (.int .i64 27), .lit (.int .i64 30), .lit (.int .i64 33), .lit (.int .i64 37), .lit (.int .i64 41), .lit (.int .i64 46), .lit (.int .i64 51), .lit (.int .i64 57), .lit (.int .i64 64), .lit (.int .i64 72), .lit (.int .i64 81), .lit (.int .i64 91), .lit (.int .i64 102), .lit (.int .i64 114), .lit (.int .i64 128), .lit (.int .i64 144), .lit (.int .i64 162), .lit (.int .i64 182), .lit (.int .i64 204), .lit (.int .i64 229), .lit (.int .i64 256)]

/-- 'laws.FnSpans': WHATEVER THE INPUT: true; the input reads as it did. -/
def fnSpansSpec : ChangeSpec := { name := "fnSpans", vars := ["loop.example/g00627/impl.classSizes"], fn := fun _ => fun
  | [d1, d2, g1] => { results := [.lit (.bool true)], args := [d1, d2], vars := [g1] }
  | _ => none }
def fnSpansRow : OpenClaim := { program := "ytcelebblcjhpaaadoor", sum := "9cbf91ef753ec6389e02df61a0a5950428c23a448158ad7abbf4a5db13d8dea8", func := "loop.example/g00627/laws.FnSpans", spec := "fnSpans", named := ["loop.example/g00627/impl.classSizes", "math/bits.deBruijn32tab"], apart := false, laid := [("math/bits.deBruijn32tab", laid_math_bits_deBruijn32tab), ("loop.example/g00627/impl.classSizes", laid_loop_example_g00627_impl_classSizes)] }
def FnSpansSaid : Prop := fnSpansRow.holds Tryd.pinned (OpenSpec.ofChange fnSpansSpec)

/-- ITS FALSE NEIGHBOUR: 'it returns false'. Refute it at one input. -/
def fnSpansWrong : ChangeSpec := { name := "fnSpans", vars := ["loop.example/g00627/impl.classSizes"], fn := fun _ => fun
  | [d1, d2, g1] => { results := [.lit (.bool false)], args := [d1, d2], vars := [g1] }
  | _ => none }
def FnSpansWrongFalsely : Prop := fnSpansRow.holds Tryd.pinned (OpenSpec.ofChange fnSpansWrong)

/-- 'laws.FnSwept': WHATEVER THE INPUT: true; the input reads as it did. -/
def fnSweptSpec : ChangeSpec := { name := "fnSwept", vars := ["loop.example/g00627/impl.classSizes"], fn := fun _ => fun
  | [d1, d2, g1] => { results := [.lit (.bool true)], args := [d1, d2], vars := [g1] }
  | _ => none }
def fnSweptRow : OpenClaim := { program := "ytcelebblcjhpaaadoor", sum := "9cbf91ef753ec6389e02df61a0a5950428c23a448158ad7abbf4a5db13d8dea8", func := "loop.example/g00627/laws.FnSwept", spec := "fnSwept", named := ["loop.example/g00627/impl.classSizes", "math/bits.deBruijn32tab"], apart := false, laid := [("math/bits.deBruijn32tab", laid_math_bits_deBruijn32tab), ("loop.example/g00627/impl.classSizes", laid_loop_example_g00627_impl_classSizes)] }
def FnSweptSaid : Prop := fnSweptRow.holds Tryd.pinned (OpenSpec.ofChange fnSweptSpec)

/-- ITS FALSE NEIGHBOUR: 'it returns false'. Refute it at one input. -/
def fnSweptWrong : ChangeSpec := { name := "fnSwept", vars := ["loop.example/g00627/impl.classSizes"], fn := fun _ => fun
  | [d1, d2, g1] => { results := [.lit (.bool false)], args := [d1, d2], vars := [g1] }
  | _ => none }
def FnSweptWrongFalsely : Prop := fnSweptRow.holds Tryd.pinned (OpenSpec.ofChange fnSweptWrong)

/-- 'laws.FnExactGoodSpan': WHATEVER THE INPUT: true; the input reads as it did. -/
def fnExactGoodSpanSpec : ChangeSpec := { name := "fnExactGoodSpan", vars := ["loop.example/g00627/impl.classSizes"], fn := fun _ => fun
  | [d, g1] => { results := [.lit (.bool true)], args := [d], vars := [g1] }
  | _ => none }
def fnExactGoodSpanRow : OpenClaim := { program := "ytcelebblcjhpaaadoor", sum := "9cbf91ef753ec6389e02df61a0a5950428c23a448158ad7abbf4a5db13d8dea8", func := "loop.example/g00627/laws.FnExactGoodSpan", spec := "fnExactGoodSpan", named := ["loop.example/g00627/impl.classSizes"], apart := false, laid := [("loop.example/g00627/impl.classSizes", laid_loop_example_g00627_impl_classSizes)] }
def FnExactGoodSpanSaid : Prop := fnExactGoodSpanRow.holds Tryd.pinned (OpenSpec.ofChange fnExactGoodSpanSpec)

/-- ITS FALSE NEIGHBOUR: 'it returns false'. Refute it at one input. -/
def fnExactGoodSpanWrong : ChangeSpec := { name := "fnExactGoodSpan", vars := ["loop.example/g00627/impl.classSizes"], fn := fun _ => fun
  | [d, g1] => { results := [.lit (.bool false)], args := [d], vars := [g1] }
  | _ => none }
def FnExactGoodSpanWrongFalsely : Prop := fnExactGoodSpanRow.holds Tryd.pinned (OpenSpec.ofChange fnExactGoodSpanWrong)

/-- 'laws.FnExactNewSpan': WHATEVER THE INPUT: true; the input reads as it did. -/
def fnExactNewSpanSpec : ChangeSpec := { name := "fnExactNewSpan", vars := ["loop.example/g00627/impl.classSizes"], fn := fun _ => fun
  | [d1, d2, g1] => { results := [.lit (.bool true)], args := [d1, d2], vars := [g1] }
  | _ => none }
def fnExactNewSpanRow : OpenClaim := { program := "ytcelebblcjhpaaadoor", sum := "9cbf91ef753ec6389e02df61a0a5950428c23a448158ad7abbf4a5db13d8dea8", func := "loop.example/g00627/laws.FnExactNewSpan", spec := "fnExactNewSpan", named := ["loop.example/g00627/impl.classSizes"], apart := false, laid := [("loop.example/g00627/impl.classSizes", laid_loop_example_g00627_impl_classSizes)] }
def FnExactNewSpanSaid : Prop := fnExactNewSpanRow.holds Tryd.pinned (OpenSpec.ofChange fnExactNewSpanSpec)

/-- ITS FALSE NEIGHBOUR: 'it returns false'. Refute it at one input. -/
def fnExactNewSpanWrong : ChangeSpec := { name := "fnExactNewSpan", vars := ["loop.example/g00627/impl.classSizes"], fn := fun _ => fun
  | [d1, d2, g1] => { results := [.lit (.bool false)], args := [d1, d2], vars := [g1] }
  | _ => none }
def FnExactNewSpanWrongFalsely : Prop := fnExactNewSpanRow.holds Tryd.pinned (OpenSpec.ofChange fnExactNewSpanWrong)

/-- 'laws.FnExactTakeSlot': WHATEVER THE INPUT: true; the input reads as it did. -/
def fnExactTakeSlotSpec : ChangeSpec := { name := "fnExactTakeSlot", vars := ["loop.example/g00627/impl.classSizes"], fn := fun _ => fun
  | [d, g1] => { results := [.lit (.bool true)], args := [d], vars := [g1] }
  | _ => none }
def fnExactTakeSlotRow : OpenClaim := { program := "ytcelebblcjhpaaadoor", sum := "9cbf91ef753ec6389e02df61a0a5950428c23a448158ad7abbf4a5db13d8dea8", func := "loop.example/g00627/laws.FnExactTakeSlot", spec := "fnExactTakeSlot", named := ["loop.example/g00627/impl.classSizes", "math/bits.deBruijn32tab"], apart := false, laid := [("math/bits.deBruijn32tab", laid_math_bits_deBruijn32tab), ("loop.example/g00627/impl.classSizes", laid_loop_example_g00627_impl_classSizes)] }
def FnExactTakeSlotSaid : Prop := fnExactTakeSlotRow.holds Tryd.pinned (OpenSpec.ofChange fnExactTakeSlotSpec)

/-- ITS FALSE NEIGHBOUR: 'it returns false'. Refute it at one input. -/
def fnExactTakeSlotWrong : ChangeSpec := { name := "fnExactTakeSlot", vars := ["loop.example/g00627/impl.classSizes"], fn := fun _ => fun
  | [d, g1] => { results := [.lit (.bool false)], args := [d], vars := [g1] }
  | _ => none }
def FnExactTakeSlotWrongFalsely : Prop := fnExactTakeSlotRow.holds Tryd.pinned (OpenSpec.ofChange fnExactTakeSlotWrong)

/-- 'laws.FnExactFreeSlot': WHATEVER THE INPUT: true; the input reads as it did. -/
def fnExactFreeSlotSpec : ChangeSpec := { name := "fnExactFreeSlot", vars := ["loop.example/g00627/impl.classSizes"], fn := fun _ => fun
  | [d1, d2, g1] => { results := [.lit (.bool true)], args := [d1, d2], vars := [g1] }
  | _ => none }
def fnExactFreeSlotRow : OpenClaim := { program := "ytcelebblcjhpaaadoor", sum := "9cbf91ef753ec6389e02df61a0a5950428c23a448158ad7abbf4a5db13d8dea8", func := "loop.example/g00627/laws.FnExactFreeSlot", spec := "fnExactFreeSlot", named := ["loop.example/g00627/impl.classSizes"], apart := false, laid := [("loop.example/g00627/impl.classSizes", laid_loop_example_g00627_impl_classSizes)] }
def FnExactFreeSlotSaid : Prop := fnExactFreeSlotRow.holds Tryd.pinned (OpenSpec.ofChange fnExactFreeSlotSpec)

/-- ITS FALSE NEIGHBOUR: 'it returns false'. Refute it at one input. -/
def fnExactFreeSlotWrong : ChangeSpec := { name := "fnExactFreeSlot", vars := ["loop.example/g00627/impl.classSizes"], fn := fun _ => fun
  | [d1, d2, g1] => { results := [.lit (.bool false)], args := [d1, d2], vars := [g1] }
  | _ => none }
def FnExactFreeSlotWrongFalsely : Prop := fnExactFreeSlotRow.holds Tryd.pinned (OpenSpec.ofChange fnExactFreeSlotWrong)

/-- 'laws.FnExactThingAt': WHATEVER THE INPUT: true; the input reads as it did. -/
def fnExactThingAtSpec : ChangeSpec := { name := "fnExactThingAt", vars := ["loop.example/g00627/impl.classSizes"], fn := fun _ => fun
  | [d1, d2, g1] => { results := [.lit (.bool true)], args := [d1, d2], vars := [g1] }
  | _ => none }
def fnExactThingAtRow : OpenClaim := { program := "ytcelebblcjhpaaadoor", sum := "9cbf91ef753ec6389e02df61a0a5950428c23a448158ad7abbf4a5db13d8dea8", func := "loop.example/g00627/laws.FnExactThingAt", spec := "fnExactThingAt", named := ["loop.example/g00627/impl.classSizes"], apart := false, laid := [("loop.example/g00627/impl.classSizes", laid_loop_example_g00627_impl_classSizes)] }
def FnExactThingAtSaid : Prop := fnExactThingAtRow.holds Tryd.pinned (OpenSpec.ofChange fnExactThingAtSpec)

/-- ITS FALSE NEIGHBOUR: 'it returns false'. Refute it at one input. -/
def fnExactThingAtWrong : ChangeSpec := { name := "fnExactThingAt", vars := ["loop.example/g00627/impl.classSizes"], fn := fun _ => fun
  | [d1, d2, g1] => { results := [.lit (.bool false)], args := [d1, d2], vars := [g1] }
  | _ => none }
def FnExactThingAtWrongFalsely : Prop := fnExactThingAtRow.holds Tryd.pinned (OpenSpec.ofChange fnExactThingAtWrong)

/-- 'laws.FnExactWordOf': WHATEVER THE INPUT: true; the input reads as it did. -/
def fnExactWordOfSpec : ChangeSpec := { name := "fnExactWordOf", vars := ["loop.example/g00627/impl.classSizes"], fn := fun _ => fun
  | [d1, d2, g1] => { results := [.lit (.bool true)], args := [d1, d2], vars := [g1] }
  | _ => none }
def fnExactWordOfRow : OpenClaim := { program := "ytcelebblcjhpaaadoor", sum := "9cbf91ef753ec6389e02df61a0a5950428c23a448158ad7abbf4a5db13d8dea8", func := "loop.example/g00627/laws.FnExactWordOf", spec := "fnExactWordOf", named := ["loop.example/g00627/impl.classSizes"], apart := false, laid := [("loop.example/g00627/impl.classSizes", laid_loop_example_g00627_impl_classSizes)] }
def FnExactWordOfSaid : Prop := fnExactWordOfRow.holds Tryd.pinned (OpenSpec.ofChange fnExactWordOfSpec)

/-- ITS FALSE NEIGHBOUR: 'it returns false'. Refute it at one input. -/
def fnExactWordOfWrong : ChangeSpec := { name := "fnExactWordOf", vars := ["loop.example/g00627/impl.classSizes"], fn := fun _ => fun
  | [d1, d2, g1] => { results := [.lit (.bool false)], args := [d1, d2], vars := [g1] }
  | _ => none }
def FnExactWordOfWrongFalsely : Prop := fnExactWordOfRow.holds Tryd.pinned (OpenSpec.ofChange fnExactWordOfWrong)

/-- 'laws.FnExactSweepSpan': WHATEVER THE INPUT: true; the input reads as it did. -/
def fnExactSweepSpanSpec : ChangeSpec := { name := "fnExactSweepSpan", vars := ["loop.example/g00627/impl.classSizes"], fn := fun _ => fun
  | [d1, d2, g1] => { results := [.lit (.bool true)], args := [d1, d2], vars := [g1] }
  | _ => none }
def fnExactSweepSpanRow : OpenClaim := { program := "ytcelebblcjhpaaadoor", sum := "9cbf91ef753ec6389e02df61a0a5950428c23a448158ad7abbf4a5db13d8dea8", func := "loop.example/g00627/laws.FnExactSweepSpan", spec := "fnExactSweepSpan", named := ["loop.example/g00627/impl.classSizes"], apart := false, laid := [("loop.example/g00627/impl.classSizes", laid_loop_example_g00627_impl_classSizes)] }
def FnExactSweepSpanSaid : Prop := fnExactSweepSpanRow.holds Tryd.pinned (OpenSpec.ofChange fnExactSweepSpanSpec)

/-- ITS FALSE NEIGHBOUR: 'it returns false'. Refute it at one input. -/
def fnExactSweepSpanWrong : ChangeSpec := { name := "fnExactSweepSpan", vars := ["loop.example/g00627/impl.classSizes"], fn := fun _ => fun
  | [d1, d2, g1] => { results := [.lit (.bool false)], args := [d1, d2], vars := [g1] }
  | _ => none }
def FnExactSweepSpanWrongFalsely : Prop := fnExactSweepSpanRow.holds Tryd.pinned (OpenSpec.ofChange fnExactSweepSpanWrong)

/- THE SECOND FORM. 'bulk': how many values and letters a reading holds, each counted each time it is reached (what is shared counts as often as it is met; a slice's spare places count too). A statement '..UptoSaid' is the law's where the arguments, and the package variables that the reading takes, are together of bulk at most 1048576: NARROWER than '..Said'. Prove '..Said' where nothing that the law and all that it calls make is longer than what came in: it says more and counts as full. Else prove '..UptoSaid'. A law counts once. -/
mutual
def uptoBulk {H : Type} : DataW H → Nat
  | .lit (.string bytes) => bytes.length + 1
  | .lit _ => 1
  | .nil => 1
  | .ptr d => uptoBulk d + 1
  | .slice elems spare => uptoBulkAll elems + uptoBulkAll spare + 1
  | .agg parts => uptoBulkAll parts + 1
  | .iface _ d => uptoBulk d + 1
  | .map entries => uptoBulkEntries entries + 1
  | .held _ => 1
def uptoBulkAll {H : Type} : List (DataW H) → Nat
  | [] => 0
  | d :: r => uptoBulk d + uptoBulkAll r
def uptoBulkEntries {H : Type} : List (Lit × DataW H) → Nat
  | [] => 0
  | x :: r => uptoBulkEntry x + uptoBulkEntries r
def uptoBulkEntry {H : Type} : Lit × DataW H → Nat
  | (.string bytes, d) => bytes.length + uptoBulk d + 1
  | (_, d) => uptoBulk d + 1
 end
def uptoSmall : (H : Type) → List (DataW H) → Bool := fun _ ds => decide (uptoBulkAll ds ≤ 1048576)
def OpenSpec.upto (s : _root_.Go.ChangeSpec) : _root_.Go.OpenSpec := { _root_.Go.OpenSpec.ofChange s with cond := some uptoSmall }

/-- 'laws.FnSpans', WHERE WHAT IT READS IS OF BULK AT MOST 1048576: true; the input reads as it did. -/
def fnSpansUptoRow : OpenClaim := { program := "ytcelebblcjhpaaadoor", sum := "9cbf91ef753ec6389e02df61a0a5950428c23a448158ad7abbf4a5db13d8dea8", func := "loop.example/g00627/laws.FnSpans", spec := "fnSpans", named := ["loop.example/g00627/impl.classSizes", "math/bits.deBruijn32tab"], apart := false, laid := [("math/bits.deBruijn32tab", laid_math_bits_deBruijn32tab), ("loop.example/g00627/impl.classSizes", laid_loop_example_g00627_impl_classSizes)], narrowed := true }
def FnSpansUptoSaid : Prop := fnSpansUptoRow.holds Tryd.pinned (OpenSpec.upto fnSpansSpec)

/-- 'laws.FnSwept', WHERE WHAT IT READS IS OF BULK AT MOST 1048576: true; the input reads as it did. -/
def fnSweptUptoRow : OpenClaim := { program := "ytcelebblcjhpaaadoor", sum := "9cbf91ef753ec6389e02df61a0a5950428c23a448158ad7abbf4a5db13d8dea8", func := "loop.example/g00627/laws.FnSwept", spec := "fnSwept", named := ["loop.example/g00627/impl.classSizes", "math/bits.deBruijn32tab"], apart := false, laid := [("math/bits.deBruijn32tab", laid_math_bits_deBruijn32tab), ("loop.example/g00627/impl.classSizes", laid_loop_example_g00627_impl_classSizes)], narrowed := true }
def FnSweptUptoSaid : Prop := fnSweptUptoRow.holds Tryd.pinned (OpenSpec.upto fnSweptSpec)

/-- 'laws.FnExactGoodSpan', WHERE WHAT IT READS IS OF BULK AT MOST 1048576: true; the input reads as it did. -/
def fnExactGoodSpanUptoRow : OpenClaim := { program := "ytcelebblcjhpaaadoor", sum := "9cbf91ef753ec6389e02df61a0a5950428c23a448158ad7abbf4a5db13d8dea8", func := "loop.example/g00627/laws.FnExactGoodSpan", spec := "fnExactGoodSpan", named := ["loop.example/g00627/impl.classSizes"], apart := false, laid := [("loop.example/g00627/impl.classSizes", laid_loop_example_g00627_impl_classSizes)], narrowed := true }
def FnExactGoodSpanUptoSaid : Prop := fnExactGoodSpanUptoRow.holds Tryd.pinned (OpenSpec.upto fnExactGoodSpanSpec)

/-- 'laws.FnExactNewSpan', WHERE WHAT IT READS IS OF BULK AT MOST 1048576: true; the input reads as it did. -/
def fnExactNewSpanUptoRow : OpenClaim := { program := "ytcelebblcjhpaaadoor", sum := "9cbf91ef753ec6389e02df61a0a5950428c23a448158ad7abbf4a5db13d8dea8", func := "loop.example/g00627/laws.FnExactNewSpan", spec := "fnExactNewSpan", named := ["loop.example/g00627/impl.classSizes"], apart := false, laid := [("loop.example/g00627/impl.classSizes", laid_loop_example_g00627_impl_classSizes)], narrowed := true }
def FnExactNewSpanUptoSaid : Prop := fnExactNewSpanUptoRow.holds Tryd.pinned (OpenSpec.upto fnExactNewSpanSpec)

/-- 'laws.FnExactTakeSlot', WHERE WHAT IT READS IS OF BULK AT MOST 1048576: true; the input reads as it did. -/
def fnExactTakeSlotUptoRow : OpenClaim := { program := "ytcelebblcjhpaaadoor", sum := "9cbf91ef753ec6389e02df61a0a5950428c23a448158ad7abbf4a5db13d8dea8", func := "loop.example/g00627/laws.FnExactTakeSlot", spec := "fnExactTakeSlot", named := ["loop.example/g00627/impl.classSizes", "math/bits.deBruijn32tab"], apart := false, laid := [("math/bits.deBruijn32tab", laid_math_bits_deBruijn32tab), ("loop.example/g00627/impl.classSizes", laid_loop_example_g00627_impl_classSizes)], narrowed := true }
def FnExactTakeSlotUptoSaid : Prop := fnExactTakeSlotUptoRow.holds Tryd.pinned (OpenSpec.upto fnExactTakeSlotSpec)

/-- 'laws.FnExactFreeSlot', WHERE WHAT IT READS IS OF BULK AT MOST 1048576: true; the input reads as it did. -/
def fnExactFreeSlotUptoRow : OpenClaim := { program := "ytcelebblcjhpaaadoor", sum := "9cbf91ef753ec6389e02df61a0a5950428c23a448158ad7abbf4a5db13d8dea8", func := "loop.example/g00627/laws.FnExactFreeSlot", spec := "fnExactFreeSlot", named := ["loop.example/g00627/impl.classSizes"], apart := false, laid := [("loop.example/g00627/impl.classSizes", laid_loop_example_g00627_impl_classSizes)], narrowed := true }
def FnExactFreeSlotUptoSaid : Prop := fnExactFreeSlotUptoRow.holds Tryd.pinned (OpenSpec.upto fnExactFreeSlotSpec)

/-- 'laws.FnExactThingAt', WHERE WHAT IT READS IS OF BULK AT MOST 1048576: true; the input reads as it did. -/
def fnExactThingAtUptoRow : OpenClaim := { program := "ytcelebblcjhpaaadoor", sum := "9cbf91ef753ec6389e02df61a0a5950428c23a448158ad7abbf4a5db13d8dea8", func := "loop.example/g00627/laws.FnExactThingAt", spec := "fnExactThingAt", named := ["loop.example/g00627/impl.classSizes"], apart := false, laid := [("loop.example/g00627/impl.classSizes", laid_loop_example_g00627_impl_classSizes)], narrowed := true }
def FnExactThingAtUptoSaid : Prop := fnExactThingAtUptoRow.holds Tryd.pinned (OpenSpec.upto fnExactThingAtSpec)

/-- 'laws.FnExactWordOf', WHERE WHAT IT READS IS OF BULK AT MOST 1048576: true; the input reads as it did. -/
def fnExactWordOfUptoRow : OpenClaim := { program := "ytcelebblcjhpaaadoor", sum := "9cbf91ef753ec6389e02df61a0a5950428c23a448158ad7abbf4a5db13d8dea8", func := "loop.example/g00627/laws.FnExactWordOf", spec := "fnExactWordOf", named := ["loop.example/g00627/impl.classSizes"], apart := false, laid := [("loop.example/g00627/impl.classSizes", laid_loop_example_g00627_impl_classSizes)], narrowed := true }
def FnExactWordOfUptoSaid : Prop := fnExactWordOfUptoRow.holds Tryd.pinned (OpenSpec.upto fnExactWordOfSpec)

/-- 'laws.FnExactSweepSpan', WHERE WHAT IT READS IS OF BULK AT MOST 1048576: true; the input reads as it did. -/
def fnExactSweepSpanUptoRow : OpenClaim := { program := "ytcelebblcjhpaaadoor", sum := "9cbf91ef753ec6389e02df61a0a5950428c23a448158ad7abbf4a5db13d8dea8", func := "loop.example/g00627/laws.FnExactSweepSpan", spec := "fnExactSweepSpan", named := ["loop.example/g00627/impl.classSizes"], apart := false, laid := [("loop.example/g00627/impl.classSizes", laid_loop_example_g00627_impl_classSizes)], narrowed := true }
def FnExactSweepSpanUptoSaid : Prop := fnExactSweepSpanUptoRow.holds Tryd.pinned (OpenSpec.upto fnExactSweepSpanSpec)

end Rows
end Go.Proofs.YtcelebblcjhpaaaDoor
