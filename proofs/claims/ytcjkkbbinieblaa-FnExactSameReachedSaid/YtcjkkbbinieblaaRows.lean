/-
  No cell of these rows narrows 'for every input' (looked for: loops, veiled, ifaces, maps, wideKeys, modest, calm, conditions, laid).
  DERIVED. THE GIVEN ROWS OF THIS SEAT. 10 by the template 'for every input the law returns true; each argument reads behind the call as it read before'; 0 by the template 'total and deterministic' (their statements: YtcjkkbbinieblaaTotals.lean).
  GIVEN WITH THE SEED: the statements are not yours to turn. If you find one false, say at which input.
  Laid BY PROGRAM, IN A SANDBOX (cutbox-rows.mjs): the forced cells as the released guide's own fill.sh prints them over the translation e71e0660c03593f4… (all of the seat's roots in one cut). By AI agents, Wed Nov 11 2026. No macro, syntax, notation, axiom, sorry.
-/
import Derived.Test.YtcjkkbbinieblaaChecked
import GoSem.Claim
import GoSem.ClaimJoined
import GoSem.ClaimMapViews
import Derived.JoinedTies
import Derived.KernelRfl
namespace Go.Proofs.Ytcjkkbbinieblaa
/- THE CELL 'sum', in the pinned program and in every row, IS THE sha256 OF THE DUMP (.gsa) THAT YtcjkkbbinieblaaProg.lean LOADS. Nothing in Lean hashes anything: it is a label: what it is worth is what the hold of that sum in a sandbox is worth. -/
noncomputable def Try.pinned : Pinned := { name := "ytcjkkbbinieblaa", sum := "e71e0660c03593f4bc05b9fb411334ce535ec24033e6df20656339c02ce192fd", checked := Try.checked }
namespace Rows
def none {H : Type} : Left H := { results := [], args := [] }

/-- 'laws.FnCleaned': WHATEVER THE INPUT: true; the input reads as it did. -/
def fnCleanedSpec : ChangeSpec := { name := "fnCleaned", fn := fun _ => fun
  | [d1, d2] => { results := [.lit (.bool true)], args := [d1, d2] }
  | _ => none }
def fnCleanedRow : OpenClaim := { program := "ytcjkkbbinieblaa", sum := "e71e0660c03593f4bc05b9fb411334ce535ec24033e6df20656339c02ce192fd", func := "loop.example/g00627/laws.FnCleaned", spec := "fnCleaned", unfollowed := true, recurses := true, apart := false }
def FnCleanedSaid : Prop := fnCleanedRow.holds Try.pinned (OpenSpec.ofChange fnCleanedSpec)

/-- ITS FALSE NEIGHBOUR: 'it returns false'. Refute it at one input. -/
def fnCleanedWrong : ChangeSpec := { name := "fnCleaned", fn := fun _ => fun
  | [d1, d2] => { results := [.lit (.bool false)], args := [d1, d2] }
  | _ => none }
def FnCleanedWrongFalsely : Prop := fnCleanedRow.holds Try.pinned (OpenSpec.ofChange fnCleanedWrong)

/-- 'laws.FnNamed': WHATEVER THE INPUT: true; the input reads as it did. -/
def fnNamedSpec : ChangeSpec := { name := "fnNamed", fn := fun _ => fun
  | [d1, d2] => { results := [.lit (.bool true)], args := [d1, d2] }
  | _ => none }
def fnNamedRow : OpenClaim := { program := "ytcjkkbbinieblaa", sum := "e71e0660c03593f4bc05b9fb411334ce535ec24033e6df20656339c02ce192fd", func := "loop.example/g00627/laws.FnNamed", spec := "fnNamed", unfollowed := true, recurses := true, apart := false }
def FnNamedSaid : Prop := fnNamedRow.holds Try.pinned (OpenSpec.ofChange fnNamedSpec)

/-- ITS FALSE NEIGHBOUR: 'it returns false'. Refute it at one input. -/
def fnNamedWrong : ChangeSpec := { name := "fnNamed", fn := fun _ => fun
  | [d1, d2] => { results := [.lit (.bool false)], args := [d1, d2] }
  | _ => none }
def FnNamedWrongFalsely : Prop := fnNamedRow.holds Try.pinned (OpenSpec.ofChange fnNamedWrong)

/-- 'laws.FnExactGoodHeap': WHATEVER THE INPUT: true; the input reads as it did. -/
def fnExactGoodHeapSpec : ChangeSpec := { name := "fnExactGoodHeap", fn := fun _ => fun
  | [d] => { results := [.lit (.bool true)], args := [d] }
  | _ => none }
def fnExactGoodHeapRow : OpenClaim := { program := "ytcjkkbbinieblaa", sum := "e71e0660c03593f4bc05b9fb411334ce535ec24033e6df20656339c02ce192fd", func := "loop.example/g00627/laws.FnExactGoodHeap", spec := "fnExactGoodHeap", apart := false }
def FnExactGoodHeapSaid : Prop := fnExactGoodHeapRow.holds Try.pinned (OpenSpec.ofChange fnExactGoodHeapSpec)

/-- ITS FALSE NEIGHBOUR: 'it returns false'. Refute it at one input. -/
def fnExactGoodHeapWrong : ChangeSpec := { name := "fnExactGoodHeap", fn := fun _ => fun
  | [d] => { results := [.lit (.bool false)], args := [d] }
  | _ => none }
def FnExactGoodHeapWrongFalsely : Prop := fnExactGoodHeapRow.holds Try.pinned (OpenSpec.ofChange fnExactGoodHeapWrong)

/-- 'laws.FnExactReachedIn': WHATEVER THE INPUT: true; the input reads as it did. -/
def fnExactReachedInSpec : ChangeSpec := { name := "fnExactReachedIn", fn := fun _ => fun
  | [d] => { results := [.lit (.bool true)], args := [d] }
  | _ => none }
def fnExactReachedInRow : OpenClaim := { program := "ytcjkkbbinieblaa", sum := "e71e0660c03593f4bc05b9fb411334ce535ec24033e6df20656339c02ce192fd", func := "loop.example/g00627/laws.FnExactReachedIn", spec := "fnExactReachedIn", unfollowed := true, recurses := true, apart := false }
def FnExactReachedInSaid : Prop := fnExactReachedInRow.holds Try.pinned (OpenSpec.ofChange fnExactReachedInSpec)

/-- ITS FALSE NEIGHBOUR: 'it returns false'. Refute it at one input. -/
def fnExactReachedInWrong : ChangeSpec := { name := "fnExactReachedIn", fn := fun _ => fun
  | [d] => { results := [.lit (.bool false)], args := [d] }
  | _ => none }
def FnExactReachedInWrongFalsely : Prop := fnExactReachedInRow.holds Try.pinned (OpenSpec.ofChange fnExactReachedInWrong)

/-- 'laws.FnExactReachFrom': WHATEVER THE INPUT: true; the input reads as it did. -/
def fnExactReachFromSpec : ChangeSpec := { name := "fnExactReachFrom", fn := fun _ => fun
  | [d1, d2] => { results := [.lit (.bool true)], args := [d1, d2] }
  | _ => none }
def fnExactReachFromRow : OpenClaim := { program := "ytcjkkbbinieblaa", sum := "e71e0660c03593f4bc05b9fb411334ce535ec24033e6df20656339c02ce192fd", func := "loop.example/g00627/laws.FnExactReachFrom", spec := "fnExactReachFrom", unfollowed := true, recurses := true, apart := false }
def FnExactReachFromSaid : Prop := fnExactReachFromRow.holds Try.pinned (OpenSpec.ofChange fnExactReachFromSpec)

/-- ITS FALSE NEIGHBOUR: 'it returns false'. Refute it at one input. -/
def fnExactReachFromWrong : ChangeSpec := { name := "fnExactReachFrom", fn := fun _ => fun
  | [d1, d2] => { results := [.lit (.bool false)], args := [d1, d2] }
  | _ => none }
def FnExactReachFromWrongFalsely : Prop := fnExactReachFromRow.holds Try.pinned (OpenSpec.ofChange fnExactReachFromWrong)

/-- 'laws.FnExactSetField': WHATEVER THE INPUT: true; the input reads as it did. -/
def fnExactSetFieldSpec : ChangeSpec := { name := "fnExactSetField", fn := fun _ => fun
  | [d1, d2, d3, d4] => { results := [.lit (.bool true)], args := [d1, d2, d3, d4] }
  | _ => none }
def fnExactSetFieldRow : OpenClaim := { program := "ytcjkkbbinieblaa", sum := "e71e0660c03593f4bc05b9fb411334ce535ec24033e6df20656339c02ce192fd", func := "loop.example/g00627/laws.FnExactSetField", spec := "fnExactSetField", apart := false }
def FnExactSetFieldSaid : Prop := fnExactSetFieldRow.holds Try.pinned (OpenSpec.ofChange fnExactSetFieldSpec)

/-- ITS FALSE NEIGHBOUR: 'it returns false'. Refute it at one input. -/
def fnExactSetFieldWrong : ChangeSpec := { name := "fnExactSetField", fn := fun _ => fun
  | [d1, d2, d3, d4] => { results := [.lit (.bool false)], args := [d1, d2, d3, d4] }
  | _ => none }
def FnExactSetFieldWrongFalsely : Prop := fnExactSetFieldRow.holds Try.pinned (OpenSpec.ofChange fnExactSetFieldWrong)

/-- 'laws.FnExactNewThing': WHATEVER THE INPUT: true; the input reads as it did. -/
def fnExactNewThingSpec : ChangeSpec := { name := "fnExactNewThing", fn := fun _ => fun
  | [d1, d2] => { results := [.lit (.bool true)], args := [d1, d2] }
  | _ => none }
def fnExactNewThingRow : OpenClaim := { program := "ytcjkkbbinieblaa", sum := "e71e0660c03593f4bc05b9fb411334ce535ec24033e6df20656339c02ce192fd", func := "loop.example/g00627/laws.FnExactNewThing", spec := "fnExactNewThing", apart := false }
def FnExactNewThingSaid : Prop := fnExactNewThingRow.holds Try.pinned (OpenSpec.ofChange fnExactNewThingSpec)

/-- ITS FALSE NEIGHBOUR: 'it returns false'. Refute it at one input. -/
def fnExactNewThingWrong : ChangeSpec := { name := "fnExactNewThing", fn := fun _ => fun
  | [d1, d2] => { results := [.lit (.bool false)], args := [d1, d2] }
  | _ => none }
def FnExactNewThingWrongFalsely : Prop := fnExactNewThingRow.holds Try.pinned (OpenSpec.ofChange fnExactNewThingWrong)

/-- 'laws.FnExactCleanHeap': WHATEVER THE INPUT: true; the input reads as it did. -/
def fnExactCleanHeapSpec : ChangeSpec := { name := "fnExactCleanHeap", fn := fun _ => fun
  | [d] => { results := [.lit (.bool true)], args := [d] }
  | _ => none }
def fnExactCleanHeapRow : OpenClaim := { program := "ytcjkkbbinieblaa", sum := "e71e0660c03593f4bc05b9fb411334ce535ec24033e6df20656339c02ce192fd", func := "loop.example/g00627/laws.FnExactCleanHeap", spec := "fnExactCleanHeap", unfollowed := true, recurses := true, apart := false }
def FnExactCleanHeapSaid : Prop := fnExactCleanHeapRow.holds Try.pinned (OpenSpec.ofChange fnExactCleanHeapSpec)

/-- ITS FALSE NEIGHBOUR: 'it returns false'. Refute it at one input. -/
def fnExactCleanHeapWrong : ChangeSpec := { name := "fnExactCleanHeap", fn := fun _ => fun
  | [d] => { results := [.lit (.bool false)], args := [d] }
  | _ => none }
def FnExactCleanHeapWrongFalsely : Prop := fnExactCleanHeapRow.holds Try.pinned (OpenSpec.ofChange fnExactCleanHeapWrong)

/-- 'laws.FnExactSetRoot': WHATEVER THE INPUT: true; the input reads as it did. -/
def fnExactSetRootSpec : ChangeSpec := { name := "fnExactSetRoot", fn := fun _ => fun
  | [d1, d2, d3] => { results := [.lit (.bool true)], args := [d1, d2, d3] }
  | _ => none }
def fnExactSetRootRow : OpenClaim := { program := "ytcjkkbbinieblaa", sum := "e71e0660c03593f4bc05b9fb411334ce535ec24033e6df20656339c02ce192fd", func := "loop.example/g00627/laws.FnExactSetRoot", spec := "fnExactSetRoot", apart := false }
def FnExactSetRootSaid : Prop := fnExactSetRootRow.holds Try.pinned (OpenSpec.ofChange fnExactSetRootSpec)

/-- ITS FALSE NEIGHBOUR: 'it returns false'. Refute it at one input. -/
def fnExactSetRootWrong : ChangeSpec := { name := "fnExactSetRoot", fn := fun _ => fun
  | [d1, d2, d3] => { results := [.lit (.bool false)], args := [d1, d2, d3] }
  | _ => none }
def FnExactSetRootWrongFalsely : Prop := fnExactSetRootRow.holds Try.pinned (OpenSpec.ofChange fnExactSetRootWrong)

/-- 'laws.FnExactSameReached': WHATEVER THE INPUT: true; the input reads as it did. -/
def fnExactSameReachedSpec : ChangeSpec := { name := "fnExactSameReached", fn := fun _ => fun
  | [d1, d2] => { results := [.lit (.bool true)], args := [d1, d2] }
  | _ => none }
def fnExactSameReachedRow : OpenClaim := { program := "ytcjkkbbinieblaa", sum := "e71e0660c03593f4bc05b9fb411334ce535ec24033e6df20656339c02ce192fd", func := "loop.example/g00627/laws.FnExactSameReached", spec := "fnExactSameReached", unfollowed := true, recurses := true, apart := false }
def FnExactSameReachedSaid : Prop := fnExactSameReachedRow.holds Try.pinned (OpenSpec.ofChange fnExactSameReachedSpec)

/-- ITS FALSE NEIGHBOUR: 'it returns false'. Refute it at one input. -/
def fnExactSameReachedWrong : ChangeSpec := { name := "fnExactSameReached", fn := fun _ => fun
  | [d1, d2] => { results := [.lit (.bool false)], args := [d1, d2] }
  | _ => none }
def FnExactSameReachedWrongFalsely : Prop := fnExactSameReachedRow.holds Try.pinned (OpenSpec.ofChange fnExactSameReachedWrong)

/- THE SECOND FORM. 'bulk': how many values and letters a reading holds, each counted each time it is reached (what is shared counts as often as it is met; a slice's spare places count too). A statement '..UptoSaid' is the law's where the arguments, and the package variables that the reading takes, are together of bulk at most 1048576: NARROWER than '..Said'. Prove '..Said' where nothing that the law and all that it calls make is longer than what came in: it says more and counts as full. Else prove '..UptoSaid'. A law counts once. -/
mutual
def uptoBulk {H : Type} : DataW H → Nat
  | .lit (.string bytes) => bytes.length + 1
  | .lit _ => 1
  | .nil => 1
  | .ptr d => uptoBulk d + 1
  | .slice elems spare => uptoBulkAll elems + uptoBulkAll spare + 1
  | .agg parts => uptoBulkAll parts + 1
  | .iface _ d => uptoBulk d + 1
  | .map entries => uptoBulkEntries entries + 1
  | .held _ => 1
def uptoBulkAll {H : Type} : List (DataW H) → Nat
  | [] => 0
  | d :: r => uptoBulk d + uptoBulkAll r
def uptoBulkEntries {H : Type} : List (Lit × DataW H) → Nat
  | [] => 0
  | x :: r => uptoBulkEntry x + uptoBulkEntries r
def uptoBulkEntry {H : Type} : Lit × DataW H → Nat
  | (.string bytes, d) => bytes.length + uptoBulk d + 1
  | (_, d) => uptoBulk d + 1
 end
def uptoSmall : (H : Type) → List (DataW H) → Bool := fun _ ds => decide (uptoBulkAll ds ≤ 1048576)
def OpenSpec.upto (s : _root_.Go.ChangeSpec) : _root_.Go.OpenSpec := { _root_.Go.OpenSpec.ofChange s with cond := some uptoSmall }

/-- 'laws.FnCleaned', WHERE WHAT IT READS IS OF BULK AT MOST 1048576: true; the input reads as it did. -/
def fnCleanedUptoRow : OpenClaim := { program := "ytcjkkbbinieblaa", sum := "e71e0660c03593f4bc05b9fb411334ce535ec24033e6df20656339c02ce192fd", func := "loop.example/g00627/laws.FnCleaned", spec := "fnCleaned", unfollowed := true, recurses := true, apart := false, narrowed := true }
def FnCleanedUptoSaid : Prop := fnCleanedUptoRow.holds Try.pinned (OpenSpec.upto fnCleanedSpec)

/-- 'laws.FnNamed', WHERE WHAT IT READS IS OF BULK AT MOST 1048576: true; the input reads as it did. -/
def fnNamedUptoRow : OpenClaim := { program := "ytcjkkbbinieblaa", sum := "e71e0660c03593f4bc05b9fb411334ce535ec24033e6df20656339c02ce192fd", func := "loop.example/g00627/laws.FnNamed", spec := "fnNamed", unfollowed := true, recurses := true, apart := false, narrowed := true }
def FnNamedUptoSaid : Prop := fnNamedUptoRow.holds Try.pinned (OpenSpec.upto fnNamedSpec)

/-- 'laws.FnExactGoodHeap', WHERE WHAT IT READS IS OF BULK AT MOST 1048576: true; the input reads as it did. -/
def fnExactGoodHeapUptoRow : OpenClaim := { program := "ytcjkkbbinieblaa", sum := "e71e0660c03593f4bc05b9fb411334ce535ec24033e6df20656339c02ce192fd", func := "loop.example/g00627/laws.FnExactGoodHeap", spec := "fnExactGoodHeap", apart := false, narrowed := true }
def FnExactGoodHeapUptoSaid : Prop := fnExactGoodHeapUptoRow.holds Try.pinned (OpenSpec.upto fnExactGoodHeapSpec)

/-- 'laws.FnExactReachedIn', WHERE WHAT IT READS IS OF BULK AT MOST 1048576: true; the input reads as it did. -/
def fnExactReachedInUptoRow : OpenClaim := { program := "ytcjkkbbinieblaa", sum := "e71e0660c03593f4bc05b9fb411334ce535ec24033e6df20656339c02ce192fd", func := "loop.example/g00627/laws.FnExactReachedIn", spec := "fnExactReachedIn", unfollowed := true, recurses := true, apart := false, narrowed := true }
def FnExactReachedInUptoSaid : Prop := fnExactReachedInUptoRow.holds Try.pinned (OpenSpec.upto fnExactReachedInSpec)

/-- 'laws.FnExactReachFrom', WHERE WHAT IT READS IS OF BULK AT MOST 1048576: true; the input reads as it did. -/
def fnExactReachFromUptoRow : OpenClaim := { program := "ytcjkkbbinieblaa", sum := "e71e0660c03593f4bc05b9fb411334ce535ec24033e6df20656339c02ce192fd", func := "loop.example/g00627/laws.FnExactReachFrom", spec := "fnExactReachFrom", unfollowed := true, recurses := true, apart := false, narrowed := true }
def FnExactReachFromUptoSaid : Prop := fnExactReachFromUptoRow.holds Try.pinned (OpenSpec.upto fnExactReachFromSpec)

/-- 'laws.FnExactSetField', WHERE WHAT IT READS IS OF BULK AT MOST 1048576: true; the input reads as it did. -/
def fnExactSetFieldUptoRow : OpenClaim := { program := "ytcjkkbbinieblaa", sum := "e71e0660c03593f4bc05b9fb411334ce535ec24033e6df20656339c02ce192fd", func := "loop.example/g00627/laws.FnExactSetField", spec := "fnExactSetField", apart := false, narrowed := true }
def FnExactSetFieldUptoSaid : Prop := fnExactSetFieldUptoRow.holds Try.pinned (OpenSpec.upto fnExactSetFieldSpec)

/-- 'laws.FnExactNewThing', WHERE WHAT IT READS IS OF BULK AT MOST 1048576: true; the input reads as it did. -/
def fnExactNewThingUptoRow : OpenClaim := { program := "ytcjkkbbinieblaa", sum := "e71e0660c03593f4bc05b9fb411334ce535ec24033e6df20656339c02ce192fd", func := "loop.example/g00627/laws.FnExactNewThing", spec := "fnExactNewThing", apart := false, narrowed := true }
def FnExactNewThingUptoSaid : Prop := fnExactNewThingUptoRow.holds Try.pinned (OpenSpec.upto fnExactNewThingSpec)

/-- 'laws.FnExactCleanHeap', WHERE WHAT IT READS IS OF BULK AT MOST 1048576: true; the input reads as it did. -/
def fnExactCleanHeapUptoRow : OpenClaim := { program := "ytcjkkbbinieblaa", sum := "e71e0660c03593f4bc05b9fb411334ce535ec24033e6df20656339c02ce192fd", func := "loop.example/g00627/laws.FnExactCleanHeap", spec := "fnExactCleanHeap", unfollowed := true, recurses := true, apart := false, narrowed := true }
def FnExactCleanHeapUptoSaid : Prop := fnExactCleanHeapUptoRow.holds Try.pinned (OpenSpec.upto fnExactCleanHeapSpec)

/-- 'laws.FnExactSetRoot', WHERE WHAT IT READS IS OF BULK AT MOST 1048576: true; the input reads as it did. -/
def fnExactSetRootUptoRow : OpenClaim := { program := "ytcjkkbbinieblaa", sum := "e71e0660c03593f4bc05b9fb411334ce535ec24033e6df20656339c02ce192fd", func := "loop.example/g00627/laws.FnExactSetRoot", spec := "fnExactSetRoot", apart := false, narrowed := true }
def FnExactSetRootUptoSaid : Prop := fnExactSetRootUptoRow.holds Try.pinned (OpenSpec.upto fnExactSetRootSpec)

/-- 'laws.FnExactSameReached', WHERE WHAT IT READS IS OF BULK AT MOST 1048576: true; the input reads as it did. -/
def fnExactSameReachedUptoRow : OpenClaim := { program := "ytcjkkbbinieblaa", sum := "e71e0660c03593f4bc05b9fb411334ce535ec24033e6df20656339c02ce192fd", func := "loop.example/g00627/laws.FnExactSameReached", spec := "fnExactSameReached", unfollowed := true, recurses := true, apart := false, narrowed := true }
def FnExactSameReachedUptoSaid : Prop := fnExactSameReachedUptoRow.holds Try.pinned (OpenSpec.upto fnExactSameReachedSpec)

end Rows
end Go.Proofs.Ytcjkkbbinieblaa
