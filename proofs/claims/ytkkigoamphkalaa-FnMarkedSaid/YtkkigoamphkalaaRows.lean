/-
  No cell of these rows narrows 'for every input' (looked for: loops, veiled, ifaces, maps, wideKeys, modest, calm, conditions, laid).
  DERIVED. THE GIVEN ROWS OF THIS SEAT. 11 by the template 'for every input the law returns true; each argument reads behind the call as it read before'; 0 by the template 'total and deterministic' (their statements: YtkkigoamphkalaaTotals.lean).
  GIVEN WITH THE SEED: the statements are not yours to turn. If you find one false, say at which input.
  Laid BY PROGRAM, IN A SANDBOX (cutbox-rows.mjs): the forced cells as the released guide's own fill.sh prints them over the translation d0edb0b9fff2885c… (all of the seat's roots in one cut). By AI agents, Wed Nov 11 2026. No macro, syntax, notation, axiom, sorry.
-/
import Derived.Test.YtkkigoamphkalaaChecked
import GoSem.Claim
import GoSem.ClaimJoined
import GoSem.ClaimMapViews
import Derived.JoinedTies
import Derived.KernelRfl
namespace Go.Proofs.Ytkkigoamphkalaa
/- THE CELL 'sum', in the pinned program and in every row, IS THE sha256 OF THE DUMP (.gsa) THAT YtkkigoamphkalaaProg.lean LOADS. Nothing in Lean hashes anything: it is a label: what it is worth is what the hold of that sum in a sandbox is worth. -/
noncomputable def Try.pinned : Pinned := { name := "ytkkigoamphkalaa", sum := "d0edb0b9fff2885c46f67a9cfcea226db8ef20a9b5bea601962c3df45952386b", checked := Try.checked }
namespace Rows
def none {H : Type} : Left H := { results := [], args := [] }

/-- 'laws.FnExactReachedIn': WHATEVER THE INPUT: true; the input reads as it did. -/
def fnExactReachedInSpec : ChangeSpec := { name := "fnExactReachedIn", fn := fun _ => fun
  | [d] => { results := [.lit (.bool true)], args := [d] }
  | _ => none }
def fnExactReachedInRow : OpenClaim := { program := "ytkkigoamphkalaa", sum := "d0edb0b9fff2885c46f67a9cfcea226db8ef20a9b5bea601962c3df45952386b", func := "loop.example/g00627/laws.FnExactReachedIn", spec := "fnExactReachedIn", unfollowed := true, recurses := true, apart := false }
def FnExactReachedInSaid : Prop := fnExactReachedInRow.holds Try.pinned (OpenSpec.ofChange fnExactReachedInSpec)

/-- ITS FALSE NEIGHBOUR: 'it returns false'. Refute it at one input. -/
def fnExactReachedInWrong : ChangeSpec := { name := "fnExactReachedIn", fn := fun _ => fun
  | [d] => { results := [.lit (.bool false)], args := [d] }
  | _ => none }
def FnExactReachedInWrongFalsely : Prop := fnExactReachedInRow.holds Try.pinned (OpenSpec.ofChange fnExactReachedInWrong)

/-- 'laws.FnExactReachFrom': WHATEVER THE INPUT: true; the input reads as it did. -/
def fnExactReachFromSpec : ChangeSpec := { name := "fnExactReachFrom", fn := fun _ => fun
  | [d1, d2] => { results := [.lit (.bool true)], args := [d1, d2] }
  | _ => none }
def fnExactReachFromRow : OpenClaim := { program := "ytkkigoamphkalaa", sum := "d0edb0b9fff2885c46f67a9cfcea226db8ef20a9b5bea601962c3df45952386b", func := "loop.example/g00627/laws.FnExactReachFrom", spec := "fnExactReachFrom", unfollowed := true, recurses := true, apart := false }
def FnExactReachFromSaid : Prop := fnExactReachFromRow.holds Try.pinned (OpenSpec.ofChange fnExactReachFromSpec)

/-- ITS FALSE NEIGHBOUR: 'it returns false'. Refute it at one input. -/
def fnExactReachFromWrong : ChangeSpec := { name := "fnExactReachFrom", fn := fun _ => fun
  | [d1, d2] => { results := [.lit (.bool false)], args := [d1, d2] }
  | _ => none }
def FnExactReachFromWrongFalsely : Prop := fnExactReachFromRow.holds Try.pinned (OpenSpec.ofChange fnExactReachFromWrong)

/-- 'laws.FnExactCleanHeap': WHATEVER THE INPUT: true; the input reads as it did. -/
def fnExactCleanHeapSpec : ChangeSpec := { name := "fnExactCleanHeap", fn := fun _ => fun
  | [d] => { results := [.lit (.bool true)], args := [d] }
  | _ => none }
def fnExactCleanHeapRow : OpenClaim := { program := "ytkkigoamphkalaa", sum := "d0edb0b9fff2885c46f67a9cfcea226db8ef20a9b5bea601962c3df45952386b", func := "loop.example/g00627/laws.FnExactCleanHeap", spec := "fnExactCleanHeap", unfollowed := true, recurses := true, apart := false }
def FnExactCleanHeapSaid : Prop := fnExactCleanHeapRow.holds Try.pinned (OpenSpec.ofChange fnExactCleanHeapSpec)

/-- ITS FALSE NEIGHBOUR: 'it returns false'. Refute it at one input. -/
def fnExactCleanHeapWrong : ChangeSpec := { name := "fnExactCleanHeap", fn := fun _ => fun
  | [d] => { results := [.lit (.bool false)], args := [d] }
  | _ => none }
def FnExactCleanHeapWrongFalsely : Prop := fnExactCleanHeapRow.holds Try.pinned (OpenSpec.ofChange fnExactCleanHeapWrong)

/-- 'laws.FnExactSameReached': WHATEVER THE INPUT: true; the input reads as it did. -/
def fnExactSameReachedSpec : ChangeSpec := { name := "fnExactSameReached", fn := fun _ => fun
  | [d1, d2] => { results := [.lit (.bool true)], args := [d1, d2] }
  | _ => none }
def fnExactSameReachedRow : OpenClaim := { program := "ytkkigoamphkalaa", sum := "d0edb0b9fff2885c46f67a9cfcea226db8ef20a9b5bea601962c3df45952386b", func := "loop.example/g00627/laws.FnExactSameReached", spec := "fnExactSameReached", unfollowed := true, recurses := true, apart := false }
def FnExactSameReachedSaid : Prop := fnExactSameReachedRow.holds Try.pinned (OpenSpec.ofChange fnExactSameReachedSpec)

/-- ITS FALSE NEIGHBOUR: 'it returns false'. Refute it at one input. -/
def fnExactSameReachedWrong : ChangeSpec := { name := "fnExactSameReached", fn := fun _ => fun
  | [d1, d2] => { results := [.lit (.bool false)], args := [d1, d2] }
  | _ => none }
def FnExactSameReachedWrongFalsely : Prop := fnExactSameReachedRow.holds Try.pinned (OpenSpec.ofChange fnExactSameReachedWrong)

/-- 'laws.FnExactLostIn': WHATEVER THE INPUT: true; the input reads as it did. -/
def fnExactLostInSpec : ChangeSpec := { name := "fnExactLostIn", fn := fun _ => fun
  | [d1, d2] => { results := [.lit (.bool true)], args := [d1, d2] }
  | _ => none }
def fnExactLostInRow : OpenClaim := { program := "ytkkigoamphkalaa", sum := "d0edb0b9fff2885c46f67a9cfcea226db8ef20a9b5bea601962c3df45952386b", func := "loop.example/g00627/laws.FnExactLostIn", spec := "fnExactLostIn", unfollowed := true, recurses := true, apart := false }
def FnExactLostInSaid : Prop := fnExactLostInRow.holds Try.pinned (OpenSpec.ofChange fnExactLostInSpec)

/-- ITS FALSE NEIGHBOUR: 'it returns false'. Refute it at one input. -/
def fnExactLostInWrong : ChangeSpec := { name := "fnExactLostIn", fn := fun _ => fun
  | [d1, d2] => { results := [.lit (.bool false)], args := [d1, d2] }
  | _ => none }
def FnExactLostInWrongFalsely : Prop := fnExactLostInRow.holds Try.pinned (OpenSpec.ofChange fnExactLostInWrong)

/-- 'laws.FnExactShadeLost': WHATEVER THE INPUT: true; the input reads as it did. -/
def fnExactShadeLostSpec : ChangeSpec := { name := "fnExactShadeLost", fn := fun _ => fun
  | [d1, d2] => { results := [.lit (.bool true)], args := [d1, d2] }
  | _ => none }
def fnExactShadeLostRow : OpenClaim := { program := "ytkkigoamphkalaa", sum := "d0edb0b9fff2885c46f67a9cfcea226db8ef20a9b5bea601962c3df45952386b", func := "loop.example/g00627/laws.FnExactShadeLost", spec := "fnExactShadeLost", unfollowed := true, recurses := true, apart := false }
def FnExactShadeLostSaid : Prop := fnExactShadeLostRow.holds Try.pinned (OpenSpec.ofChange fnExactShadeLostSpec)

/-- ITS FALSE NEIGHBOUR: 'it returns false'. Refute it at one input. -/
def fnExactShadeLostWrong : ChangeSpec := { name := "fnExactShadeLost", fn := fun _ => fun
  | [d1, d2] => { results := [.lit (.bool false)], args := [d1, d2] }
  | _ => none }
def FnExactShadeLostWrongFalsely : Prop := fnExactShadeLostRow.holds Try.pinned (OpenSpec.ofChange fnExactShadeLostWrong)

/-- 'laws.FnExactStepAges': WHATEVER THE INPUT: true; the input reads as it did. -/
def fnExactStepAgesSpec : ChangeSpec := { name := "fnExactStepAges", fn := fun _ => fun
  | [d1, d2] => { results := [.lit (.bool true)], args := [d1, d2] }
  | _ => none }
def fnExactStepAgesRow : OpenClaim := { program := "ytkkigoamphkalaa", sum := "d0edb0b9fff2885c46f67a9cfcea226db8ef20a9b5bea601962c3df45952386b", func := "loop.example/g00627/laws.FnExactStepAges", spec := "fnExactStepAges", inPlace := ["slices.overlaps[int]"], unfollowed := true, recurses := true, apart := false }
def FnExactStepAgesSaid : Prop := fnExactStepAgesRow.holds Try.pinned (OpenSpec.ofChange fnExactStepAgesSpec)

/-- ITS FALSE NEIGHBOUR: 'it returns false'. Refute it at one input. -/
def fnExactStepAgesWrong : ChangeSpec := { name := "fnExactStepAges", fn := fun _ => fun
  | [d1, d2] => { results := [.lit (.bool false)], args := [d1, d2] }
  | _ => none }
def FnExactStepAgesWrongFalsely : Prop := fnExactStepAgesRow.holds Try.pinned (OpenSpec.ofChange fnExactStepAgesWrong)

/-- 'laws.FnExactPlayAges': WHATEVER THE INPUT: true; the input reads as it did. -/
def fnExactPlayAgesSpec : ChangeSpec := { name := "fnExactPlayAges", fn := fun _ => fun
  | [d1, d2] => { results := [.lit (.bool true)], args := [d1, d2] }
  | _ => none }
def fnExactPlayAgesRow : OpenClaim := { program := "ytkkigoamphkalaa", sum := "d0edb0b9fff2885c46f67a9cfcea226db8ef20a9b5bea601962c3df45952386b", func := "loop.example/g00627/laws.FnExactPlayAges", spec := "fnExactPlayAges", inPlace := ["slices.overlaps[int]"], unfollowed := true, recurses := true, apart := false }
def FnExactPlayAgesSaid : Prop := fnExactPlayAgesRow.holds Try.pinned (OpenSpec.ofChange fnExactPlayAgesSpec)

/-- ITS FALSE NEIGHBOUR: 'it returns false'. Refute it at one input. -/
def fnExactPlayAgesWrong : ChangeSpec := { name := "fnExactPlayAges", fn := fun _ => fun
  | [d1, d2] => { results := [.lit (.bool false)], args := [d1, d2] }
  | _ => none }
def FnExactPlayAgesWrongFalsely : Prop := fnExactPlayAgesRow.holds Try.pinned (OpenSpec.ofChange fnExactPlayAgesWrong)

/-- 'laws.FnCleaned': WHATEVER THE INPUT: true; the input reads as it did. -/
def fnCleanedSpec : ChangeSpec := { name := "fnCleaned", fn := fun _ => fun
  | [d1, d2] => { results := [.lit (.bool true)], args := [d1, d2] }
  | _ => none }
def fnCleanedRow : OpenClaim := { program := "ytkkigoamphkalaa", sum := "d0edb0b9fff2885c46f67a9cfcea226db8ef20a9b5bea601962c3df45952386b", func := "loop.example/g00627/laws.FnCleaned", spec := "fnCleaned", unfollowed := true, recurses := true, apart := false }
def FnCleanedSaid : Prop := fnCleanedRow.holds Try.pinned (OpenSpec.ofChange fnCleanedSpec)

/-- ITS FALSE NEIGHBOUR: 'it returns false'. Refute it at one input. -/
def fnCleanedWrong : ChangeSpec := { name := "fnCleaned", fn := fun _ => fun
  | [d1, d2] => { results := [.lit (.bool false)], args := [d1, d2] }
  | _ => none }
def FnCleanedWrongFalsely : Prop := fnCleanedRow.holds Try.pinned (OpenSpec.ofChange fnCleanedWrong)

/-- 'laws.FnNamed': WHATEVER THE INPUT: true; the input reads as it did. -/
def fnNamedSpec : ChangeSpec := { name := "fnNamed", fn := fun _ => fun
  | [d1, d2] => { results := [.lit (.bool true)], args := [d1, d2] }
  | _ => none }
def fnNamedRow : OpenClaim := { program := "ytkkigoamphkalaa", sum := "d0edb0b9fff2885c46f67a9cfcea226db8ef20a9b5bea601962c3df45952386b", func := "loop.example/g00627/laws.FnNamed", spec := "fnNamed", unfollowed := true, recurses := true, apart := false }
def FnNamedSaid : Prop := fnNamedRow.holds Try.pinned (OpenSpec.ofChange fnNamedSpec)

/-- ITS FALSE NEIGHBOUR: 'it returns false'. Refute it at one input. -/
def fnNamedWrong : ChangeSpec := { name := "fnNamed", fn := fun _ => fun
  | [d1, d2] => { results := [.lit (.bool false)], args := [d1, d2] }
  | _ => none }
def FnNamedWrongFalsely : Prop := fnNamedRow.holds Try.pinned (OpenSpec.ofChange fnNamedWrong)

/-- 'laws.FnMarked': WHATEVER THE INPUT: true; the input reads as it did. -/
def fnMarkedSpec : ChangeSpec := { name := "fnMarked", fn := fun _ => fun
  | [d1, d2] => { results := [.lit (.bool true)], args := [d1, d2] }
  | _ => none }
def fnMarkedRow : OpenClaim := { program := "ytkkigoamphkalaa", sum := "d0edb0b9fff2885c46f67a9cfcea226db8ef20a9b5bea601962c3df45952386b", func := "loop.example/g00627/laws.FnMarked", spec := "fnMarked", unfollowed := true, recurses := true, apart := false }
def FnMarkedSaid : Prop := fnMarkedRow.holds Try.pinned (OpenSpec.ofChange fnMarkedSpec)

/-- ITS FALSE NEIGHBOUR: 'it returns false'. Refute it at one input. -/
def fnMarkedWrong : ChangeSpec := { name := "fnMarked", fn := fun _ => fun
  | [d1, d2] => { results := [.lit (.bool false)], args := [d1, d2] }
  | _ => none }
def FnMarkedWrongFalsely : Prop := fnMarkedRow.holds Try.pinned (OpenSpec.ofChange fnMarkedWrong)

/- THE SECOND FORM. 'bulk': how many values and letters a reading holds, each counted each time it is reached (what is shared counts as often as it is met; a slice's spare places count too). A statement '..UptoSaid' is the law's where the arguments, and the package variables that the reading takes, are together of bulk at most 1048576: NARROWER than '..Said'. Prove '..Said' where nothing that the law and all that it calls make is longer than what came in: it says more and counts as full. Else prove '..UptoSaid'. A law counts once. -/
mutual
def uptoBulk {H : Type} : DataW H → Nat
  | .lit (.string bytes) => bytes.length + 1
  | .lit _ => 1
  | .nil => 1
  | .ptr d => uptoBulk d + 1
  | .slice elems spare => uptoBulkAll elems + uptoBulkAll spare + 1
  | .agg parts => uptoBulkAll parts + 1
  | .iface _ d => uptoBulk d + 1
  | .map entries => uptoBulkEntries entries + 1
  | .held _ => 1
def uptoBulkAll {H : Type} : List (DataW H) → Nat
  | [] => 0
  | d :: r => uptoBulk d + uptoBulkAll r
def uptoBulkEntries {H : Type} : List (Lit × DataW H) → Nat
  | [] => 0
  | x :: r => uptoBulkEntry x + uptoBulkEntries r
def uptoBulkEntry {H : Type} : Lit × DataW H → Nat
  | (.string bytes, d) => bytes.length + uptoBulk d + 1
  | (_, d) => uptoBulk d + 1
 end
def uptoSmall : (H : Type) → List (DataW H) → Bool := fun _ ds => decide (uptoBulkAll ds ≤ 1048576)
def OpenSpec.upto (s : _root_.Go.ChangeSpec) : _root_.Go.OpenSpec := { _root_.Go.OpenSpec.ofChange s with cond := some uptoSmall }

/-- 'laws.FnExactReachedIn', WHERE WHAT IT READS IS OF BULK AT MOST 1048576: true; the input reads as it did. -/
def fnExactReachedInUptoRow : OpenClaim := { program := "ytkkigoamphkalaa", sum := "d0edb0b9fff2885c46f67a9cfcea226db8ef20a9b5bea601962c3df45952386b", func := "loop.example/g00627/laws.FnExactReachedIn", spec := "fnExactReachedIn", unfollowed := true, recurses := true, apart := false, narrowed := true }
def FnExactReachedInUptoSaid : Prop := fnExactReachedInUptoRow.holds Try.pinned (OpenSpec.upto fnExactReachedInSpec)

/-- 'laws.FnExactReachFrom', WHERE WHAT IT READS IS OF BULK AT MOST 1048576: true; the input reads as it did. -/
def fnExactReachFromUptoRow : OpenClaim := { program := "ytkkigoamphkalaa", sum := "d0edb0b9fff2885c46f67a9cfcea226db8ef20a9b5bea601962c3df45952386b", func := "loop.example/g00627/laws.FnExactReachFrom", spec := "fnExactReachFrom", unfollowed := true, recurses := true, apart := false, narrowed := true }
def FnExactReachFromUptoSaid : Prop := fnExactReachFromUptoRow.holds Try.pinned (OpenSpec.upto fnExactReachFromSpec)

/-- 'laws.FnExactCleanHeap', WHERE WHAT IT READS IS OF BULK AT MOST 1048576: true; the input reads as it did. -/
def fnExactCleanHeapUptoRow : OpenClaim := { program := "ytkkigoamphkalaa", sum := "d0edb0b9fff2885c46f67a9cfcea226db8ef20a9b5bea601962c3df45952386b", func := "loop.example/g00627/laws.FnExactCleanHeap", spec := "fnExactCleanHeap", unfollowed := true, recurses := true, apart := false, narrowed := true }
def FnExactCleanHeapUptoSaid : Prop := fnExactCleanHeapUptoRow.holds Try.pinned (OpenSpec.upto fnExactCleanHeapSpec)

/-- 'laws.FnExactSameReached', WHERE WHAT IT READS IS OF BULK AT MOST 1048576: true; the input reads as it did. -/
def fnExactSameReachedUptoRow : OpenClaim := { program := "ytkkigoamphkalaa", sum := "d0edb0b9fff2885c46f67a9cfcea226db8ef20a9b5bea601962c3df45952386b", func := "loop.example/g00627/laws.FnExactSameReached", spec := "fnExactSameReached", unfollowed := true, recurses := true, apart := false, narrowed := true }
def FnExactSameReachedUptoSaid : Prop := fnExactSameReachedUptoRow.holds Try.pinned (OpenSpec.upto fnExactSameReachedSpec)

/-- 'laws.FnExactLostIn', WHERE WHAT IT READS IS OF BULK AT MOST 1048576: true; the input reads as it did. -/
def fnExactLostInUptoRow : OpenClaim := { program := "ytkkigoamphkalaa", sum := "d0edb0b9fff2885c46f67a9cfcea226db8ef20a9b5bea601962c3df45952386b", func := "loop.example/g00627/laws.FnExactLostIn", spec := "fnExactLostIn", unfollowed := true, recurses := true, apart := false, narrowed := true }
def FnExactLostInUptoSaid : Prop := fnExactLostInUptoRow.holds Try.pinned (OpenSpec.upto fnExactLostInSpec)

/-- 'laws.FnExactShadeLost', WHERE WHAT IT READS IS OF BULK AT MOST 1048576: true; the input reads as it did. -/
def fnExactShadeLostUptoRow : OpenClaim := { program := "ytkkigoamphkalaa", sum := "d0edb0b9fff2885c46f67a9cfcea226db8ef20a9b5bea601962c3df45952386b", func := "loop.example/g00627/laws.FnExactShadeLost", spec := "fnExactShadeLost", unfollowed := true, recurses := true, apart := false, narrowed := true }
def FnExactShadeLostUptoSaid : Prop := fnExactShadeLostUptoRow.holds Try.pinned (OpenSpec.upto fnExactShadeLostSpec)

/-- 'laws.FnExactStepAges', WHERE WHAT IT READS IS OF BULK AT MOST 1048576: true; the input reads as it did. -/
def fnExactStepAgesUptoRow : OpenClaim := { program := "ytkkigoamphkalaa", sum := "d0edb0b9fff2885c46f67a9cfcea226db8ef20a9b5bea601962c3df45952386b", func := "loop.example/g00627/laws.FnExactStepAges", spec := "fnExactStepAges", inPlace := ["slices.overlaps[int]"], unfollowed := true, recurses := true, apart := false, narrowed := true }
def FnExactStepAgesUptoSaid : Prop := fnExactStepAgesUptoRow.holds Try.pinned (OpenSpec.upto fnExactStepAgesSpec)

/-- 'laws.FnExactPlayAges', WHERE WHAT IT READS IS OF BULK AT MOST 1048576: true; the input reads as it did. -/
def fnExactPlayAgesUptoRow : OpenClaim := { program := "ytkkigoamphkalaa", sum := "d0edb0b9fff2885c46f67a9cfcea226db8ef20a9b5bea601962c3df45952386b", func := "loop.example/g00627/laws.FnExactPlayAges", spec := "fnExactPlayAges", inPlace := ["slices.overlaps[int]"], unfollowed := true, recurses := true, apart := false, narrowed := true }
def FnExactPlayAgesUptoSaid : Prop := fnExactPlayAgesUptoRow.holds Try.pinned (OpenSpec.upto fnExactPlayAgesSpec)

/-- 'laws.FnCleaned', WHERE WHAT IT READS IS OF BULK AT MOST 1048576: true; the input reads as it did. -/
def fnCleanedUptoRow : OpenClaim := { program := "ytkkigoamphkalaa", sum := "d0edb0b9fff2885c46f67a9cfcea226db8ef20a9b5bea601962c3df45952386b", func := "loop.example/g00627/laws.FnCleaned", spec := "fnCleaned", unfollowed := true, recurses := true, apart := false, narrowed := true }
def FnCleanedUptoSaid : Prop := fnCleanedUptoRow.holds Try.pinned (OpenSpec.upto fnCleanedSpec)

/-- 'laws.FnNamed', WHERE WHAT IT READS IS OF BULK AT MOST 1048576: true; the input reads as it did. -/
def fnNamedUptoRow : OpenClaim := { program := "ytkkigoamphkalaa", sum := "d0edb0b9fff2885c46f67a9cfcea226db8ef20a9b5bea601962c3df45952386b", func := "loop.example/g00627/laws.FnNamed", spec := "fnNamed", unfollowed := true, recurses := true, apart := false, narrowed := true }
def FnNamedUptoSaid : Prop := fnNamedUptoRow.holds Try.pinned (OpenSpec.upto fnNamedSpec)

/-- 'laws.FnMarked', WHERE WHAT IT READS IS OF BULK AT MOST 1048576: true; the input reads as it did. -/
def fnMarkedUptoRow : OpenClaim := { program := "ytkkigoamphkalaa", sum := "d0edb0b9fff2885c46f67a9cfcea226db8ef20a9b5bea601962c3df45952386b", func := "loop.example/g00627/laws.FnMarked", spec := "fnMarked", unfollowed := true, recurses := true, apart := false, narrowed := true }
def FnMarkedUptoSaid : Prop := fnMarkedUptoRow.holds Try.pinned (OpenSpec.upto fnMarkedSpec)

end Rows
end Go.Proofs.Ytkkigoamphkalaa
