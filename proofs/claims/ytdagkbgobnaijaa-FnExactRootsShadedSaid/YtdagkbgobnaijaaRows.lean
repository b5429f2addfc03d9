/-
  No cell of these rows narrows 'for every input' (looked for: loops, veiled, ifaces, maps, wideKeys, modest, calm, conditions, laid).
  DERIVED. THE GIVEN ROWS OF THIS SEAT. 12 by the template 'for every input the law returns true; each argument reads behind the call as it read before'; 0 by the template 'total and deterministic' (their statements: YtdagkbgobnaijaaTotals.lean).
  GIVEN WITH THE SEED: the statements are not yours to turn. If you find one false, say at which input.
  Laid BY PROGRAM, IN A SANDBOX (cutbox-rows.mjs): the forced cells as the released guide's own fill.sh prints them over the translation 0ab6f11f4256be59… (all of the seat's roots in one cut). By AI agents, Wed Nov 11 2026. No macro, syntax, notation, axiom, sorry.
-/
import Derived.Test.YtdagkbgobnaijaaChecked
import GoSem.Claim
import GoSem.ClaimJoined
import GoSem.ClaimMapViews
import Derived.JoinedTies
import Derived.KernelRfl
namespace Go.Proofs.Ytdagkbgobnaijaa
/- THE CELL 'sum', in the pinned program and in every row, IS THE sha256 OF THE DUMP (.gsa) THAT YtdagkbgobnaijaaProg.lean LOADS. Nothing in Lean hashes anything: it is a label: what it is worth is what the hold of that sum in a sandbox is worth. -/
noncomputable def Try.pinned : Pinned := { name := "ytdagkbgobnaijaa", sum := "0ab6f11f4256be597c57844908b1765e229c51abe7242a8989c5a3c884233a1a", checked := Try.checked }
namespace Rows
def none {H : Type} : Left H := { results := [], args := [] }

/-- 'laws.FnExactStepBySnapshot': WHATEVER THE INPUT: true; the input reads as it did. -/
def fnExactStepBySnapshotSpec : ChangeSpec := { name := "fnExactStepBySnapshot", fn := fun _ => fun
  | [d1, d2] => { results := [.lit (.bool true)], args := [d1, d2] }
  | _ => none }
def fnExactStepBySnapshotRow : OpenClaim := { program := "ytdagkbgobnaijaa", sum := "0ab6f11f4256be597c57844908b1765e229c51abe7242a8989c5a3c884233a1a", func := "loop.example/g00627/laws.FnExactStepBySnapshot", spec := "fnExactStepBySnapshot", unfollowed := true, recurses := true, apart := false }
def FnExactStepBySnapshotSaid : Prop := fnExactStepBySnapshotRow.holds Try.pinned (OpenSpec.ofChange fnExactStepBySnapshotSpec)

/-- ITS FALSE NEIGHBOUR: 'it returns false'. Refute it at one input. -/
def fnExactStepBySnapshotWrong : ChangeSpec := { name := "fnExactStepBySnapshot", fn := fun _ => fun
  | [d1, d2] => { results := [.lit (.bool false)], args := [d1, d2] }
  | _ => none }
def FnExactStepBySnapshotWrongFalsely : Prop := fnExactStepBySnapshotRow.holds Try.pinned (OpenSpec.ofChange fnExactStepBySnapshotWrong)

/-- 'laws.FnExactStepByPut': WHATEVER THE INPUT: true; the input reads as it did. -/
def fnExactStepByPutSpec : ChangeSpec := { name := "fnExactStepByPut", fn := fun _ => fun
  | [d1, d2] => { results := [.lit (.bool true)], args := [d1, d2] }
  | _ => none }
def fnExactStepByPutRow : OpenClaim := { program := "ytdagkbgobnaijaa", sum := "0ab6f11f4256be597c57844908b1765e229c51abe7242a8989c5a3c884233a1a", func := "loop.example/g00627/laws.FnExactStepByPut", spec := "fnExactStepByPut", unfollowed := true, recurses := true, apart := false }
def FnExactStepByPutSaid : Prop := fnExactStepByPutRow.holds Try.pinned (OpenSpec.ofChange fnExactStepByPutSpec)

/-- ITS FALSE NEIGHBOUR: 'it returns false'. Refute it at one input. -/
def fnExactStepByPutWrong : ChangeSpec := { name := "fnExactStepByPut", fn := fun _ => fun
  | [d1, d2] => { results := [.lit (.bool false)], args := [d1, d2] }
  | _ => none }
def FnExactStepByPutWrongFalsely : Prop := fnExactStepByPutRow.holds Try.pinned (OpenSpec.ofChange fnExactStepByPutWrong)

/-- 'laws.FnExactPlayMarking': WHATEVER THE INPUT: true; the input reads as it did. -/
def fnExactPlayMarkingSpec : ChangeSpec := { name := "fnExactPlayMarking", fn := fun _ => fun
  | [d1, d2, d3] => { results := [.lit (.bool true)], args := [d1, d2, d3] }
  | _ => none }
def fnExactPlayMarkingRow : OpenClaim := { program := "ytdagkbgobnaijaa", sum := "0ab6f11f4256be597c57844908b1765e229c51abe7242a8989c5a3c884233a1a", func := "loop.example/g00627/laws.FnExactPlayMarking", spec := "fnExactPlayMarking", unfollowed := true, recurses := true, apart := false }
def FnExactPlayMarkingSaid : Prop := fnExactPlayMarkingRow.holds Try.pinned (OpenSpec.ofChange fnExactPlayMarkingSpec)

/-- ITS FALSE NEIGHBOUR: 'it returns false'. Refute it at one input. -/
def fnExactPlayMarkingWrong : ChangeSpec := { name := "fnExactPlayMarking", fn := fun _ => fun
  | [d1, d2, d3] => { results := [.lit (.bool false)], args := [d1, d2, d3] }
  | _ => none }
def FnExactPlayMarkingWrongFalsely : Prop := fnExactPlayMarkingRow.holds Try.pinned (OpenSpec.ofChange fnExactPlayMarkingWrong)

/-- 'laws.FnExactEndMarking': WHATEVER THE INPUT: true; the input reads as it did. -/
def fnExactEndMarkingSpec : ChangeSpec := { name := "fnExactEndMarking", fn := fun _ => fun
  | [d1, d2] => { results := [.lit (.bool true)], args := [d1, d2] }
  | _ => none }
def fnExactEndMarkingRow : OpenClaim := { program := "ytdagkbgobnaijaa", sum := "0ab6f11f4256be597c57844908b1765e229c51abe7242a8989c5a3c884233a1a", func := "loop.example/g00627/laws.FnExactEndMarking", spec := "fnExactEndMarking", unfollowed := true, recurses := true, apart := false }
def FnExactEndMarkingSaid : Prop := fnExactEndMarkingRow.holds Try.pinned (OpenSpec.ofChange fnExactEndMarkingSpec)

/-- ITS FALSE NEIGHBOUR: 'it returns false'. Refute it at one input. -/
def fnExactEndMarkingWrong : ChangeSpec := { name := "fnExactEndMarking", fn := fun _ => fun
  | [d1, d2] => { results := [.lit (.bool false)], args := [d1, d2] }
  | _ => none }
def FnExactEndMarkingWrongFalsely : Prop := fnExactEndMarkingRow.holds Try.pinned (OpenSpec.ofChange fnExactEndMarkingWrong)

/-- 'laws.FnExactWeakIn': WHATEVER THE INPUT: true; the input reads as it did. -/
def fnExactWeakInSpec : ChangeSpec := { name := "fnExactWeakIn", fn := fun _ => fun
  | [d1, d2] => { results := [.lit (.bool true)], args := [d1, d2] }
  | _ => none }
def fnExactWeakInRow : OpenClaim := { program := "ytdagkbgobnaijaa", sum := "0ab6f11f4256be597c57844908b1765e229c51abe7242a8989c5a3c884233a1a", func := "loop.example/g00627/laws.FnExactWeakIn", spec := "fnExactWeakIn", unfollowed := true, recurses := true, apart := false }
def FnExactWeakInSaid : Prop := fnExactWeakInRow.holds Try.pinned (OpenSpec.ofChange fnExactWeakInSpec)

/-- ITS FALSE NEIGHBOUR: 'it returns false'. Refute it at one input. -/
def fnExactWeakInWrong : ChangeSpec := { name := "fnExactWeakIn", fn := fun _ => fun
  | [d1, d2] => { results := [.lit (.bool false)], args := [d1, d2] }
  | _ => none }
def FnExactWeakInWrongFalsely : Prop := fnExactWeakInRow.holds Try.pinned (OpenSpec.ofChange fnExactWeakInWrong)

/-- 'laws.FnExactLostIn': WHATEVER THE INPUT: true; the input reads as it did. -/
def fnExactLostInSpec : ChangeSpec := { name := "fnExactLostIn", fn := fun _ => fun
  | [d1, d2] => { results := [.lit (.bool true)], args := [d1, d2] }
  | _ => none }
def fnExactLostInRow : OpenClaim := { program := "ytdagkbgobnaijaa", sum := "0ab6f11f4256be597c57844908b1765e229c51abe7242a8989c5a3c884233a1a", func := "loop.example/g00627/laws.FnExactLostIn", spec := "fnExactLostIn", unfollowed := true, recurses := true, apart := false }
def FnExactLostInSaid : Prop := fnExactLostInRow.holds Try.pinned (OpenSpec.ofChange fnExactLostInSpec)

/-- ITS FALSE NEIGHBOUR: 'it returns false'. Refute it at one input. -/
def fnExactLostInWrong : ChangeSpec := { name := "fnExactLostIn", fn := fun _ => fun
  | [d1, d2] => { results := [.lit (.bool false)], args := [d1, d2] }
  | _ => none }
def FnExactLostInWrongFalsely : Prop := fnExactLostInRow.holds Try.pinned (OpenSpec.ofChange fnExactLostInWrong)

/-- 'laws.FnExactGoOn': WHATEVER THE INPUT: true; the input reads as it did. -/
def fnExactGoOnSpec : ChangeSpec := { name := "fnExactGoOn", fn := fun _ => fun
  | [d1, d2] => { results := [.lit (.bool true)], args := [d1, d2] }
  | _ => none }
def fnExactGoOnRow : OpenClaim := { program := "ytdagkbgobnaijaa", sum := "0ab6f11f4256be597c57844908b1765e229c51abe7242a8989c5a3c884233a1a", func := "loop.example/g00627/laws.FnExactGoOn", spec := "fnExactGoOn", unfollowed := true, recurses := true, apart := false }
def FnExactGoOnSaid : Prop := fnExactGoOnRow.holds Try.pinned (OpenSpec.ofChange fnExactGoOnSpec)

/-- ITS FALSE NEIGHBOUR: 'it returns false'. Refute it at one input. -/
def fnExactGoOnWrong : ChangeSpec := { name := "fnExactGoOn", fn := fun _ => fun
  | [d1, d2] => { results := [.lit (.bool false)], args := [d1, d2] }
  | _ => none }
def FnExactGoOnWrongFalsely : Prop := fnExactGoOnRow.holds Try.pinned (OpenSpec.ofChange fnExactGoOnWrong)

/-- 'laws.FnExactGuardedBy': WHATEVER THE INPUT: true; the input reads as it did. -/
def fnExactGuardedBySpec : ChangeSpec := { name := "fnExactGuardedBy", fn := fun _ => fun
  | [d1, d2] => { results := [.lit (.bool true)], args := [d1, d2] }
  | _ => none }
def fnExactGuardedByRow : OpenClaim := { program := "ytdagkbgobnaijaa", sum := "0ab6f11f4256be597c57844908b1765e229c51abe7242a8989c5a3c884233a1a", func := "loop.example/g00627/laws.FnExactGuardedBy", spec := "fnExactGuardedBy", apart := false }
def FnExactGuardedBySaid : Prop := fnExactGuardedByRow.holds Try.pinned (OpenSpec.ofChange fnExactGuardedBySpec)

/-- ITS FALSE NEIGHBOUR: 'it returns false'. Refute it at one input. -/
def fnExactGuardedByWrong : ChangeSpec := { name := "fnExactGuardedBy", fn := fun _ => fun
  | [d1, d2] => { results := [.lit (.bool false)], args := [d1, d2] }
  | _ => none }
def FnExactGuardedByWrongFalsely : Prop := fnExactGuardedByRow.holds Try.pinned (OpenSpec.ofChange fnExactGuardedByWrong)

/-- 'laws.FnExactRootsShaded': WHATEVER THE INPUT: true; the input reads as it did. -/
def fnExactRootsShadedSpec : ChangeSpec := { name := "fnExactRootsShaded", fn := fun _ => fun
  | [d1, d2] => { results := [.lit (.bool true)], args := [d1, d2] }
  | _ => none }
def fnExactRootsShadedRow : OpenClaim := { program := "ytdagkbgobnaijaa", sum := "0ab6f11f4256be597c57844908b1765e229c51abe7242a8989c5a3c884233a1a", func := "loop.example/g00627/laws.FnExactRootsShaded", spec := "fnExactRootsShaded", unfollowed := true, recurses := true, apart := false }
def FnExactRootsShadedSaid : Prop := fnExactRootsShadedRow.holds Try.pinned (OpenSpec.ofChange fnExactRootsShadedSpec)

/-- ITS FALSE NEIGHBOUR: 'it returns false'. Refute it at one input. -/
def fnExactRootsShadedWrong : ChangeSpec := { name := "fnExactRootsShaded", fn := fun _ => fun
  | [d1, d2] => { results := [.lit (.bool false)], args := [d1, d2] }
  | _ => none }
def FnExactRootsShadedWrongFalsely : Prop := fnExactRootsShadedRow.holds Try.pinned (OpenSpec.ofChange fnExactRootsShadedWrong)

/-- 'laws.FnExactShadeLost': WHATEVER THE INPUT: true; the input reads as it did. -/
def fnExactShadeLostSpec : ChangeSpec := { name := "fnExactShadeLost", fn := fun _ => fun
  | [d1, d2] => { results := [.lit (.bool true)], args := [d1, d2] }
  | _ => none }
def fnExactShadeLostRow : OpenClaim := { program := "ytdagkbgobnaijaa", sum := "0ab6f11f4256be597c57844908b1765e229c51abe7242a8989c5a3c884233a1a", func := "loop.example/g00627/laws.FnExactShadeLost", spec := "fnExactShadeLost", unfollowed := true, recurses := true, apart := false }
def FnExactShadeLostSaid : Prop := fnExactShadeLostRow.holds Try.pinned (OpenSpec.ofChange fnExactShadeLostSpec)

/-- ITS FALSE NEIGHBOUR: 'it returns false'. Refute it at one input. -/
def fnExactShadeLostWrong : ChangeSpec := { name := "fnExactShadeLost", fn := fun _ => fun
  | [d1, d2] => { results := [.lit (.bool false)], args := [d1, d2] }
  | _ => none }
def FnExactShadeLostWrongFalsely : Prop := fnExactShadeLostRow.holds Try.pinned (OpenSpec.ofChange fnExactShadeLostWrong)

/-- 'laws.FnExactBehindGreys': WHATEVER THE INPUT: true; the input reads as it did. -/
def fnExactBehindGreysSpec : ChangeSpec := { name := "fnExactBehindGreys", fn := fun _ => fun
  | [d1, d2] => { results := [.lit (.bool true)], args := [d1, d2] }
  | _ => none }
def fnExactBehindGreysRow : OpenClaim := { program := "ytdagkbgobnaijaa", sum := "0ab6f11f4256be597c57844908b1765e229c51abe7242a8989c5a3c884233a1a", func := "loop.example/g00627/laws.FnExactBehindGreys", spec := "fnExactBehindGreys", apart := false }
def FnExactBehindGreysSaid : Prop := fnExactBehindGreysRow.holds Try.pinned (OpenSpec.ofChange fnExactBehindGreysSpec)

/-- ITS FALSE NEIGHBOUR: 'it returns false'. Refute it at one input. -/
def fnExactBehindGreysWrong : ChangeSpec := { name := "fnExactBehindGreys", fn := fun _ => fun
  | [d1, d2] => { results := [.lit (.bool false)], args := [d1, d2] }
  | _ => none }
def FnExactBehindGreysWrongFalsely : Prop := fnExactBehindGreysRow.holds Try.pinned (OpenSpec.ofChange fnExactBehindGreysWrong)

/-- 'laws.FnExactMarkAll': WHATEVER THE INPUT: true; the input reads as it did. -/
def fnExactMarkAllSpec : ChangeSpec := { name := "fnExactMarkAll", fn := fun _ => fun
  | [d1, d2] => { results := [.lit (.bool true)], args := [d1, d2] }
  | _ => none }
def fnExactMarkAllRow : OpenClaim := { program := "ytdagkbgobnaijaa", sum := "0ab6f11f4256be597c57844908b1765e229c51abe7242a8989c5a3c884233a1a", func := "loop.example/g00627/laws.FnExactMarkAll", spec := "fnExactMarkAll", unfollowed := true, recurses := true, apart := false }
def FnExactMarkAllSaid : Prop := fnExactMarkAllRow.holds Try.pinned (OpenSpec.ofChange fnExactMarkAllSpec)

/-- ITS FALSE NEIGHBOUR: 'it returns false'. Refute it at one input. -/
def fnExactMarkAllWrong : ChangeSpec := { name := "fnExactMarkAll", fn := fun _ => fun
  | [d1, d2] => { results := [.lit (.bool false)], args := [d1, d2] }
  | _ => none }
def FnExactMarkAllWrongFalsely : Prop := fnExactMarkAllRow.holds Try.pinned (OpenSpec.ofChange fnExactMarkAllWrong)

/- THE SECOND FORM. 'bulk': how many values and letters a reading holds, each counted each time it is reached (what is shared counts as often as it is met; a slice's spare places count too). A statement '..UptoSaid' is the law's where the arguments, and the package variables that the reading takes, are together of bulk at most 1048576: NARROWER than '..Said'. Prove '..Said' where nothing that the law and all that it calls make is longer than what came in: it says more and counts as full. Else prove '..UptoSaid'. A law counts once. -/
mutual
def uptoBulk {H : Type} : DataW H → Nat
  | .lit (.string bytes) => bytes.length + 1
  | .lit _ => 1
  | .nil => 1
  | .ptr d => uptoBulk d + 1
  | .slice elems spare => uptoBulkAll elems + uptoBulkAll spare + 1
  | .agg parts => uptoBulkAll parts + 1
  | .iface _ d => uptoBulk d + 1
  | .map entries => uptoBulkEntries entries + 1
  | .held _ => 1
def uptoBulkAll {H : Type} : List (DataW H) → Nat
  | [] => 0
  | d :: r => uptoBulk d + uptoBulkAll r
def uptoBulkEntries {H : Type} : List (Lit × DataW H) → Nat
  | [] => 0
  | x :: r => uptoBulkEntry x + uptoBulkEntries r
def uptoBulkEntry {H : Type} : Lit × DataW H → Nat
  | (.string bytes, d) => bytes.length + uptoBulk d + 1
  | (_, d) => uptoBulk d + 1
 end
def uptoSmall : (H : Type) → List (DataW H) → Bool := fun _ ds => decide (uptoBulkAll ds ≤ 1048576)
def OpenSpec.upto (s : _root_.Go.ChangeSpec) : _root_.Go.OpenSpec := { _root_.Go.OpenSpec.ofChange s with cond := some uptoSmall }

/-- 'laws.FnExactStepBySnapshot', WHERE WHAT IT READS IS OF BULK AT MOST 1048576: true; the input reads as it did. -/
def fnExactStepBySnapshotUptoRow : OpenClaim := { program := "ytdagkbgobnaijaa", sum := "0ab6f11f4256be597c57844908b1765e229c51abe7242a8989c5a3c884233a1a", func := "loop.example/g00627/laws.FnExactStepBySnapshot", spec := "fnExactStepBySnapshot", unfollowed := true, recurses := true, apart := false, narrowed := true }
def FnExactStepBySnapshotUptoSaid : Prop := fnExactStepBySnapshotUptoRow.holds Try.pinned (OpenSpec.upto fnExactStepBySnapshotSpec)

/-- 'laws.FnExactStepByPut', WHERE WHAT IT READS IS OF BULK AT MOST 1048576: true; the input reads as it did. -/
def fnExactStepByPutUptoRow : OpenClaim := { program := "ytdagkbgobnaijaa", sum := "0ab6f11f4256be597c57844908b1765e229c51abe7242a8989c5a3c884233a1a", func := "loop.example/g00627/laws.FnExactStepByPut", spec := "fnExactStepByPut", unfollowed := true, recurses := true, apart := false, narrowed := true }
def FnExactStepByPutUptoSaid : Prop := fnExactStepByPutUptoRow.holds Try.pinned (OpenSpec.upto fnExactStepByPutSpec)

/-- 'laws.FnExactPlayMarking', WHERE WHAT IT READS IS OF BULK AT MOST 1048576: true; the input reads as it did. -/
def fnExactPlayMarkingUptoRow : OpenClaim := { program := "ytdagkbgobnaijaa", sum := "0ab6f11f4256be597c57844908b1765e229c51abe7242a8989c5a3c884233a1a", func := "loop.example/g00627/laws.FnExactPlayMarking", spec := "fnExactPlayMarking", unfollowed := true, recurses := true, apart := false, narrowed := true }
def FnExactPlayMarkingUptoSaid : Prop := fnExactPlayMarkingUptoRow.holds Try.pinned (OpenSpec.upto fnExactPlayMarkingSpec)

/-- 'laws.FnExactEndMarking', WHERE WHAT IT READS IS OF BULK AT MOST 1048576: true; the input reads as it did. -/
def fnExactEndMarkingUptoRow : OpenClaim := { program := "ytdagkbgobnaijaa", sum := "0ab6f11f4256be597c57844908b1765e229c51abe7242a8989c5a3c884233a1a", func := "loop.example/g00627/laws.FnExactEndMarking", spec := "fnExactEndMarking", unfollowed := true, recurses := true, apart := false, narrowed := true }
def FnExactEndMarkingUptoSaid : Prop := fnExactEndMarkingUptoRow.holds Try.pinned (OpenSpec.upto fnExactEndMarkingSpec)

/-- 'laws.FnExactWeakIn', WHERE WHAT IT READS IS OF BULK AT MOST 1048576: true; the input reads as it did. -/
def fnExactWeakInUptoRow : OpenClaim := { program := "ytdagkbgobnaijaa", sum := "0ab6f11f4256be597c57844908b1765e229c51abe7242a8989c5a3c884233a1a", func := "loop.example/g00627/laws.FnExactWeakIn", spec := "fnExactWeakIn", unfollowed := true, recurses := true, apart := false, narrowed := true }
def FnExactWeakInUptoSaid : Prop := fnExactWeakInUptoRow.holds Try.pinned (OpenSpec.upto fnExactWeakInSpec)

/-- 'laws.FnExactLostIn', WHERE WHAT IT READS IS OF BULK AT MOST 1048576: true; the input reads as it did. -/
def fnExactLostInUptoRow : OpenClaim := { program := "ytdagkbgobnaijaa", sum := "0ab6f11f4256be597c57844908b1765e229c51abe7242a8989c5a3c884233a1a", func := "loop.example/g00627/laws.FnExactLostIn", spec := "fnExactLostIn", unfollowed := true, recurses := true, apart := false, narrowed := true }
def FnExactLostInUptoSaid : Prop := fnExactLostInUptoRow.holds Try.pinned (OpenSpec.upto fnExactLostInSpec)

/-- 'laws.FnExactGoOn', WHERE WHAT IT READS IS OF BULK AT MOST 1048576: true; the input reads as it did. -/
def fnExactGoOnUptoRow : OpenClaim := { program := "ytdagkbgobnaijaa", sum := "0ab6f11f4256be597c57844908b1765e229c51abe7242a8989c5a3c884233a1a", func := "loop.example/g00627/laws.FnExactGoOn", spec := "fnExactGoOn", unfollowed := true, recurses := true, apart := false, narrowed := true }
def FnExactGoOnUptoSaid : Prop := fnExactGoOnUptoRow.holds Try.pinned (OpenSpec.upto fnExactGoOnSpec)

/-- 'laws.FnExactGuardedBy', WHERE WHAT IT READS IS OF BULK AT MOST 1048576: true; the input reads as it did. -/
def fnExactGuardedByUptoRow : OpenClaim := { program := "ytdagkbgobnaijaa", sum := "0ab6f11f4256be597c57844908b1765e229c51abe7242a8989c5a3c884233a1a", func := "loop.example/g00627/laws.FnExactGuardedBy", spec := "fnExactGuardedBy", apart := false, narrowed := true }
def FnExactGuardedByUptoSaid : Prop := fnExactGuardedByUptoRow.holds Try.pinned (OpenSpec.upto fnExactGuardedBySpec)

/-- 'laws.FnExactRootsShaded', WHERE WHAT IT READS IS OF BULK AT MOST 1048576: true; the input reads as it did. -/
def fnExactRootsShadedUptoRow : OpenClaim := { program := "ytdagkbgobnaijaa", sum := "0ab6f11f4256be597c57844908b1765e229c51abe7242a8989c5a3c884233a1a", func := "loop.example/g00627/laws.FnExactRootsShaded", spec := "fnExactRootsShaded", unfollowed := true, recurses := true, apart := false, narrowed := true }
def FnExactRootsShadedUptoSaid : Prop := fnExactRootsShadedUptoRow.holds Try.pinned (OpenSpec.upto fnExactRootsShadedSpec)

/-- 'laws.FnExactShadeLost', WHERE WHAT IT READS IS OF BULK AT MOST 1048576: true; the input reads as it did. -/
def fnExactShadeLostUptoRow : OpenClaim := { program := "ytdagkbgobnaijaa", sum := "0ab6f11f4256be597c57844908b1765e229c51abe7242a8989c5a3c884233a1a", func := "loop.example/g00627/laws.FnExactShadeLost", spec := "fnExactShadeLost", unfollowed := true, recurses := true, apart := false, narrowed := true }
def FnExactShadeLostUptoSaid : Prop := fnExactShadeLostUptoRow.holds Try.pinned (OpenSpec.upto fnExactShadeLostSpec)

/-- 'laws.FnExactBehindGreys', WHERE WHAT IT READS IS OF BULK AT MOST 1048576: true; the input reads as it did. -/
def fnExactBehindGreysUptoRow : OpenClaim := { program := "ytdagkbgobnaijaa", sum := "0ab6f11f4256be597c57844908b1765e229c51abe7242a8989c5a3c884233a1a", func := "loop.example/g00627/laws.FnExactBehindGreys", spec := "fnExactBehindGreys", apart := false, narrowed := true }
def FnExactBehindGreysUptoSaid : Prop := fnExactBehindGreysUptoRow.holds Try.pinned (OpenSpec.upto fnExactBehindGreysSpec)

/-- 'laws.FnExactMarkAll', WHERE WHAT IT READS IS OF BULK AT MOST 1048576: true; the input reads as it did. -/
def fnExactMarkAllUptoRow : OpenClaim := { program := "ytdagkbgobnaijaa", sum := "0ab6f11f4256be597c57844908b1765e229c51abe7242a8989c5a3c884233a1a", func := "loop.example/g00627/laws.FnExactMarkAll", spec := "fnExactMarkAll", unfollowed := true, recurses := true, apart := false, narrowed := true }
def FnExactMarkAllUptoSaid : Prop := fnExactMarkAllUptoRow.holds Try.pinned (OpenSpec.upto fnExactMarkAllSpec)

end Rows
end Go.Proofs.Ytdagkbgobnaijaa
