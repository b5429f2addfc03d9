/-
  No cell of these rows narrows 'for every input' (looked for: loops, veiled, ifaces, maps, wideKeys, modest, calm, conditions, laid).
  DERIVED. THE GIVEN ROWS OF THIS SEAT. 12 by the template 'for every input the law returns true; each argument reads behind the call as it read before'; 0 by the template 'total and deterministic' (their statements: YtejaebmbhcgngaaTotals.lean).
  GIVEN WITH THE SEED: the statements are not yours to turn. If you find one false, say at which input.
  Laid BY PROGRAM, IN A SANDBOX (cutbox-rows.mjs): the forced cells as the released guide's own fill.sh prints them over the translation a455b973455c7972… (all of the seat's roots in one cut). By AI agents, Wed Nov 11 2026. No macro, syntax, notation, axiom, sorry.
-/
import Derived.Test.YtejaebmbhcgngaaChecked
import GoSem.Claim
import GoSem.ClaimJoined
import GoSem.ClaimMapViews
import Derived.JoinedTies
import Derived.KernelRfl
namespace Go.Proofs.Ytejaebmbhcgngaa
/- THE CELL 'sum', in the pinned program and in every row, IS THE sha256 OF THE DUMP (.gsa) THAT YtejaebmbhcgngaaProg.lean LOADS. Nothing in Lean hashes anything: it is a label: what it is worth is what the hold of that sum in a sandbox is worth. -/
noncomputable def Try.pinned : Pinned := { name := "ytejaebmbhcgngaa", sum := "a455b973455c797294087f71427b24b3f854061b956ddb6ba821b8d9bd8ab0ce", checked := Try.checked }
namespace Rows
def none {H : Type} : Left H := { results := [], args := [] }

/-- 'laws.FnExactEmptyTree': WHATEVER THE INPUT: true; the input reads as it did. -/
def fnExactEmptyTreeSpec : ChangeSpec := { name := "fnExactEmptyTree", fn := fun _ => fun
  | [] => { results := [.lit (.bool true)], args := [] }
  | _ => none }
def fnExactEmptyTreeRow : OpenClaim := { program := "ytejaebmbhcgngaa", sum := "a455b973455c797294087f71427b24b3f854061b956ddb6ba821b8d9bd8ab0ce", func := "loop.example/g00627/laws.FnExactEmptyTree", spec := "fnExactEmptyTree", apart := false }
def FnExactEmptyTreeSaid : Prop := fnExactEmptyTreeRow.holds Try.pinned (OpenSpec.ofChange fnExactEmptyTreeSpec)

/-- ITS FALSE NEIGHBOUR: 'it returns false'. Refute it at one input. -/
def fnExactEmptyTreeWrong : ChangeSpec := { name := "fnExactEmptyTree", fn := fun _ => fun
  | [] => { results := [.lit (.bool false)], args := [] }
  | _ => none }
def FnExactEmptyTreeWrongFalsely : Prop := fnExactEmptyTreeRow.holds Try.pinned (OpenSpec.ofChange fnExactEmptyTreeWrong)

/-- 'laws.FnExactGoodTree': WHATEVER THE INPUT: true; the input reads as it did. -/
def fnExactGoodTreeSpec : ChangeSpec := { name := "fnExactGoodTree", fn := fun _ => fun
  | [d] => { results := [.lit (.bool true)], args := [d] }
  | _ => none }
def fnExactGoodTreeRow : OpenClaim := { program := "ytejaebmbhcgngaa", sum := "a455b973455c797294087f71427b24b3f854061b956ddb6ba821b8d9bd8ab0ce", func := "loop.example/g00627/laws.FnExactGoodTree", spec := "fnExactGoodTree", recurses := true, apart := false }
def FnExactGoodTreeSaid : Prop := fnExactGoodTreeRow.holds Try.pinned (OpenSpec.ofChange fnExactGoodTreeSpec)

/-- ITS FALSE NEIGHBOUR: 'it returns false'. Refute it at one input. -/
def fnExactGoodTreeWrong : ChangeSpec := { name := "fnExactGoodTree", fn := fun _ => fun
  | [d] => { results := [.lit (.bool false)], args := [d] }
  | _ => none }
def FnExactGoodTreeWrongFalsely : Prop := fnExactGoodTreeRow.holds Try.pinned (OpenSpec.ofChange fnExactGoodTreeWrong)

/-- 'laws.FnExactRankOf': WHATEVER THE INPUT: true; the input reads as it did. -/
def fnExactRankOfSpec : ChangeSpec := { name := "fnExactRankOf", fn := fun _ => fun
  | [d1, d2] => { results := [.lit (.bool true)], args := [d1, d2] }
  | _ => none }
def fnExactRankOfRow : OpenClaim := { program := "ytejaebmbhcgngaa", sum := "a455b973455c797294087f71427b24b3f854061b956ddb6ba821b8d9bd8ab0ce", func := "loop.example/g00627/laws.FnExactRankOf", spec := "fnExactRankOf", recurses := true, apart := false }
def FnExactRankOfSaid : Prop := fnExactRankOfRow.holds Try.pinned (OpenSpec.ofChange fnExactRankOfSpec)

/-- ITS FALSE NEIGHBOUR: 'it returns false'. Refute it at one input. -/
def fnExactRankOfWrong : ChangeSpec := { name := "fnExactRankOf", fn := fun _ => fun
  | [d1, d2] => { results := [.lit (.bool false)], args := [d1, d2] }
  | _ => none }
def FnExactRankOfWrongFalsely : Prop := fnExactRankOfRow.holds Try.pinned (OpenSpec.ofChange fnExactRankOfWrong)

/-- 'laws.FnExactPutKey': WHATEVER THE INPUT: true; the input reads as it did. -/
def fnExactPutKeySpec : ChangeSpec := { name := "fnExactPutKey", fn := fun _ => fun
  | [d1, d2] => { results := [.lit (.bool true)], args := [d1, d2] }
  | _ => none }
def fnExactPutKeyRow : OpenClaim := { program := "ytejaebmbhcgngaa", sum := "a455b973455c797294087f71427b24b3f854061b956ddb6ba821b8d9bd8ab0ce", func := "loop.example/g00627/laws.FnExactPutKey", spec := "fnExactPutKey", unfollowed := true, recurses := true, apart := false }
def FnExactPutKeySaid : Prop := fnExactPutKeyRow.holds Try.pinned (OpenSpec.ofChange fnExactPutKeySpec)

/-- ITS FALSE NEIGHBOUR: 'it returns false'. Refute it at one input. -/
def fnExactPutKeyWrong : ChangeSpec := { name := "fnExactPutKey", fn := fun _ => fun
  | [d1, d2] => { results := [.lit (.bool false)], args := [d1, d2] }
  | _ => none }
def FnExactPutKeyWrongFalsely : Prop := fnExactPutKeyRow.holds Try.pinned (OpenSpec.ofChange fnExactPutKeyWrong)

/-- 'laws.FnExactTakeLeast': WHATEVER THE INPUT: true; the input reads as it did. -/
def fnExactTakeLeastSpec : ChangeSpec := { name := "fnExactTakeLeast", fn := fun _ => fun
  | [d] => { results := [.lit (.bool true)], args := [d] }
  | _ => none }
def fnExactTakeLeastRow : OpenClaim := { program := "ytejaebmbhcgngaa", sum := "a455b973455c797294087f71427b24b3f854061b956ddb6ba821b8d9bd8ab0ce", func := "loop.example/g00627/laws.FnExactTakeLeast", spec := "fnExactTakeLeast", unfollowed := true, recurses := true, apart := false }
def FnExactTakeLeastSaid : Prop := fnExactTakeLeastRow.holds Try.pinned (OpenSpec.ofChange fnExactTakeLeastSpec)

/-- ITS FALSE NEIGHBOUR: 'it returns false'. Refute it at one input. -/
def fnExactTakeLeastWrong : ChangeSpec := { name := "fnExactTakeLeast", fn := fun _ => fun
  | [d] => { results := [.lit (.bool false)], args := [d] }
  | _ => none }
def FnExactTakeLeastWrongFalsely : Prop := fnExactTakeLeastRow.holds Try.pinned (OpenSpec.ofChange fnExactTakeLeastWrong)

/-- 'laws.FnExactMeldTrees': WHATEVER THE INPUT: true; the input reads as it did. -/
def fnExactMeldTreesSpec : ChangeSpec := { name := "fnExactMeldTrees", fn := fun _ => fun
  | [d1, d2] => { results := [.lit (.bool true)], args := [d1, d2] }
  | _ => none }
def fnExactMeldTreesRow : OpenClaim := { program := "ytejaebmbhcgngaa", sum := "a455b973455c797294087f71427b24b3f854061b956ddb6ba821b8d9bd8ab0ce", func := "loop.example/g00627/laws.FnExactMeldTrees", spec := "fnExactMeldTrees", unfollowed := true, recurses := true, apart := false }
def FnExactMeldTreesSaid : Prop := fnExactMeldTreesRow.holds Try.pinned (OpenSpec.ofChange fnExactMeldTreesSpec)

/-- ITS FALSE NEIGHBOUR: 'it returns false'. Refute it at one input. -/
def fnExactMeldTreesWrong : ChangeSpec := { name := "fnExactMeldTrees", fn := fun _ => fun
  | [d1, d2] => { results := [.lit (.bool false)], args := [d1, d2] }
  | _ => none }
def FnExactMeldTreesWrongFalsely : Prop := fnExactMeldTreesRow.holds Try.pinned (OpenSpec.ofChange fnExactMeldTreesWrong)

/-- 'laws.FnExactSortBy': WHATEVER THE INPUT: true; the input reads as it did. -/
def fnExactSortBySpec : ChangeSpec := { name := "fnExactSortBy", fn := fun _ => fun
  | [d] => { results := [.lit (.bool true)], args := [d] }
  | _ => none }
def fnExactSortByRow : OpenClaim := { program := "ytejaebmbhcgngaa", sum := "a455b973455c797294087f71427b24b3f854061b956ddb6ba821b8d9bd8ab0ce", func := "loop.example/g00627/laws.FnExactSortBy", spec := "fnExactSortBy", unfollowed := true, recurses := true, apart := false }
def FnExactSortBySaid : Prop := fnExactSortByRow.holds Try.pinned (OpenSpec.ofChange fnExactSortBySpec)

/-- ITS FALSE NEIGHBOUR: 'it returns false'. Refute it at one input. -/
def fnExactSortByWrong : ChangeSpec := { name := "fnExactSortBy", fn := fun _ => fun
  | [d] => { results := [.lit (.bool false)], args := [d] }
  | _ => none }
def FnExactSortByWrongFalsely : Prop := fnExactSortByRow.holds Try.pinned (OpenSpec.ofChange fnExactSortByWrong)

/-- 'laws.FnExactKeysOf': WHATEVER THE INPUT: true; the input reads as it did. -/
def fnExactKeysOfSpec : ChangeSpec := { name := "fnExactKeysOf", fn := fun _ => fun
  | [d] => { results := [.lit (.bool true)], args := [d] }
  | _ => none }
def fnExactKeysOfRow : OpenClaim := { program := "ytejaebmbhcgngaa", sum := "a455b973455c797294087f71427b24b3f854061b956ddb6ba821b8d9bd8ab0ce", func := "loop.example/g00627/laws.FnExactKeysOf", spec := "fnExactKeysOf", recurses := true, apart := false }
def FnExactKeysOfSaid : Prop := fnExactKeysOfRow.holds Try.pinned (OpenSpec.ofChange fnExactKeysOfSpec)

/-- ITS FALSE NEIGHBOUR: 'it returns false'. Refute it at one input. -/
def fnExactKeysOfWrong : ChangeSpec := { name := "fnExactKeysOf", fn := fun _ => fun
  | [d] => { results := [.lit (.bool false)], args := [d] }
  | _ => none }
def FnExactKeysOfWrongFalsely : Prop := fnExactKeysOfRow.holds Try.pinned (OpenSpec.ofChange fnExactKeysOfWrong)

/-- 'laws.FnMelded': WHATEVER THE INPUT: true; the input reads as it did. -/
def fnMeldedSpec : ChangeSpec := { name := "fnMelded", fn := fun _ => fun
  | [d1, d2] => { results := [.lit (.bool true)], args := [d1, d2] }
  | _ => none }
def fnMeldedRow : OpenClaim := { program := "ytejaebmbhcgngaa", sum := "a455b973455c797294087f71427b24b3f854061b956ddb6ba821b8d9bd8ab0ce", func := "loop.example/g00627/laws.FnMelded", spec := "fnMelded", unfollowed := true, recurses := true, apart := false }
def FnMeldedSaid : Prop := fnMeldedRow.holds Try.pinned (OpenSpec.ofChange fnMeldedSpec)

/-- ITS FALSE NEIGHBOUR: 'it returns false'. Refute it at one input. -/
def fnMeldedWrong : ChangeSpec := { name := "fnMelded", fn := fun _ => fun
  | [d1, d2] => { results := [.lit (.bool false)], args := [d1, d2] }
  | _ => none }
def FnMeldedWrongFalsely : Prop := fnMeldedRow.holds Try.pinned (OpenSpec.ofChange fnMeldedWrong)

/-- 'laws.FnSorted': WHATEVER THE INPUT: true; the input reads as it did. -/
def fnSortedSpec : ChangeSpec := { name := "fnSorted", fn := fun _ => fun
  | [d1, d2] => { results := [.lit (.bool true)], args := [d1, d2] }
  | _ => none }
def fnSortedRow : OpenClaim := { program := "ytejaebmbhcgngaa", sum := "a455b973455c797294087f71427b24b3f854061b956ddb6ba821b8d9bd8ab0ce", func := "loop.example/g00627/laws.FnSorted", spec := "fnSorted", unfollowed := true, recurses := true, apart := false }
def FnSortedSaid : Prop := fnSortedRow.holds Try.pinned (OpenSpec.ofChange fnSortedSpec)

/-- ITS FALSE NEIGHBOUR: 'it returns false'. Refute it at one input. -/
def fnSortedWrong : ChangeSpec := { name := "fnSorted", fn := fun _ => fun
  | [d1, d2] => { results := [.lit (.bool false)], args := [d1, d2] }
  | _ => none }
def FnSortedWrongFalsely : Prop := fnSortedRow.holds Try.pinned (OpenSpec.ofChange fnSortedWrong)

/-- 'laws.FnExactPlayWork': WHATEVER THE INPUT: true; the input reads as it did. -/
def fnExactPlayWorkSpec : ChangeSpec := { name := "fnExactPlayWork", fn := fun _ => fun
  | [d] => { results := [.lit (.bool true)], args := [d] }
  | _ => none }
def fnExactPlayWorkRow : OpenClaim := { program := "ytejaebmbhcgngaa", sum := "a455b973455c797294087f71427b24b3f854061b956ddb6ba821b8d9bd8ab0ce", func := "loop.example/g00627/laws.FnExactPlayWork", spec := "fnExactPlayWork", apart := false }
def FnExactPlayWorkSaid : Prop := fnExactPlayWorkRow.holds Try.pinned (OpenSpec.ofChange fnExactPlayWorkSpec)

/-- ITS FALSE NEIGHBOUR: 'it returns false'. Refute it at one input. -/
def fnExactPlayWorkWrong : ChangeSpec := { name := "fnExactPlayWork", fn := fun _ => fun
  | [d] => { results := [.lit (.bool false)], args := [d] }
  | _ => none }
def FnExactPlayWorkWrongFalsely : Prop := fnExactPlayWorkRow.holds Try.pinned (OpenSpec.ofChange fnExactPlayWorkWrong)

/-- 'laws.FnStolen': WHATEVER THE INPUT: true; the input reads as it did. -/
def fnStolenSpec : ChangeSpec := { name := "fnStolen", fn := fun _ => fun
  | [d1, d2] => { results := [.lit (.bool true)], args := [d1, d2] }
  | _ => none }
def fnStolenRow : OpenClaim := { program := "ytejaebmbhcgngaa", sum := "a455b973455c797294087f71427b24b3f854061b956ddb6ba821b8d9bd8ab0ce", func := "loop.example/g00627/laws.FnStolen", spec := "fnStolen", unfollowed := true, recurses := true, apart := false }
def FnStolenSaid : Prop := fnStolenRow.holds Try.pinned (OpenSpec.ofChange fnStolenSpec)

/-- ITS FALSE NEIGHBOUR: 'it returns false'. Refute it at one input. -/
def fnStolenWrong : ChangeSpec := { name := "fnStolen", fn := fun _ => fun
  | [d1, d2] => { results := [.lit (.bool false)], args := [d1, d2] }
  | _ => none }
def FnStolenWrongFalsely : Prop := fnStolenRow.holds Try.pinned (OpenSpec.ofChange fnStolenWrong)

/- THE SECOND FORM. 'bulk': how many values and letters a reading holds, each counted each time it is reached (what is shared counts as often as it is met; a slice's spare places count too). A statement '..UptoSaid' is the law's where the arguments, and the package variables that the reading takes, are together of bulk at most 1048576: NARROWER than '..Said'. Prove '..Said' where nothing that the law and all that it calls make is longer than what came in: it says more and counts as full. Else prove '..UptoSaid'. A law counts once. -/
mutual
def uptoBulk {H : Type} : DataW H → Nat
  | .lit (.string bytes) => bytes.length + 1
  | .lit _ => 1
  | .nil => 1
  | .ptr d => uptoBulk d + 1
  | .slice elems spare => uptoBulkAll elems + uptoBulkAll spare + 1
  | .agg parts => uptoBulkAll parts + 1
  | .iface _ d => uptoBulk d + 1
  | .map entries => uptoBulkEntries entries + 1
  | .held _ => 1
def uptoBulkAll {H : Type} : List (DataW H) → Nat
  | [] => 0
  | d :: r => uptoBulk d + uptoBulkAll r
def uptoBulkEntries {H : Type} : List (Lit × DataW H) → Nat
  | [] => 0
  | x :: r => uptoBulkEntry x + uptoBulkEntries r
def uptoBulkEntry {H : Type} : Lit × DataW H → Nat
  | (.string bytes, d) => bytes.length + uptoBulk d + 1
  | (_, d) => uptoBulk d + 1
 end
def uptoSmall : (H : Type) → List (DataW H) → Bool := fun _ ds => decide (uptoBulkAll ds ≤ 1048576)
def OpenSpec.upto (s : _root_.Go.ChangeSpec) : _root_.Go.OpenSpec := { _root_.Go.OpenSpec.ofChange s with cond := some uptoSmall }

/-- 'laws.FnExactEmptyTree', WHERE WHAT IT READS IS OF BULK AT MOST 1048576: true; the input reads as it did. -/
def fnExactEmptyTreeUptoRow : OpenClaim := { program := "ytejaebmbhcgngaa", sum := "a455b973455c797294087f71427b24b3f854061b956ddb6ba821b8d9bd8ab0ce", func := "loop.example/g00627/laws.FnExactEmptyTree", spec := "fnExactEmptyTree", apart := false, narrowed := true }
def FnExactEmptyTreeUptoSaid : Prop := fnExactEmptyTreeUptoRow.holds Try.pinned (OpenSpec.upto fnExactEmptyTreeSpec)

/-- 'laws.FnExactGoodTree', WHERE WHAT IT READS IS OF BULK AT MOST 1048576: true; the input reads as it did. -/
def fnExactGoodTreeUptoRow : OpenClaim := { program := "ytejaebmbhcgngaa", sum := "a455b973455c797294087f71427b24b3f854061b956ddb6ba821b8d9bd8ab0ce", func := "loop.example/g00627/laws.FnExactGoodTree", spec := "fnExactGoodTree", recurses := true, apart := false, narrowed := true }
def FnExactGoodTreeUptoSaid : Prop := fnExactGoodTreeUptoRow.holds Try.pinned (OpenSpec.upto fnExactGoodTreeSpec)

/-- 'laws.FnExactRankOf', WHERE WHAT IT READS IS OF BULK AT MOST 1048576: true; the input reads as it did. -/
def fnExactRankOfUptoRow : OpenClaim := { program := "ytejaebmbhcgngaa", sum := "a455b973455c797294087f71427b24b3f854061b956ddb6ba821b8d9bd8ab0ce", func := "loop.example/g00627/laws.FnExactRankOf", spec := "fnExactRankOf", recurses := true, apart := false, narrowed := true }
def FnExactRankOfUptoSaid : Prop := fnExactRankOfUptoRow.holds Try.pinned (OpenSpec.upto fnExactRankOfSpec)

/-- 'laws.FnExactPutKey', WHERE WHAT IT READS IS OF BULK AT MOST 1048576: true; the input reads as it did. -/
def fnExactPutKeyUptoRow : OpenClaim := { program := "ytejaebmbhcgngaa", sum := "a455b973455c797294087f71427b24b3f854061b956ddb6ba821b8d9bd8ab0ce", func := "loop.example/g00627/laws.FnExactPutKey", spec := "fnExactPutKey", unfollowed := true, recurses := true, apart := false, narrowed := true }
def FnExactPutKeyUptoSaid : Prop := fnExactPutKeyUptoRow.holds Try.pinned (OpenSpec.upto fnExactPutKeySpec)

/-- 'laws.FnExactTakeLeast', WHERE WHAT IT READS IS OF BULK AT MOST 1048576: true; the input reads as it did. -/
def fnExactTakeLeastUptoRow : OpenClaim := { program := "ytejaebmbhcgngaa", sum := "a455b973455c797294087f71427b24b3f854061b956ddb6ba821b8d9bd8ab0ce", func := "loop.example/g00627/laws.FnExactTakeLeast", spec := "fnExactTakeLeast", unfollowed := true, recurses := true, apart := false, narrowed := true }
def FnExactTakeLeastUptoSaid : Prop := fnExactTakeLeastUptoRow.holds Try.pinned (OpenSpec.upto fnExactTakeLeastSpec)

/-- 'laws.FnExactMeldTrees', WHERE WHAT IT READS IS OF BULK AT MOST 1048576: true; the input reads as it did. -/
def fnExactMeldTreesUptoRow : OpenClaim := { program := "ytejaebmbhcgngaa", sum := "a455b973455c797294087f71427b24b3f854061b956ddb6ba821b8d9bd8ab0ce", func := "loop.example/g00627/laws.FnExactMeldTrees", spec := "fnExactMeldTrees", unfollowed := true, recurses := true, apart := false, narrowed := true }
def FnExactMeldTreesUptoSaid : Prop := fnExactMeldTreesUptoRow.holds Try.pinned (OpenSpec.upto fnExactMeldTreesSpec)

/-- 'laws.FnExactSortBy', WHERE WHAT IT READS IS OF BULK AT MOST 1048576: true; the input reads as it did. -/
def fnExactSortByUptoRow : OpenClaim := { program := "ytejaebmbhcgngaa", sum := "a455b973455c797294087f71427b24b3f854061b956ddb6ba821b8d9bd8ab0ce", func := "loop.example/g00627/laws.FnExactSortBy", spec := "fnExactSortBy", unfollowed := true, recurses := true, apart := false, narrowed := true }
def FnExactSortByUptoSaid : Prop := fnExactSortByUptoRow.holds Try.pinned (OpenSpec.upto fnExactSortBySpec)

/-- 'laws.FnExactKeysOf', WHERE WHAT IT READS IS OF BULK AT MOST 1048576: true; the input reads as it did. -/
def fnExactKeysOfUptoRow : OpenClaim := { program := "ytejaebmbhcgngaa", sum := "a455b973455c797294087f71427b24b3f854061b956ddb6ba821b8d9bd8ab0ce", func := "loop.example/g00627/laws.FnExactKeysOf", spec := "fnExactKeysOf", recurses := true, apart := false, narrowed := true }
def FnExactKeysOfUptoSaid : Prop := fnExactKeysOfUptoRow.holds Try.pinned (OpenSpec.upto fnExactKeysOfSpec)

/-- 'laws.FnMelded', WHERE WHAT IT READS IS OF BULK AT MOST 1048576: true; the input reads as it did. -/
def fnMeldedUptoRow : OpenClaim := { program := "ytejaebmbhcgngaa", sum := "a455b973455c797294087f71427b24b3f854061b956ddb6ba821b8d9bd8ab0ce", func := "loop.example/g00627/laws.FnMelded", spec := "fnMelded", unfollowed := true, recurses := true, apart := false, narrowed := true }
def FnMeldedUptoSaid : Prop := fnMeldedUptoRow.holds Try.pinned (OpenSpec.upto fnMeldedSpec)

/-- 'laws.FnSorted', WHERE WHAT IT READS IS OF BULK AT MOST 1048576: true; the input reads as it did. -/
def fnSortedUptoRow : OpenClaim := { program := "ytejaebmbhcgngaa", sum := "a455b973455c797294087f71427b24b3f854061b956ddb6ba821b8d9bd8ab0ce", func := "loop.example/g00627/laws.FnSorted", spec := "fnSorted", unfollowed := true, recurses := true, apart := false, narrowed := true }
def FnSortedUptoSaid : Prop := fnSortedUptoRow.holds Try.pinned (OpenSpec.upto fnSortedSpec)

/-- 'laws.FnExactPlayWork', WHERE WHAT IT READS IS OF BULK AT MOST 1048576: true; the input reads as it did. -/
def fnExactPlayWorkUptoRow : OpenClaim := { program := "ytejaebmbhcgngaa", sum := "a455b973455c797294087f71427b24b3f854061b956ddb6ba821b8d9bd8ab0ce", func := "loop.example/g00627/laws.FnExactPlayWork", spec := "fnExactPlayWork", apart := false, narrowed := true }
def FnExactPlayWorkUptoSaid : Prop := fnExactPlayWorkUptoRow.holds Try.pinned (OpenSpec.upto fnExactPlayWorkSpec)

/-- 'laws.FnStolen', WHERE WHAT IT READS IS OF BULK AT MOST 1048576: true; the input reads as it did. -/
def fnStolenUptoRow : OpenClaim := { program := "ytejaebmbhcgngaa", sum := "a455b973455c797294087f71427b24b3f854061b956ddb6ba821b8d9bd8ab0ce", func := "loop.example/g00627/laws.FnStolen", spec := "fnStolen", unfollowed := true, recurses := true, apart := false, narrowed := true }
def FnStolenUptoSaid : Prop := fnStolenUptoRow.holds Try.pinned (OpenSpec.upto fnStolenSpec)

end Rows
end Go.Proofs.Ytejaebmbhcgngaa
