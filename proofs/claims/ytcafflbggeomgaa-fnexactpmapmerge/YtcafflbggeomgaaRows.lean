/-
  No cell of these rows narrows 'for every input' (looked for: loops, veiled, ifaces, maps, wideKeys, modest, calm, conditions, laid).
  DERIVED. THE GIVEN ROWS OF THIS SEAT. 11 by the template 'for every input the law returns true; each argument reads behind the call as it read before'; 0 by the template 'total and deterministic' (their statements: YtcafflbggeomgaaTotals.lean).
  GIVEN WITH THE SEED: the statements are not yours to turn. If you find one false, say at which input.
  Laid BY PROGRAM, IN A SANDBOX (cutbox-rows.mjs): the forced cells as the released guide's own fill.sh prints them over the translation a3ecd665e56e541a… (all of the seat's roots in one cut). By AI agents, Wed Nov 11 2026. No macro, syntax, notation, axiom, sorry.
-/
import Derived.Test.YtcafflbggeomgaaChecked
import GoSem.Claim
import GoSem.ClaimJoined
import GoSem.ClaimMapViews
import Derived.JoinedTies
import Derived.KernelRfl
namespace Go.Proofs.Ytcafflbggeomgaa
/- THE CELL 'sum', in the pinned program and in every row, IS THE sha256 OF THE DUMP (.gsa) THAT YtcafflbggeomgaaProg.lean LOADS. Nothing in Lean hashes anything: it is a label: what it is worth is what the hold of that sum in a sandbox is worth. -/
noncomputable def Try.pinned : Pinned := { name := "ytcafflbggeomgaa", sum := "a3ecd665e56e541a87a7fa535ae0c53f28a78a422aa05ff3c45d39a38d3e3a31", checked := Try.checked }
namespace Rows
def none {H : Type} : Left H := { results := [], args := [] }

/-- 'laws.FnExactTxnCut': WHATEVER THE INPUT: true; the input reads as it did. -/
def fnExactTxnCutSpec : ChangeSpec := { name := "fnExactTxnCut", fn := fun _ => fun
  | [d1, d2] => { results := [.lit (.bool true)], args := [d1, d2] }
  | _ => none }
def fnExactTxnCutRow : OpenClaim := { program := "ytcafflbggeomgaa", sum := "a3ecd665e56e541a87a7fa535ae0c53f28a78a422aa05ff3c45d39a38d3e3a31", func := "loop.example/cadastre/laws.FnExactTxnCut", spec := "fnExactTxnCut", unfollowed := true, recurses := true, apart := false }
def FnExactTxnCutSaid : Prop := fnExactTxnCutRow.holds Try.pinned (OpenSpec.ofChange fnExactTxnCutSpec)

/-- ITS FALSE NEIGHBOUR: 'it returns false'. Refute it at one input. -/
def fnExactTxnCutWrong : ChangeSpec := { name := "fnExactTxnCut", fn := fun _ => fun
  | [d1, d2] => { results := [.lit (.bool false)], args := [d1, d2] }
  | _ => none }
def FnExactTxnCutWrongFalsely : Prop := fnExactTxnCutRow.holds Try.pinned (OpenSpec.ofChange fnExactTxnCutWrong)

/-- 'laws.FnExactPmapMerge': WHATEVER THE INPUT: true; the input reads as it did. -/
def fnExactPmapMergeSpec : ChangeSpec := { name := "fnExactPmapMerge", fn := fun _ => fun
  | [d1, d2] => { results := [.lit (.bool true)], args := [d1, d2] }
  | _ => none }
def fnExactPmapMergeRow : OpenClaim := { program := "ytcafflbggeomgaa", sum := "a3ecd665e56e541a87a7fa535ae0c53f28a78a422aa05ff3c45d39a38d3e3a31", func := "loop.example/cadastre/laws.FnExactPmapMerge", spec := "fnExactPmapMerge", unfollowed := true, recurses := true, apart := false }
def FnExactPmapMergeSaid : Prop := fnExactPmapMergeRow.holds Try.pinned (OpenSpec.ofChange fnExactPmapMergeSpec)

/-- ITS FALSE NEIGHBOUR: 'it returns false'. Refute it at one input. -/
def fnExactPmapMergeWrong : ChangeSpec := { name := "fnExactPmapMerge", fn := fun _ => fun
  | [d1, d2] => { results := [.lit (.bool false)], args := [d1, d2] }
  | _ => none }
def FnExactPmapMergeWrongFalsely : Prop := fnExactPmapMergeRow.holds Try.pinned (OpenSpec.ofChange fnExactPmapMergeWrong)

/-- 'laws.FnExactPmapSplit': WHATEVER THE INPUT: true; the input reads as it did. -/
def fnExactPmapSplitSpec : ChangeSpec := { name := "fnExactPmapSplit", fn := fun _ => fun
  | [d1, d2, d3] => { results := [.lit (.bool true)], args := [d1, d2, d3] }
  | _ => none }
def fnExactPmapSplitRow : OpenClaim := { program := "ytcafflbggeomgaa", sum := "a3ecd665e56e541a87a7fa535ae0c53f28a78a422aa05ff3c45d39a38d3e3a31", func := "loop.example/cadastre/laws.FnExactPmapSplit", spec := "fnExactPmapSplit", unfollowed := true, recurses := true, apart := false }
def FnExactPmapSplitSaid : Prop := fnExactPmapSplitRow.holds Try.pinned (OpenSpec.ofChange fnExactPmapSplitSpec)

/-- ITS FALSE NEIGHBOUR: 'it returns false'. Refute it at one input. -/
def fnExactPmapSplitWrong : ChangeSpec := { name := "fnExactPmapSplit", fn := fun _ => fun
  | [d1, d2, d3] => { results := [.lit (.bool false)], args := [d1, d2, d3] }
  | _ => none }
def FnExactPmapSplitWrongFalsely : Prop := fnExactPmapSplitRow.holds Try.pinned (OpenSpec.ofChange fnExactPmapSplitWrong)

/-- 'laws.FnExactTxnKeys': WHATEVER THE INPUT: true; the input reads as it did. -/
def fnExactTxnKeysSpec : ChangeSpec := { name := "fnExactTxnKeys", fn := fun _ => fun
  | [d] => { results := [.lit (.bool true)], args := [d] }
  | _ => none }
def fnExactTxnKeysRow : OpenClaim := { program := "ytcafflbggeomgaa", sum := "a3ecd665e56e541a87a7fa535ae0c53f28a78a422aa05ff3c45d39a38d3e3a31", func := "loop.example/cadastre/laws.FnExactTxnKeys", spec := "fnExactTxnKeys", unfollowed := true, recurses := true, apart := false }
def FnExactTxnKeysSaid : Prop := fnExactTxnKeysRow.holds Try.pinned (OpenSpec.ofChange fnExactTxnKeysSpec)

/-- ITS FALSE NEIGHBOUR: 'it returns false'. Refute it at one input. -/
def fnExactTxnKeysWrong : ChangeSpec := { name := "fnExactTxnKeys", fn := fun _ => fun
  | [d] => { results := [.lit (.bool false)], args := [d] }
  | _ => none }
def FnExactTxnKeysWrongFalsely : Prop := fnExactTxnKeysRow.holds Try.pinned (OpenSpec.ofChange fnExactTxnKeysWrong)

/-- 'laws.FnTxnCut': WHATEVER THE INPUT: true; the input reads as it did. -/
def fnTxnCutSpec : ChangeSpec := { name := "fnTxnCut", fn := fun _ => fun
  | [d1, d2] => { results := [.lit (.bool true)], args := [d1, d2] }
  | _ => none }
def fnTxnCutRow : OpenClaim := { program := "ytcafflbggeomgaa", sum := "a3ecd665e56e541a87a7fa535ae0c53f28a78a422aa05ff3c45d39a38d3e3a31", func := "loop.example/cadastre/laws.FnTxnCut", spec := "fnTxnCut", unfollowed := true, recurses := true, apart := false }
def FnTxnCutSaid : Prop := fnTxnCutRow.holds Try.pinned (OpenSpec.ofChange fnTxnCutSpec)

/-- ITS FALSE NEIGHBOUR: 'it returns false'. Refute it at one input. -/
def fnTxnCutWrong : ChangeSpec := { name := "fnTxnCut", fn := fun _ => fun
  | [d1, d2] => { results := [.lit (.bool false)], args := [d1, d2] }
  | _ => none }
def FnTxnCutWrongFalsely : Prop := fnTxnCutRow.holds Try.pinned (OpenSpec.ofChange fnTxnCutWrong)

/-- 'laws.FnTxnKeys': WHATEVER THE INPUT: true; the input reads as it did. -/
def fnTxnKeysSpec : ChangeSpec := { name := "fnTxnKeys", fn := fun _ => fun
  | [d] => { results := [.lit (.bool true)], args := [d] }
  | _ => none }
def fnTxnKeysRow : OpenClaim := { program := "ytcafflbggeomgaa", sum := "a3ecd665e56e541a87a7fa535ae0c53f28a78a422aa05ff3c45d39a38d3e3a31", func := "loop.example/cadastre/laws.FnTxnKeys", spec := "fnTxnKeys", unfollowed := true, recurses := true, apart := false }
def FnTxnKeysSaid : Prop := fnTxnKeysRow.holds Try.pinned (OpenSpec.ofChange fnTxnKeysSpec)

/-- ITS FALSE NEIGHBOUR: 'it returns false'. Refute it at one input. -/
def fnTxnKeysWrong : ChangeSpec := { name := "fnTxnKeys", fn := fun _ => fun
  | [d] => { results := [.lit (.bool false)], args := [d] }
  | _ => none }
def FnTxnKeysWrongFalsely : Prop := fnTxnKeysRow.holds Try.pinned (OpenSpec.ofChange fnTxnKeysWrong)

/-- 'laws.FnExactHistOk': WHATEVER THE INPUT: true; the input reads as it did. -/
def fnExactHistOkSpec : ChangeSpec := { name := "fnExactHistOk", fn := fun _ => fun
  | [d] => { results := [.lit (.bool true)], args := [d] }
  | _ => none }
def fnExactHistOkRow : OpenClaim := { program := "ytcafflbggeomgaa", sum := "a3ecd665e56e541a87a7fa535ae0c53f28a78a422aa05ff3c45d39a38d3e3a31", func := "loop.example/cadastre/laws.FnExactHistOk", spec := "fnExactHistOk", unfollowed := true, recurses := true, apart := false }
def FnExactHistOkSaid : Prop := fnExactHistOkRow.holds Try.pinned (OpenSpec.ofChange fnExactHistOkSpec)

/-- ITS FALSE NEIGHBOUR: 'it returns false'. Refute it at one input. -/
def fnExactHistOkWrong : ChangeSpec := { name := "fnExactHistOk", fn := fun _ => fun
  | [d] => { results := [.lit (.bool false)], args := [d] }
  | _ => none }
def FnExactHistOkWrongFalsely : Prop := fnExactHistOkRow.holds Try.pinned (OpenSpec.ofChange fnExactHistOkWrong)

/-- 'laws.FnExactVmapCut': WHATEVER THE INPUT: true; the input reads as it did. -/
def fnExactVmapCutSpec : ChangeSpec := { name := "fnExactVmapCut", fn := fun _ => fun
  | [d1, d2] => { results := [.lit (.bool true)], args := [d1, d2] }
  | _ => none }
def fnExactVmapCutRow : OpenClaim := { program := "ytcafflbggeomgaa", sum := "a3ecd665e56e541a87a7fa535ae0c53f28a78a422aa05ff3c45d39a38d3e3a31", func := "loop.example/cadastre/laws.FnExactVmapCut", spec := "fnExactVmapCut", unfollowed := true, recurses := true, apart := false }
def FnExactVmapCutSaid : Prop := fnExactVmapCutRow.holds Try.pinned (OpenSpec.ofChange fnExactVmapCutSpec)

/-- ITS FALSE NEIGHBOUR: 'it returns false'. Refute it at one input. -/
def fnExactVmapCutWrong : ChangeSpec := { name := "fnExactVmapCut", fn := fun _ => fun
  | [d1, d2] => { results := [.lit (.bool false)], args := [d1, d2] }
  | _ => none }
def FnExactVmapCutWrongFalsely : Prop := fnExactVmapCutRow.holds Try.pinned (OpenSpec.ofChange fnExactVmapCutWrong)

/-- 'laws.FnExactVmapPrune': WHATEVER THE INPUT: true; the input reads as it did. -/
def fnExactVmapPruneSpec : ChangeSpec := { name := "fnExactVmapPrune", fn := fun _ => fun
  | [d1, d2] => { results := [.lit (.bool true)], args := [d1, d2] }
  | _ => none }
def fnExactVmapPruneRow : OpenClaim := { program := "ytcafflbggeomgaa", sum := "a3ecd665e56e541a87a7fa535ae0c53f28a78a422aa05ff3c45d39a38d3e3a31", func := "loop.example/cadastre/laws.FnExactVmapPrune", spec := "fnExactVmapPrune", unfollowed := true, recurses := true, apart := false }
def FnExactVmapPruneSaid : Prop := fnExactVmapPruneRow.holds Try.pinned (OpenSpec.ofChange fnExactVmapPruneSpec)

/-- ITS FALSE NEIGHBOUR: 'it returns false'. Refute it at one input. -/
def fnExactVmapPruneWrong : ChangeSpec := { name := "fnExactVmapPrune", fn := fun _ => fun
  | [d1, d2] => { results := [.lit (.bool false)], args := [d1, d2] }
  | _ => none }
def FnExactVmapPruneWrongFalsely : Prop := fnExactVmapPruneRow.holds Try.pinned (OpenSpec.ofChange fnExactVmapPruneWrong)

/-- 'laws.FnExactVmapPut': WHATEVER THE INPUT: true; the input reads as it did. -/
def fnExactVmapPutSpec : ChangeSpec := { name := "fnExactVmapPut", fn := fun _ => fun
  | [d1, d2, d3] => { results := [.lit (.bool true)], args := [d1, d2, d3] }
  | _ => none }
def fnExactVmapPutRow : OpenClaim := { program := "ytcafflbggeomgaa", sum := "a3ecd665e56e541a87a7fa535ae0c53f28a78a422aa05ff3c45d39a38d3e3a31", func := "loop.example/cadastre/laws.FnExactVmapPut", spec := "fnExactVmapPut", unfollowed := true, recurses := true, apart := false }
def FnExactVmapPutSaid : Prop := fnExactVmapPutRow.holds Try.pinned (OpenSpec.ofChange fnExactVmapPutSpec)

/-- ITS FALSE NEIGHBOUR: 'it returns false'. Refute it at one input. -/
def fnExactVmapPutWrong : ChangeSpec := { name := "fnExactVmapPut", fn := fun _ => fun
  | [d1, d2, d3] => { results := [.lit (.bool false)], args := [d1, d2, d3] }
  | _ => none }
def FnExactVmapPutWrongFalsely : Prop := fnExactVmapPutRow.holds Try.pinned (OpenSpec.ofChange fnExactVmapPutWrong)

/-- 'laws.FnExactVmapJoin': WHATEVER THE INPUT: true; the input reads as it did. -/
def fnExactVmapJoinSpec : ChangeSpec := { name := "fnExactVmapJoin", fn := fun _ => fun
  | [d1, d2] => { results := [.lit (.bool true)], args := [d1, d2] }
  | _ => none }
def fnExactVmapJoinRow : OpenClaim := { program := "ytcafflbggeomgaa", sum := "a3ecd665e56e541a87a7fa535ae0c53f28a78a422aa05ff3c45d39a38d3e3a31", func := "loop.example/cadastre/laws.FnExactVmapJoin", spec := "fnExactVmapJoin", unfollowed := true, recurses := true, apart := false }
def FnExactVmapJoinSaid : Prop := fnExactVmapJoinRow.holds Try.pinned (OpenSpec.ofChange fnExactVmapJoinSpec)

/-- ITS FALSE NEIGHBOUR: 'it returns false'. Refute it at one input. -/
def fnExactVmapJoinWrong : ChangeSpec := { name := "fnExactVmapJoin", fn := fun _ => fun
  | [d1, d2] => { results := [.lit (.bool false)], args := [d1, d2] }
  | _ => none }
def FnExactVmapJoinWrongFalsely : Prop := fnExactVmapJoinRow.holds Try.pinned (OpenSpec.ofChange fnExactVmapJoinWrong)

/- THE SECOND FORM. 'bulk': how many values and letters a reading holds, each counted each time it is reached (what is shared counts as often as it is met; a slice's spare places count too). A statement '..UptoSaid' is the law's where the arguments, and the package variables that the reading takes, are together of bulk at most 1048576: NARROWER than '..Said'. Prove '..Said' where nothing that the law and all that it calls make is longer than what came in: it says more and counts as full. Else prove '..UptoSaid'. A law counts once. -/
mutual
def uptoBulk {H : Type} : DataW H → Nat
  | .lit (.string bytes) => bytes.length + 1
  | .lit _ => 1
  | .nil => 1
  | .ptr d => uptoBulk d + 1
  | .slice elems spare => uptoBulkAll elems + uptoBulkAll spare + 1
  | .agg parts => uptoBulkAll parts + 1
  | .iface _ d => uptoBulk d + 1
  | .map entries => uptoBulkEntries entries + 1
  | .held _ => 1
def uptoBulkAll {H : Type} : List (DataW H) → Nat
  | [] => 0
  | d :: r => uptoBulk d + uptoBulkAll r
def uptoBulkEntries {H : Type} : List (Lit × DataW H) → Nat
  | [] => 0
  | x :: r => uptoBulkEntry x + uptoBulkEntries r
def uptoBulkEntry {H : Type} : Lit × DataW H → Nat
  | (.string bytes, d) => bytes.length + uptoBulk d + 1
  | (_, d) => uptoBulk d + 1
 end
def uptoSmall : (H : Type) → List (DataW H) → Bool := fun _ ds => decide (uptoBulkAll ds ≤ 1048576)
def OpenSpec.upto (s : _root_.Go.ChangeSpec) : _root_.Go.OpenSpec := { _root_.Go.OpenSpec.ofChange s with cond := some uptoSmall }

/-- 'laws.FnExactTxnCut', WHERE WHAT IT READS IS OF BULK AT MOST 1048576: true; the input reads as it did. -/
def fnExactTxnCutUptoRow : OpenClaim := { program := "ytcafflbggeomgaa", sum := "a3ecd665e56e541a87a7fa535ae0c53f28a78a422aa05ff3c45d39a38d3e3a31", func := "loop.example/cadastre/laws.FnExactTxnCut", spec := "fnExactTxnCut", unfollowed := true, recurses := true, apart := false, narrowed := true }
def FnExactTxnCutUptoSaid : Prop := fnExactTxnCutUptoRow.holds Try.pinned (OpenSpec.upto fnExactTxnCutSpec)

/-- 'laws.FnExactPmapMerge', WHERE WHAT IT READS IS OF BULK AT MOST 1048576: true; the input reads as it did. -/
def fnExactPmapMergeUptoRow : OpenClaim := { program := "ytcafflbggeomgaa", sum := "a3ecd665e56e541a87a7fa535ae0c53f28a78a422aa05ff3c45d39a38d3e3a31", func := "loop.example/cadastre/laws.FnExactPmapMerge", spec := "fnExactPmapMerge", unfollowed := true, recurses := true, apart := false, narrowed := true }
def FnExactPmapMergeUptoSaid : Prop := fnExactPmapMergeUptoRow.holds Try.pinned (OpenSpec.upto fnExactPmapMergeSpec)

/-- 'laws.FnExactPmapSplit', WHERE WHAT IT READS IS OF BULK AT MOST 1048576: true; the input reads as it did. -/
def fnExactPmapSplitUptoRow : OpenClaim := { program := "ytcafflbggeomgaa", sum := "a3ecd665e56e541a87a7fa535ae0c53f28a78a422aa05ff3c45d39a38d3e3a31", func := "loop.example/cadastre/laws.FnExactPmapSplit", spec := "fnExactPmapSplit", unfollowed := true, recurses := true, apart := false, narrowed := true }
def FnExactPmapSplitUptoSaid : Prop := fnExactPmapSplitUptoRow.holds Try.pinned (OpenSpec.upto fnExactPmapSplitSpec)

/-- 'laws.FnExactTxnKeys', WHERE WHAT IT READS IS OF BULK AT MOST 1048576: true; the input reads as it did. -/
def fnExactTxnKeysUptoRow : OpenClaim := { program := "ytcafflbggeomgaa", sum := "a3ecd665e56e541a87a7fa535ae0c53f28a78a422aa05ff3c45d39a38d3e3a31", func := "loop.example/cadastre/laws.FnExactTxnKeys", spec := "fnExactTxnKeys", unfollowed := true, recurses := true, apart := false, narrowed := true }
def FnExactTxnKeysUptoSaid : Prop := fnExactTxnKeysUptoRow.holds Try.pinned (OpenSpec.upto fnExactTxnKeysSpec)

/-- 'laws.FnTxnCut', WHERE WHAT IT READS IS OF BULK AT MOST 1048576: true; the input reads as it did. -/
def fnTxnCutUptoRow : OpenClaim := { program := "ytcafflbggeomgaa", sum := "a3ecd665e56e541a87a7fa535ae0c53f28a78a422aa05ff3c45d39a38d3e3a31", func := "loop.example/cadastre/laws.FnTxnCut", spec := "fnTxnCut", unfollowed := true, recurses := true, apart := false, narrowed := true }
def FnTxnCutUptoSaid : Prop := fnTxnCutUptoRow.holds Try.pinned (OpenSpec.upto fnTxnCutSpec)

/-- 'laws.FnTxnKeys', WHERE WHAT IT READS IS OF BULK AT MOST 1048576: true; the input reads as it did. -/
def fnTxnKeysUptoRow : OpenClaim := { program := "ytcafflbggeomgaa", sum := "a3ecd665e56e541a87a7fa535ae0c53f28a78a422aa05ff3c45d39a38d3e3a31", func := "loop.example/cadastre/laws.FnTxnKeys", spec := "fnTxnKeys", unfollowed := true, recurses := true, apart := false, narrowed := true }
def FnTxnKeysUptoSaid : Prop := fnTxnKeysUptoRow.holds Try.pinned (OpenSpec.upto fnTxnKeysSpec)

/-- 'laws.FnExactHistOk', WHERE WHAT IT READS IS OF BULK AT MOST 1048576: true; the input reads as it did. -/
def fnExactHistOkUptoRow : OpenClaim := { program := "ytcafflbggeomgaa", sum := "a3ecd665e56e541a87a7fa535ae0c53f28a78a422aa05ff3c45d39a38d3e3a31", func := "loop.example/cadastre/laws.FnExactHistOk", spec := "fnExactHistOk", unfollowed := true, recurses := true, apart := false, narrowed := true }
def FnExactHistOkUptoSaid : Prop := fnExactHistOkUptoRow.holds Try.pinned (OpenSpec.upto fnExactHistOkSpec)

/-- 'laws.FnExactVmapCut', WHERE WHAT IT READS IS OF BULK AT MOST 1048576: true; the input reads as it did. -/
def fnExactVmapCutUptoRow : OpenClaim := { program := "ytcafflbggeomgaa", sum := "a3ecd665e56e541a87a7fa535ae0c53f28a78a422aa05ff3c45d39a38d3e3a31", func := "loop.example/cadastre/laws.FnExactVmapCut", spec := "fnExactVmapCut", unfollowed := true, recurses := true, apart := false, narrowed := true }
def FnExactVmapCutUptoSaid : Prop := fnExactVmapCutUptoRow.holds Try.pinned (OpenSpec.upto fnExactVmapCutSpec)

/-- 'laws.FnExactVmapPrune', WHERE WHAT IT READS IS OF BULK AT MOST 1048576: true; the input reads as it did. -/
def fnExactVmapPruneUptoRow : OpenClaim := { program := "ytcafflbggeomgaa", sum := "a3ecd665e56e541a87a7fa535ae0c53f28a78a422aa05ff3c45d39a38d3e3a31", func := "loop.example/cadastre/laws.FnExactVmapPrune", spec := "fnExactVmapPrune", unfollowed := true, recurses := true, apart := false, narrowed := true }
def FnExactVmapPruneUptoSaid : Prop := fnExactVmapPruneUptoRow.holds Try.pinned (OpenSpec.upto fnExactVmapPruneSpec)

/-- 'laws.FnExactVmapPut', WHERE WHAT IT READS IS OF BULK AT MOST 1048576: true; the input reads as it did. -/
def fnExactVmapPutUptoRow : OpenClaim := { program := "ytcafflbggeomgaa", sum := "a3ecd665e56e541a87a7fa535ae0c53f28a78a422aa05ff3c45d39a38d3e3a31", func := "loop.example/cadastre/laws.FnExactVmapPut", spec := "fnExactVmapPut", unfollowed := true, recurses := true, apart := false, narrowed := true }
def FnExactVmapPutUptoSaid : Prop := fnExactVmapPutUptoRow.holds Try.pinned (OpenSpec.upto fnExactVmapPutSpec)

/-- 'laws.FnExactVmapJoin', WHERE WHAT IT READS IS OF BULK AT MOST 1048576: true; the input reads as it did. -/
def fnExactVmapJoinUptoRow : OpenClaim := { program := "ytcafflbggeomgaa", sum := "a3ecd665e56e541a87a7fa535ae0c53f28a78a422aa05ff3c45d39a38d3e3a31", func := "loop.example/cadastre/laws.FnExactVmapJoin", spec := "fnExactVmapJoin", unfollowed := true, recurses := true, apart := false, narrowed := true }
def FnExactVmapJoinUptoSaid : Prop := fnExactVmapJoinUptoRow.holds Try.pinned (OpenSpec.upto fnExactVmapJoinSpec)

end Rows
end Go.Proofs.Ytcafflbggeomgaa
