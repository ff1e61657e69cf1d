/-
  No cell of these rows narrows 'for every input' (looked for: loops, veiled, ifaces, maps, wideKeys, modest, calm, conditions, laid).
  DERIVED. THE GIVEN ROWS OF THIS SEAT. 12 by the template 'for every input the law returns true; each argument reads behind the call as it read before'; 0 by the template 'total and deterministic' (their statements: YtodpodgdhiadnaaTotals.lean).
  GIVEN WITH THE SEED: the statements are not yours to turn. If you find one false, say at which input.
  Laid BY PROGRAM, IN A SANDBOX (cutbox-rows.mjs): the forced cells as the released guide's own fill.sh prints them over the translation 5c7185e5e6ba3f9b… (all of the seat's roots in one cut). By AI agents, Wed Nov 11 2026. No macro, syntax, notation, axiom, sorry.
-/
import Derived.Test.YtodpodgdhiadnaaChecked
import GoSem.Claim
import GoSem.ClaimJoined
import GoSem.ClaimMapViews
import Derived.JoinedTies
import Derived.KernelRfl
namespace Go.Proofs.Ytodpodgdhiadnaa
/- THE CELL 'sum', in the pinned program and in every row, IS THE sha256 OF THE DUMP (.gsa) THAT YtodpodgdhiadnaaProg.lean LOADS. Nothing in Lean hashes anything: it is a label: what it is worth is what the hold of that sum in a sandbox is worth. -/
noncomputable def Try.pinned : Pinned := { name := "ytodpodgdhiadnaa", sum := "5c7185e5e6ba3f9bb7e288b5d315cba8a6858d5a4a82d2bc4ac2b4e59fb38f2c", checked := Try.checked }
namespace Rows
def none {H : Type} : Left H := { results := [], args := [] }

/-- 'laws.FnExactVmapPut': WHATEVER THE INPUT: true; the input reads as it did. -/
def fnExactVmapPutSpec : ChangeSpec := { name := "fnExactVmapPut", fn := fun _ => fun
  | [d1, d2, d3] => { results := [.lit (.bool true)], args := [d1, d2, d3] }
  | _ => none }
def fnExactVmapPutRow : OpenClaim := { program := "ytodpodgdhiadnaa", sum := "5c7185e5e6ba3f9bb7e288b5d315cba8a6858d5a4a82d2bc4ac2b4e59fb38f2c", func := "loop.example/cadastre/laws.FnExactVmapPut", spec := "fnExactVmapPut", unfollowed := true, recurses := true, apart := false }
def FnExactVmapPutSaid : Prop := fnExactVmapPutRow.holds Try.pinned (OpenSpec.ofChange fnExactVmapPutSpec)

/-- ITS FALSE NEIGHBOUR: 'it returns false'. Refute it at one input. -/
def fnExactVmapPutWrong : ChangeSpec := { name := "fnExactVmapPut", fn := fun _ => fun
  | [d1, d2, d3] => { results := [.lit (.bool false)], args := [d1, d2, d3] }
  | _ => none }
def FnExactVmapPutWrongFalsely : Prop := fnExactVmapPutRow.holds Try.pinned (OpenSpec.ofChange fnExactVmapPutWrong)

/-- 'laws.FnExactHistKey': WHATEVER THE INPUT: true; the input reads as it did. -/
def fnExactHistKeySpec : ChangeSpec := { name := "fnExactHistKey", fn := fun _ => fun
  | [d1, d2] => { results := [.lit (.bool true)], args := [d1, d2] }
  | _ => none }
def fnExactHistKeyRow : OpenClaim := { program := "ytodpodgdhiadnaa", sum := "5c7185e5e6ba3f9bb7e288b5d315cba8a6858d5a4a82d2bc4ac2b4e59fb38f2c", func := "loop.example/cadastre/laws.FnExactHistKey", spec := "fnExactHistKey", unfollowed := true, recurses := true, apart := false }
def FnExactHistKeySaid : Prop := fnExactHistKeyRow.holds Try.pinned (OpenSpec.ofChange fnExactHistKeySpec)

/-- ITS FALSE NEIGHBOUR: 'it returns false'. Refute it at one input. -/
def fnExactHistKeyWrong : ChangeSpec := { name := "fnExactHistKey", fn := fun _ => fun
  | [d1, d2] => { results := [.lit (.bool false)], args := [d1, d2] }
  | _ => none }
def FnExactHistKeyWrongFalsely : Prop := fnExactHistKeyRow.holds Try.pinned (OpenSpec.ofChange fnExactHistKeyWrong)

/-- 'laws.FnExactListMerge': WHATEVER THE INPUT: true; the input reads as it did. -/
def fnExactListMergeSpec : ChangeSpec := { name := "fnExactListMerge", fn := fun _ => fun
  | [d1, d2, d3] => { results := [.lit (.bool true)], args := [d1, d2, d3] }
  | _ => none }
def fnExactListMergeRow : OpenClaim := { program := "ytodpodgdhiadnaa", sum := "5c7185e5e6ba3f9bb7e288b5d315cba8a6858d5a4a82d2bc4ac2b4e59fb38f2c", func := "loop.example/cadastre/laws.FnExactListMerge", spec := "fnExactListMerge", unfollowed := true, recurses := true, apart := false }
def FnExactListMergeSaid : Prop := fnExactListMergeRow.holds Try.pinned (OpenSpec.ofChange fnExactListMergeSpec)

/-- ITS FALSE NEIGHBOUR: 'it returns false'. Refute it at one input. -/
def fnExactListMergeWrong : ChangeSpec := { name := "fnExactListMerge", fn := fun _ => fun
  | [d1, d2, d3] => { results := [.lit (.bool false)], args := [d1, d2, d3] }
  | _ => none }
def FnExactListMergeWrongFalsely : Prop := fnExactListMergeRow.holds Try.pinned (OpenSpec.ofChange fnExactListMergeWrong)

/-- 'laws.FnExactPlanCopy': WHATEVER THE INPUT: true; the input reads as it did. -/
def fnExactPlanCopySpec : ChangeSpec := { name := "fnExactPlanCopy", fn := fun _ => fun
  | [d1, d2, d3] => { results := [.lit (.bool true)], args := [d1, d2, d3] }
  | _ => none }
def fnExactPlanCopyRow : OpenClaim := { program := "ytodpodgdhiadnaa", sum := "5c7185e5e6ba3f9bb7e288b5d315cba8a6858d5a4a82d2bc4ac2b4e59fb38f2c", func := "loop.example/cadastre/laws.FnExactPlanCopy", spec := "fnExactPlanCopy", unfollowed := true, recurses := true, apart := false }
def FnExactPlanCopySaid : Prop := fnExactPlanCopyRow.holds Try.pinned (OpenSpec.ofChange fnExactPlanCopySpec)

/-- ITS FALSE NEIGHBOUR: 'it returns false'. Refute it at one input. -/
def fnExactPlanCopyWrong : ChangeSpec := { name := "fnExactPlanCopy", fn := fun _ => fun
  | [d1, d2, d3] => { results := [.lit (.bool false)], args := [d1, d2, d3] }
  | _ => none }
def FnExactPlanCopyWrongFalsely : Prop := fnExactPlanCopyRow.holds Try.pinned (OpenSpec.ofChange fnExactPlanCopyWrong)

/-- 'laws.FnExactPlanMove': WHATEVER THE INPUT: true; the input reads as it did. -/
def fnExactPlanMoveSpec : ChangeSpec := { name := "fnExactPlanMove", fn := fun _ => fun
  | [d1, d2, d3] => { results := [.lit (.bool true)], args := [d1, d2, d3] }
  | _ => none }
def fnExactPlanMoveRow : OpenClaim := { program := "ytodpodgdhiadnaa", sum := "5c7185e5e6ba3f9bb7e288b5d315cba8a6858d5a4a82d2bc4ac2b4e59fb38f2c", func := "loop.example/cadastre/laws.FnExactPlanMove", spec := "fnExactPlanMove", unfollowed := true, recurses := true, apart := false }
def FnExactPlanMoveSaid : Prop := fnExactPlanMoveRow.holds Try.pinned (OpenSpec.ofChange fnExactPlanMoveSpec)

/-- ITS FALSE NEIGHBOUR: 'it returns false'. Refute it at one input. -/
def fnExactPlanMoveWrong : ChangeSpec := { name := "fnExactPlanMove", fn := fun _ => fun
  | [d1, d2, d3] => { results := [.lit (.bool false)], args := [d1, d2, d3] }
  | _ => none }
def FnExactPlanMoveWrongFalsely : Prop := fnExactPlanMoveRow.holds Try.pinned (OpenSpec.ofChange fnExactPlanMoveWrong)

/-- 'laws.FnExactPlanDrop': WHATEVER THE INPUT: true; the input reads as it did. -/
def fnExactPlanDropSpec : ChangeSpec := { name := "fnExactPlanDrop", fn := fun _ => fun
  | [d1, d2] => { results := [.lit (.bool true)], args := [d1, d2] }
  | _ => none }
def fnExactPlanDropRow : OpenClaim := { program := "ytodpodgdhiadnaa", sum := "5c7185e5e6ba3f9bb7e288b5d315cba8a6858d5a4a82d2bc4ac2b4e59fb38f2c", func := "loop.example/cadastre/laws.FnExactPlanDrop", spec := "fnExactPlanDrop", unfollowed := true, recurses := true, apart := false }
def FnExactPlanDropSaid : Prop := fnExactPlanDropRow.holds Try.pinned (OpenSpec.ofChange fnExactPlanDropSpec)

/-- ITS FALSE NEIGHBOUR: 'it returns false'. Refute it at one input. -/
def fnExactPlanDropWrong : ChangeSpec := { name := "fnExactPlanDrop", fn := fun _ => fun
  | [d1, d2] => { results := [.lit (.bool false)], args := [d1, d2] }
  | _ => none }
def FnExactPlanDropWrongFalsely : Prop := fnExactPlanDropRow.holds Try.pinned (OpenSpec.ofChange fnExactPlanDropWrong)

/-- 'laws.FnPmapSpan': WHATEVER THE INPUT: true; the input reads as it did. -/
def fnPmapSpanSpec : ChangeSpec := { name := "fnPmapSpan", fn := fun _ => fun
  | [d] => { results := [.lit (.bool true)], args := [d] }
  | _ => none }
def fnPmapSpanRow : OpenClaim := { program := "ytodpodgdhiadnaa", sum := "5c7185e5e6ba3f9bb7e288b5d315cba8a6858d5a4a82d2bc4ac2b4e59fb38f2c", func := "loop.example/cadastre/laws.FnPmapSpan", spec := "fnPmapSpan", unfollowed := true, recurses := true, apart := false }
def FnPmapSpanSaid : Prop := fnPmapSpanRow.holds Try.pinned (OpenSpec.ofChange fnPmapSpanSpec)

/-- ITS FALSE NEIGHBOUR: 'it returns false'. Refute it at one input. -/
def fnPmapSpanWrong : ChangeSpec := { name := "fnPmapSpan", fn := fun _ => fun
  | [d] => { results := [.lit (.bool false)], args := [d] }
  | _ => none }
def FnPmapSpanWrongFalsely : Prop := fnPmapSpanRow.holds Try.pinned (OpenSpec.ofChange fnPmapSpanWrong)

/-- 'laws.FnPmapFind': WHATEVER THE INPUT: true; the input reads as it did. -/
def fnPmapFindSpec : ChangeSpec := { name := "fnPmapFind", fn := fun _ => fun
  | [d] => { results := [.lit (.bool true)], args := [d] }
  | _ => none }
def fnPmapFindRow : OpenClaim := { program := "ytodpodgdhiadnaa", sum := "5c7185e5e6ba3f9bb7e288b5d315cba8a6858d5a4a82d2bc4ac2b4e59fb38f2c", func := "loop.example/cadastre/laws.FnPmapFind", spec := "fnPmapFind", unfollowed := true, recurses := true, apart := false }
def FnPmapFindSaid : Prop := fnPmapFindRow.holds Try.pinned (OpenSpec.ofChange fnPmapFindSpec)

/-- ITS FALSE NEIGHBOUR: 'it returns false'. Refute it at one input. -/
def fnPmapFindWrong : ChangeSpec := { name := "fnPmapFind", fn := fun _ => fun
  | [d] => { results := [.lit (.bool false)], args := [d] }
  | _ => none }
def FnPmapFindWrongFalsely : Prop := fnPmapFindRow.holds Try.pinned (OpenSpec.ofChange fnPmapFindWrong)

/-- 'laws.FnPmapMerge': WHATEVER THE INPUT: true; the input reads as it did. -/
def fnPmapMergeSpec : ChangeSpec := { name := "fnPmapMerge", fn := fun _ => fun
  | [d] => { results := [.lit (.bool true)], args := [d] }
  | _ => none }
def fnPmapMergeRow : OpenClaim := { program := "ytodpodgdhiadnaa", sum := "5c7185e5e6ba3f9bb7e288b5d315cba8a6858d5a4a82d2bc4ac2b4e59fb38f2c", func := "loop.example/cadastre/laws.FnPmapMerge", spec := "fnPmapMerge", unfollowed := true, recurses := true, apart := false }
def FnPmapMergeSaid : Prop := fnPmapMergeRow.holds Try.pinned (OpenSpec.ofChange fnPmapMergeSpec)

/-- ITS FALSE NEIGHBOUR: 'it returns false'. Refute it at one input. -/
def fnPmapMergeWrong : ChangeSpec := { name := "fnPmapMerge", fn := fun _ => fun
  | [d] => { results := [.lit (.bool false)], args := [d] }
  | _ => none }
def FnPmapMergeWrongFalsely : Prop := fnPmapMergeRow.holds Try.pinned (OpenSpec.ofChange fnPmapMergeWrong)

/-- 'laws.FnPmapSplit': WHATEVER THE INPUT: true; the input reads as it did. -/
def fnPmapSplitSpec : ChangeSpec := { name := "fnPmapSplit", fn := fun _ => fun
  | [d1, d2] => { results := [.lit (.bool true)], args := [d1, d2] }
  | _ => none }
def fnPmapSplitRow : OpenClaim := { program := "ytodpodgdhiadnaa", sum := "5c7185e5e6ba3f9bb7e288b5d315cba8a6858d5a4a82d2bc4ac2b4e59fb38f2c", func := "loop.example/cadastre/laws.FnPmapSplit", spec := "fnPmapSplit", unfollowed := true, recurses := true, apart := false }
def FnPmapSplitSaid : Prop := fnPmapSplitRow.holds Try.pinned (OpenSpec.ofChange fnPmapSplitSpec)

/-- ITS FALSE NEIGHBOUR: 'it returns false'. Refute it at one input. -/
def fnPmapSplitWrong : ChangeSpec := { name := "fnPmapSplit", fn := fun _ => fun
  | [d1, d2] => { results := [.lit (.bool false)], args := [d1, d2] }
  | _ => none }
def FnPmapSplitWrongFalsely : Prop := fnPmapSplitRow.holds Try.pinned (OpenSpec.ofChange fnPmapSplitWrong)

/-- 'laws.FnTxnKeys': WHATEVER THE INPUT: true; the input reads as it did. -/
def fnTxnKeysSpec : ChangeSpec := { name := "fnTxnKeys", fn := fun _ => fun
  | [d] => { results := [.lit (.bool true)], args := [d] }
  | _ => none }
def fnTxnKeysRow : OpenClaim := { program := "ytodpodgdhiadnaa", sum := "5c7185e5e6ba3f9bb7e288b5d315cba8a6858d5a4a82d2bc4ac2b4e59fb38f2c", func := "loop.example/cadastre/laws.FnTxnKeys", spec := "fnTxnKeys", unfollowed := true, recurses := true, apart := false }
def FnTxnKeysSaid : Prop := fnTxnKeysRow.holds Try.pinned (OpenSpec.ofChange fnTxnKeysSpec)

/-- ITS FALSE NEIGHBOUR: 'it returns false'. Refute it at one input. -/
def fnTxnKeysWrong : ChangeSpec := { name := "fnTxnKeys", fn := fun _ => fun
  | [d] => { results := [.lit (.bool false)], args := [d] }
  | _ => none }
def FnTxnKeysWrongFalsely : Prop := fnTxnKeysRow.holds Try.pinned (OpenSpec.ofChange fnTxnKeysWrong)

/-- 'laws.FnTxnCut': WHATEVER THE INPUT: true; the input reads as it did. -/
def fnTxnCutSpec : ChangeSpec := { name := "fnTxnCut", fn := fun _ => fun
  | [d1, d2] => { results := [.lit (.bool true)], args := [d1, d2] }
  | _ => none }
def fnTxnCutRow : OpenClaim := { program := "ytodpodgdhiadnaa", sum := "5c7185e5e6ba3f9bb7e288b5d315cba8a6858d5a4a82d2bc4ac2b4e59fb38f2c", func := "loop.example/cadastre/laws.FnTxnCut", spec := "fnTxnCut", unfollowed := true, recurses := true, apart := false }
def FnTxnCutSaid : Prop := fnTxnCutRow.holds Try.pinned (OpenSpec.ofChange fnTxnCutSpec)

/-- ITS FALSE NEIGHBOUR: 'it returns false'. Refute it at one input. -/
def fnTxnCutWrong : ChangeSpec := { name := "fnTxnCut", fn := fun _ => fun
  | [d1, d2] => { results := [.lit (.bool false)], args := [d1, d2] }
  | _ => none }
def FnTxnCutWrongFalsely : Prop := fnTxnCutRow.holds Try.pinned (OpenSpec.ofChange fnTxnCutWrong)

/- THE SECOND FORM. 'bulk': how many values and letters a reading holds, each counted each time it is reached (what is shared counts as often as it is met; a slice's spare places count too). A statement '..UptoSaid' is the law's where the arguments, and the package variables that the reading takes, are together of bulk at most 1048576: NARROWER than '..Said'. Prove '..Said' where nothing that the law and all that it calls make is longer than what came in: it says more and counts as full. Else prove '..UptoSaid'. A law counts once. -/
mutual
def uptoBulk {H : Type} : DataW H → Nat
  | .lit (.string bytes) => bytes.length + 1
  | .lit _ => 1
  | .nil => 1
  | .ptr d => uptoBulk d + 1
  | .slice elems spare => uptoBulkAll elems + uptoBulkAll spare + 1
  | .agg parts => uptoBulkAll parts + 1
  | .iface _ d => uptoBulk d + 1
  | .map entries => uptoBulkEntries entries + 1
  | .held _ => 1
def uptoBulkAll {H : Type} : List (DataW H) → Nat
  | [] => 0
  | d :: r => uptoBulk d + uptoBulkAll r
def uptoBulkEntries {H : Type} : List (Lit × DataW H) → Nat
  | [] => 0
  | x :: r => uptoBulkEntry x + uptoBulkEntries r
def uptoBulkEntry {H : Type} : Lit × DataW H → Nat
  | (.string bytes, d) => bytes.length + uptoBulk d + 1
  | (_, d) => uptoBulk d + 1
 end
def uptoSmall : (H : Type) → List (DataW H) → Bool := fun _ ds => decide (uptoBulkAll ds ≤ 1048576)
def OpenSpec.upto (s : _root_.Go.ChangeSpec) : _root_.Go.OpenSpec := { _root_.Go.OpenSpec.ofChange s with cond := some uptoSmall }

/-- 'laws.FnExactVmapPut', WHERE WHAT IT READS IS OF BULK AT MOST 1048576: true; the input reads as it did. -/
def fnExactVmapPutUptoRow : OpenClaim := { program := "ytodpodgdhiadnaa", sum := "5c7185e5e6ba3f9bb7e288b5d315cba8a6858d5a4a82d2bc4ac2b4e59fb38f2c", func := "loop.example/cadastre/laws.FnExactVmapPut", spec := "fnExactVmapPut", unfollowed := true, recurses := true, apart := false, narrowed := true }
def FnExactVmapPutUptoSaid : Prop := fnExactVmapPutUptoRow.holds Try.pinned (OpenSpec.upto fnExactVmapPutSpec)

/-- 'laws.FnExactHistKey', WHERE WHAT IT READS IS OF BULK AT MOST 1048576: true; the input reads as it did. -/
def fnExactHistKeyUptoRow : OpenClaim := { program := "ytodpodgdhiadnaa", sum := "5c7185e5e6ba3f9bb7e288b5d315cba8a6858d5a4a82d2bc4ac2b4e59fb38f2c", func := "loop.example/cadastre/laws.FnExactHistKey", spec := "fnExactHistKey", unfollowed := true, recurses := true, apart := false, narrowed := true }
def FnExactHistKeyUptoSaid : Prop := fnExactHistKeyUptoRow.holds Try.pinned (OpenSpec.upto fnExactHistKeySpec)

/-- 'laws.FnExactListMerge', WHERE WHAT IT READS IS OF BULK AT MOST 1048576: true; the input reads as it did. -/
def fnExactListMergeUptoRow : OpenClaim := { program := "ytodpodgdhiadnaa", sum := "5c7185e5e6ba3f9bb7e288b5d315cba8a6858d5a4a82d2bc4ac2b4e59fb38f2c", func := "loop.example/cadastre/laws.FnExactListMerge", spec := "fnExactListMerge", unfollowed := true, recurses := true, apart := false, narrowed := true }
def FnExactListMergeUptoSaid : Prop := fnExactListMergeUptoRow.holds Try.pinned (OpenSpec.upto fnExactListMergeSpec)

/-- 'laws.FnExactPlanCopy', WHERE WHAT IT READS IS OF BULK AT MOST 1048576: true; the input reads as it did. -/
def fnExactPlanCopyUptoRow : OpenClaim := { program := "ytodpodgdhiadnaa", sum := "5c7185e5e6ba3f9bb7e288b5d315cba8a6858d5a4a82d2bc4ac2b4e59fb38f2c", func := "loop.example/cadastre/laws.FnExactPlanCopy", spec := "fnExactPlanCopy", unfollowed := true, recurses := true, apart := false, narrowed := true }
def FnExactPlanCopyUptoSaid : Prop := fnExactPlanCopyUptoRow.holds Try.pinned (OpenSpec.upto fnExactPlanCopySpec)

/-- 'laws.FnExactPlanMove', WHERE WHAT IT READS IS OF BULK AT MOST 1048576: true; the input reads as it did. -/
def fnExactPlanMoveUptoRow : OpenClaim := { program := "ytodpodgdhiadnaa", sum := "5c7185e5e6ba3f9bb7e288b5d315cba8a6858d5a4a82d2bc4ac2b4e59fb38f2c", func := "loop.example/cadastre/laws.FnExactPlanMove", spec := "fnExactPlanMove", unfollowed := true, recurses := true, apart := false, narrowed := true }
def FnExactPlanMoveUptoSaid : Prop := fnExactPlanMoveUptoRow.holds Try.pinned (OpenSpec.upto fnExactPlanMoveSpec)

/-- 'laws.FnExactPlanDrop', WHERE WHAT IT READS IS OF BULK AT MOST 1048576: true; the input reads as it did. -/
def fnExactPlanDropUptoRow : OpenClaim := { program := "ytodpodgdhiadnaa", sum := "5c7185e5e6ba3f9bb7e288b5d315cba8a6858d5a4a82d2bc4ac2b4e59fb38f2c", func := "loop.example/cadastre/laws.FnExactPlanDrop", spec := "fnExactPlanDrop", unfollowed := true, recurses := true, apart := false, narrowed := true }
def FnExactPlanDropUptoSaid : Prop := fnExactPlanDropUptoRow.holds Try.pinned (OpenSpec.upto fnExactPlanDropSpec)

/-- 'laws.FnPmapSpan', WHERE WHAT IT READS IS OF BULK AT MOST 1048576: true; the input reads as it did. -/
def fnPmapSpanUptoRow : OpenClaim := { program := "ytodpodgdhiadnaa", sum := "5c7185e5e6ba3f9bb7e288b5d315cba8a6858d5a4a82d2bc4ac2b4e59fb38f2c", func := "loop.example/cadastre/laws.FnPmapSpan", spec := "fnPmapSpan", unfollowed := true, recurses := true, apart := false, narrowed := true }
def FnPmapSpanUptoSaid : Prop := fnPmapSpanUptoRow.holds Try.pinned (OpenSpec.upto fnPmapSpanSpec)

/-- 'laws.FnPmapFind', WHERE WHAT IT READS IS OF BULK AT MOST 1048576: true; the input reads as it did. -/
def fnPmapFindUptoRow : OpenClaim := { program := "ytodpodgdhiadnaa", sum := "5c7185e5e6ba3f9bb7e288b5d315cba8a6858d5a4a82d2bc4ac2b4e59fb38f2c", func := "loop.example/cadastre/laws.FnPmapFind", spec := "fnPmapFind", unfollowed := true, recurses := true, apart := false, narrowed := true }
def FnPmapFindUptoSaid : Prop := fnPmapFindUptoRow.holds Try.pinned (OpenSpec.upto fnPmapFindSpec)

/-- 'laws.FnPmapMerge', WHERE WHAT IT READS IS OF BULK AT MOST 1048576: true; the input reads as it did. -/
def fnPmapMergeUptoRow : OpenClaim := { program := "ytodpodgdhiadnaa", sum := "5c7185e5e6ba3f9bb7e288b5d315cba8a6858d5a4a82d2bc4ac2b4e59fb38f2c", func := "loop.example/cadastre/laws.FnPmapMerge", spec := "fnPmapMerge", unfollowed := true, recurses := true, apart := false, narrowed := true }
def FnPmapMergeUptoSaid : Prop := fnPmapMergeUptoRow.holds Try.pinned (OpenSpec.upto fnPmapMergeSpec)

/-- 'laws.FnPmapSplit', WHERE WHAT IT READS IS OF BULK AT MOST 1048576: true; the input reads as it did. -/
def fnPmapSplitUptoRow : OpenClaim := { program := "ytodpodgdhiadnaa", sum := "5c7185e5e6ba3f9bb7e288b5d315cba8a6858d5a4a82d2bc4ac2b4e59fb38f2c", func := "loop.example/cadastre/laws.FnPmapSplit", spec := "fnPmapSplit", unfollowed := true, recurses := true, apart := false, narrowed := true }
def FnPmapSplitUptoSaid : Prop := fnPmapSplitUptoRow.holds Try.pinned (OpenSpec.upto fnPmapSplitSpec)

/-- 'laws.FnTxnKeys', WHERE WHAT IT READS IS OF BULK AT MOST 1048576: true; the input reads as it did. -/
def fnTxnKeysUptoRow : OpenClaim := { program := "ytodpodgdhiadnaa", sum := "5c7185e5e6ba3f9bb7e288b5d315cba8a6858d5a4a82d2bc4ac2b4e59fb38f2c", func := "loop.example/cadastre/laws.FnTxnKeys", spec := "fnTxnKeys", unfollowed := true, recurses := true, apart := false, narrowed := true }
def FnTxnKeysUptoSaid : Prop := fnTxnKeysUptoRow.holds Try.pinned (OpenSpec.upto fnTxnKeysSpec)

/-- 'laws.FnTxnCut', WHERE WHAT IT READS IS OF BULK AT MOST 1048576: true; the input reads as it did. -/
def fnTxnCutUptoRow : OpenClaim := { program := "ytodpodgdhiadnaa", sum := "5c7185e5e6ba3f9bb7e288b5d315cba8a6858d5a4a82d2bc4ac2b4e59fb38f2c", func := "loop.example/cadastre/laws.FnTxnCut", spec := "fnTxnCut", unfollowed := true, recurses := true, apart := false, narrowed := true }
def FnTxnCutUptoSaid : Prop := fnTxnCutUptoRow.holds Try.pinned (OpenSpec.upto fnTxnCutSpec)

end Rows
end Go.Proofs.Ytodpodgdhiadnaa
