/-
  No cell of these rows narrows 'for every input' (looked for: loops, veiled, ifaces, maps, wideKeys, modest, calm, conditions, laid).
  DERIVED. THE GIVEN ROWS OF THIS SEAT. 12 by the template 'for every input the law returns true; each argument reads behind the call as it read before'; 0 by the template 'total and deterministic' (their statements: YtjijichgoodocaaTotals.lean).
  GIVEN WITH THE SEED: the statements are not yours to turn. If you find one false, say at which input.
  Laid BY PROGRAM, IN A SANDBOX (cutbox-rows.mjs): the forced cells as the released guide's own fill.sh prints them over the translation cdecf8f26b1c367a… (all of the seat's roots in one cut). By AI agents, Wed Nov 11 2026. No macro, syntax, notation, axiom, sorry.
-/
import Derived.Test.YtjijichgoodocaaChecked
import GoSem.Claim
import GoSem.ClaimJoined
import GoSem.ClaimMapViews
import Derived.JoinedTies
import Derived.KernelRfl
namespace Go.Proofs.Ytjijichgoodocaa
/- THE CELL 'sum', in the pinned program and in every row, IS THE sha256 OF THE DUMP (.gsa) THAT YtjijichgoodocaaProg.lean LOADS. Nothing in Lean hashes anything: it is a label: what it is worth is what the hold of that sum in a sandbox is worth. -/
noncomputable def Try.pinned : Pinned := { name := "ytjijichgoodocaa", sum := "cdecf8f26b1c367a548909f1fab4f0f74467ebbd881f18b888e906a4beef9c86", checked := Try.checked }
namespace Rows
def none {H : Type} : Left H := { results := [], args := [] }

/-- 'laws.FnVmapPut': WHATEVER THE INPUT: true; the input reads as it did. -/
def fnVmapPutSpec : ChangeSpec := { name := "fnVmapPut", fn := fun _ => fun
  | [d1, d2] => { results := [.lit (.bool true)], args := [d1, d2] }
  | _ => none }
def fnVmapPutRow : OpenClaim := { program := "ytjijichgoodocaa", sum := "cdecf8f26b1c367a548909f1fab4f0f74467ebbd881f18b888e906a4beef9c86", func := "loop.example/cadastre/laws.FnVmapPut", spec := "fnVmapPut", unfollowed := true, recurses := true, apart := false }
def FnVmapPutSaid : Prop := fnVmapPutRow.holds Try.pinned (OpenSpec.ofChange fnVmapPutSpec)

/-- ITS FALSE NEIGHBOUR: 'it returns false'. Refute it at one input. -/
def fnVmapPutWrong : ChangeSpec := { name := "fnVmapPut", fn := fun _ => fun
  | [d1, d2] => { results := [.lit (.bool false)], args := [d1, d2] }
  | _ => none }
def FnVmapPutWrongFalsely : Prop := fnVmapPutRow.holds Try.pinned (OpenSpec.ofChange fnVmapPutWrong)

/-- 'laws.FnVmapAt': WHATEVER THE INPUT: true; the input reads as it did. -/
def fnVmapAtSpec : ChangeSpec := { name := "fnVmapAt", fn := fun _ => fun
  | [d] => { results := [.lit (.bool true)], args := [d] }
  | _ => none }
def fnVmapAtRow : OpenClaim := { program := "ytjijichgoodocaa", sum := "cdecf8f26b1c367a548909f1fab4f0f74467ebbd881f18b888e906a4beef9c86", func := "loop.example/cadastre/laws.FnVmapAt", spec := "fnVmapAt", unfollowed := true, recurses := true, apart := false }
def FnVmapAtSaid : Prop := fnVmapAtRow.holds Try.pinned (OpenSpec.ofChange fnVmapAtSpec)

/-- ITS FALSE NEIGHBOUR: 'it returns false'. Refute it at one input. -/
def fnVmapAtWrong : ChangeSpec := { name := "fnVmapAt", fn := fun _ => fun
  | [d] => { results := [.lit (.bool false)], args := [d] }
  | _ => none }
def FnVmapAtWrongFalsely : Prop := fnVmapAtRow.holds Try.pinned (OpenSpec.ofChange fnVmapAtWrong)

/-- 'laws.FnVmapGet': WHATEVER THE INPUT: true; the input reads as it did. -/
def fnVmapGetSpec : ChangeSpec := { name := "fnVmapGet", fn := fun _ => fun
  | [d] => { results := [.lit (.bool true)], args := [d] }
  | _ => none }
def fnVmapGetRow : OpenClaim := { program := "ytjijichgoodocaa", sum := "cdecf8f26b1c367a548909f1fab4f0f74467ebbd881f18b888e906a4beef9c86", func := "loop.example/cadastre/laws.FnVmapGet", spec := "fnVmapGet", unfollowed := true, recurses := true, apart := false }
def FnVmapGetSaid : Prop := fnVmapGetRow.holds Try.pinned (OpenSpec.ofChange fnVmapGetSpec)

/-- ITS FALSE NEIGHBOUR: 'it returns false'. Refute it at one input. -/
def fnVmapGetWrong : ChangeSpec := { name := "fnVmapGet", fn := fun _ => fun
  | [d] => { results := [.lit (.bool false)], args := [d] }
  | _ => none }
def FnVmapGetWrongFalsely : Prop := fnVmapGetRow.holds Try.pinned (OpenSpec.ofChange fnVmapGetWrong)

/-- 'laws.FnVmapCut': WHATEVER THE INPUT: true; the input reads as it did. -/
def fnVmapCutSpec : ChangeSpec := { name := "fnVmapCut", fn := fun _ => fun
  | [d1, d2] => { results := [.lit (.bool true)], args := [d1, d2] }
  | _ => none }
def fnVmapCutRow : OpenClaim := { program := "ytjijichgoodocaa", sum := "cdecf8f26b1c367a548909f1fab4f0f74467ebbd881f18b888e906a4beef9c86", func := "loop.example/cadastre/laws.FnVmapCut", spec := "fnVmapCut", unfollowed := true, recurses := true, apart := false }
def FnVmapCutSaid : Prop := fnVmapCutRow.holds Try.pinned (OpenSpec.ofChange fnVmapCutSpec)

/-- ITS FALSE NEIGHBOUR: 'it returns false'. Refute it at one input. -/
def fnVmapCutWrong : ChangeSpec := { name := "fnVmapCut", fn := fun _ => fun
  | [d1, d2] => { results := [.lit (.bool false)], args := [d1, d2] }
  | _ => none }
def FnVmapCutWrongFalsely : Prop := fnVmapCutRow.holds Try.pinned (OpenSpec.ofChange fnVmapCutWrong)

/-- 'laws.FnVmapJoin': WHATEVER THE INPUT: true; the input reads as it did. -/
def fnVmapJoinSpec : ChangeSpec := { name := "fnVmapJoin", fn := fun _ => fun
  | [d1, d2] => { results := [.lit (.bool true)], args := [d1, d2] }
  | _ => none }
def fnVmapJoinRow : OpenClaim := { program := "ytjijichgoodocaa", sum := "cdecf8f26b1c367a548909f1fab4f0f74467ebbd881f18b888e906a4beef9c86", func := "loop.example/cadastre/laws.FnVmapJoin", spec := "fnVmapJoin", unfollowed := true, recurses := true, apart := false }
def FnVmapJoinSaid : Prop := fnVmapJoinRow.holds Try.pinned (OpenSpec.ofChange fnVmapJoinSpec)

/-- ITS FALSE NEIGHBOUR: 'it returns false'. Refute it at one input. -/
def fnVmapJoinWrong : ChangeSpec := { name := "fnVmapJoin", fn := fun _ => fun
  | [d1, d2] => { results := [.lit (.bool false)], args := [d1, d2] }
  | _ => none }
def FnVmapJoinWrongFalsely : Prop := fnVmapJoinRow.holds Try.pinned (OpenSpec.ofChange fnVmapJoinWrong)

/-- 'laws.FnVmapPrune': WHATEVER THE INPUT: true; the input reads as it did. -/
def fnVmapPruneSpec : ChangeSpec := { name := "fnVmapPrune", fn := fun _ => fun
  | [d1, d2] => { results := [.lit (.bool true)], args := [d1, d2] }
  | _ => none }
def fnVmapPruneRow : OpenClaim := { program := "ytjijichgoodocaa", sum := "cdecf8f26b1c367a548909f1fab4f0f74467ebbd881f18b888e906a4beef9c86", func := "loop.example/cadastre/laws.FnVmapPrune", spec := "fnVmapPrune", unfollowed := true, recurses := true, apart := false }
def FnVmapPruneSaid : Prop := fnVmapPruneRow.holds Try.pinned (OpenSpec.ofChange fnVmapPruneSpec)

/-- ITS FALSE NEIGHBOUR: 'it returns false'. Refute it at one input. -/
def fnVmapPruneWrong : ChangeSpec := { name := "fnVmapPrune", fn := fun _ => fun
  | [d1, d2] => { results := [.lit (.bool false)], args := [d1, d2] }
  | _ => none }
def FnVmapPruneWrongFalsely : Prop := fnVmapPruneRow.holds Try.pinned (OpenSpec.ofChange fnVmapPruneWrong)

/-- 'laws.FnTxnCut': WHATEVER THE INPUT: true; the input reads as it did. -/
def fnTxnCutSpec : ChangeSpec := { name := "fnTxnCut", fn := fun _ => fun
  | [d1, d2] => { results := [.lit (.bool true)], args := [d1, d2] }
  | _ => none }
def fnTxnCutRow : OpenClaim := { program := "ytjijichgoodocaa", sum := "cdecf8f26b1c367a548909f1fab4f0f74467ebbd881f18b888e906a4beef9c86", func := "loop.example/cadastre/laws.FnTxnCut", spec := "fnTxnCut", unfollowed := true, recurses := true, apart := false }
def FnTxnCutSaid : Prop := fnTxnCutRow.holds Try.pinned (OpenSpec.ofChange fnTxnCutSpec)

/-- ITS FALSE NEIGHBOUR: 'it returns false'. Refute it at one input. -/
def fnTxnCutWrong : ChangeSpec := { name := "fnTxnCut", fn := fun _ => fun
  | [d1, d2] => { results := [.lit (.bool false)], args := [d1, d2] }
  | _ => none }
def FnTxnCutWrongFalsely : Prop := fnTxnCutRow.holds Try.pinned (OpenSpec.ofChange fnTxnCutWrong)

/-- 'laws.FnTxnKeys': WHATEVER THE INPUT: true; the input reads as it did. -/
def fnTxnKeysSpec : ChangeSpec := { name := "fnTxnKeys", fn := fun _ => fun
  | [d] => { results := [.lit (.bool true)], args := [d] }
  | _ => none }
def fnTxnKeysRow : OpenClaim := { program := "ytjijichgoodocaa", sum := "cdecf8f26b1c367a548909f1fab4f0f74467ebbd881f18b888e906a4beef9c86", func := "loop.example/cadastre/laws.FnTxnKeys", spec := "fnTxnKeys", unfollowed := true, recurses := true, apart := false }
def FnTxnKeysSaid : Prop := fnTxnKeysRow.holds Try.pinned (OpenSpec.ofChange fnTxnKeysSpec)

/-- ITS FALSE NEIGHBOUR: 'it returns false'. Refute it at one input. -/
def fnTxnKeysWrong : ChangeSpec := { name := "fnTxnKeys", fn := fun _ => fun
  | [d] => { results := [.lit (.bool false)], args := [d] }
  | _ => none }
def FnTxnKeysWrongFalsely : Prop := fnTxnKeysRow.holds Try.pinned (OpenSpec.ofChange fnTxnKeysWrong)

/-- 'laws.FnRouteFind': WHATEVER THE INPUT: true; the input reads as it did. -/
def fnRouteFindSpec : ChangeSpec := { name := "fnRouteFind", fn := fun _ => fun
  | [d] => { results := [.lit (.bool true)], args := [d] }
  | _ => none }
def fnRouteFindRow : OpenClaim := { program := "ytjijichgoodocaa", sum := "cdecf8f26b1c367a548909f1fab4f0f74467ebbd881f18b888e906a4beef9c86", func := "loop.example/cadastre/laws.FnRouteFind", spec := "fnRouteFind", unfollowed := true, recurses := true, apart := false }
def FnRouteFindSaid : Prop := fnRouteFindRow.holds Try.pinned (OpenSpec.ofChange fnRouteFindSpec)

/-- ITS FALSE NEIGHBOUR: 'it returns false'. Refute it at one input. -/
def fnRouteFindWrong : ChangeSpec := { name := "fnRouteFind", fn := fun _ => fun
  | [d] => { results := [.lit (.bool false)], args := [d] }
  | _ => none }
def FnRouteFindWrongFalsely : Prop := fnRouteFindRow.holds Try.pinned (OpenSpec.ofChange fnRouteFindWrong)

/-- 'laws.FnRouteAll': WHATEVER THE INPUT: true; the input reads as it did. -/
def fnRouteAllSpec : ChangeSpec := { name := "fnRouteAll", fn := fun _ => fun
  | [d1, d2] => { results := [.lit (.bool true)], args := [d1, d2] }
  | _ => none }
def fnRouteAllRow : OpenClaim := { program := "ytjijichgoodocaa", sum := "cdecf8f26b1c367a548909f1fab4f0f74467ebbd881f18b888e906a4beef9c86", func := "loop.example/cadastre/laws.FnRouteAll", spec := "fnRouteAll", unfollowed := true, recurses := true, apart := false }
def FnRouteAllSaid : Prop := fnRouteAllRow.holds Try.pinned (OpenSpec.ofChange fnRouteAllSpec)

/-- ITS FALSE NEIGHBOUR: 'it returns false'. Refute it at one input. -/
def fnRouteAllWrong : ChangeSpec := { name := "fnRouteAll", fn := fun _ => fun
  | [d1, d2] => { results := [.lit (.bool false)], args := [d1, d2] }
  | _ => none }
def FnRouteAllWrongFalsely : Prop := fnRouteAllRow.holds Try.pinned (OpenSpec.ofChange fnRouteAllWrong)

/-- 'laws.FnRouteRight': WHATEVER THE INPUT: true; the input reads as it did. -/
def fnRouteRightSpec : ChangeSpec := { name := "fnRouteRight", fn := fun _ => fun
  | [d1, d2] => { results := [.lit (.bool true)], args := [d1, d2] }
  | _ => none }
def fnRouteRightRow : OpenClaim := { program := "ytjijichgoodocaa", sum := "cdecf8f26b1c367a548909f1fab4f0f74467ebbd881f18b888e906a4beef9c86", func := "loop.example/cadastre/laws.FnRouteRight", spec := "fnRouteRight", unfollowed := true, recurses := true, apart := false }
def FnRouteRightSaid : Prop := fnRouteRightRow.holds Try.pinned (OpenSpec.ofChange fnRouteRightSpec)

/-- ITS FALSE NEIGHBOUR: 'it returns false'. Refute it at one input. -/
def fnRouteRightWrong : ChangeSpec := { name := "fnRouteRight", fn := fun _ => fun
  | [d1, d2] => { results := [.lit (.bool false)], args := [d1, d2] }
  | _ => none }
def FnRouteRightWrongFalsely : Prop := fnRouteRightRow.holds Try.pinned (OpenSpec.ofChange fnRouteRightWrong)

/-- 'laws.FnExactVmapPut': WHATEVER THE INPUT: true; the input reads as it did. -/
def fnExactVmapPutSpec : ChangeSpec := { name := "fnExactVmapPut", fn := fun _ => fun
  | [d1, d2, d3] => { results := [.lit (.bool true)], args := [d1, d2, d3] }
  | _ => none }
def fnExactVmapPutRow : OpenClaim := { program := "ytjijichgoodocaa", sum := "cdecf8f26b1c367a548909f1fab4f0f74467ebbd881f18b888e906a4beef9c86", func := "loop.example/cadastre/laws.FnExactVmapPut", spec := "fnExactVmapPut", unfollowed := true, recurses := true, apart := false }
def FnExactVmapPutSaid : Prop := fnExactVmapPutRow.holds Try.pinned (OpenSpec.ofChange fnExactVmapPutSpec)

/-- ITS FALSE NEIGHBOUR: 'it returns false'. Refute it at one input. -/
def fnExactVmapPutWrong : ChangeSpec := { name := "fnExactVmapPut", fn := fun _ => fun
  | [d1, d2, d3] => { results := [.lit (.bool false)], args := [d1, d2, d3] }
  | _ => none }
def FnExactVmapPutWrongFalsely : Prop := fnExactVmapPutRow.holds Try.pinned (OpenSpec.ofChange fnExactVmapPutWrong)

/- THE SECOND FORM. 'bulk': how many values and letters a reading holds, each counted each time it is reached (what is shared counts as often as it is met; a slice's spare places count too). A statement '..UptoSaid' is the law's where the arguments, and the package variables that the reading takes, are together of bulk at most 1048576: NARROWER than '..Said'. Prove '..Said' where nothing that the law and all that it calls make is longer than what came in: it says more and counts as full. Else prove '..UptoSaid'. A law counts once. -/
mutual
def uptoBulk {H : Type} : DataW H → Nat
  | .lit (.string bytes) => bytes.length + 1
  | .lit _ => 1
  | .nil => 1
  | .ptr d => uptoBulk d + 1
  | .slice elems spare => uptoBulkAll elems + uptoBulkAll spare + 1
  | .agg parts => uptoBulkAll parts + 1
  | .iface _ d => uptoBulk d + 1
  | .map entries => uptoBulkEntries entries + 1
  | .held _ => 1
def uptoBulkAll {H : Type} : List (DataW H) → Nat
  | [] => 0
  | d :: r => uptoBulk d + uptoBulkAll r
def uptoBulkEntries {H : Type} : List (Lit × DataW H) → Nat
  | [] => 0
  | x :: r => uptoBulkEntry x + uptoBulkEntries r
def uptoBulkEntry {H : Type} : Lit × DataW H → Nat
  | (.string bytes, d) => bytes.length + uptoBulk d + 1
  | (_, d) => uptoBulk d + 1
 end
def uptoSmall : (H : Type) → List (DataW H) → Bool := fun _ ds => decide (uptoBulkAll ds ≤ 1048576)
def OpenSpec.upto (s : _root_.Go.ChangeSpec) : _root_.Go.OpenSpec := { _root_.Go.OpenSpec.ofChange s with cond := some uptoSmall }

/-- 'laws.FnVmapPut', WHERE WHAT IT READS IS OF BULK AT MOST 1048576: true; the input reads as it did. -/
def fnVmapPutUptoRow : OpenClaim := { program := "ytjijichgoodocaa", sum := "cdecf8f26b1c367a548909f1fab4f0f74467ebbd881f18b888e906a4beef9c86", func := "loop.example/cadastre/laws.FnVmapPut", spec := "fnVmapPut", unfollowed := true, recurses := true, apart := false, narrowed := true }
def FnVmapPutUptoSaid : Prop := fnVmapPutUptoRow.holds Try.pinned (OpenSpec.upto fnVmapPutSpec)

/-- 'laws.FnVmapAt', WHERE WHAT IT READS IS OF BULK AT MOST 1048576: true; the input reads as it did. -/
def fnVmapAtUptoRow : OpenClaim := { program := "ytjijichgoodocaa", sum := "cdecf8f26b1c367a548909f1fab4f0f74467ebbd881f18b888e906a4beef9c86", func := "loop.example/cadastre/laws.FnVmapAt", spec := "fnVmapAt", unfollowed := true, recurses := true, apart := false, narrowed := true }
def FnVmapAtUptoSaid : Prop := fnVmapAtUptoRow.holds Try.pinned (OpenSpec.upto fnVmapAtSpec)

/-- 'laws.FnVmapGet', WHERE WHAT IT READS IS OF BULK AT MOST 1048576: true; the input reads as it did. -/
def fnVmapGetUptoRow : OpenClaim := { program := "ytjijichgoodocaa", sum := "cdecf8f26b1c367a548909f1fab4f0f74467ebbd881f18b888e906a4beef9c86", func := "loop.example/cadastre/laws.FnVmapGet", spec := "fnVmapGet", unfollowed := true, recurses := true, apart := false, narrowed := true }
def FnVmapGetUptoSaid : Prop := fnVmapGetUptoRow.holds Try.pinned (OpenSpec.upto fnVmapGetSpec)

/-- 'laws.FnVmapCut', WHERE WHAT IT READS IS OF BULK AT MOST 1048576: true; the input reads as it did. -/
def fnVmapCutUptoRow : OpenClaim := { program := "ytjijichgoodocaa", sum := "cdecf8f26b1c367a548909f1fab4f0f74467ebbd881f18b888e906a4beef9c86", func := "loop.example/cadastre/laws.FnVmapCut", spec := "fnVmapCut", unfollowed := true, recurses := true, apart := false, narrowed := true }
def FnVmapCutUptoSaid : Prop := fnVmapCutUptoRow.holds Try.pinned (OpenSpec.upto fnVmapCutSpec)

/-- 'laws.FnVmapJoin', WHERE WHAT IT READS IS OF BULK AT MOST 1048576: true; the input reads as it did. -/
def fnVmapJoinUptoRow : OpenClaim := { program := "ytjijichgoodocaa", sum := "cdecf8f26b1c367a548909f1fab4f0f74467ebbd881f18b888e906a4beef9c86", func := "loop.example/cadastre/laws.FnVmapJoin", spec := "fnVmapJoin", unfollowed := true, recurses := true, apart := false, narrowed := true }
def FnVmapJoinUptoSaid : Prop := fnVmapJoinUptoRow.holds Try.pinned (OpenSpec.upto fnVmapJoinSpec)

/-- 'laws.FnVmapPrune', WHERE WHAT IT READS IS OF BULK AT MOST 1048576: true; the input reads as it did. -/
def fnVmapPruneUptoRow : OpenClaim := { program := "ytjijichgoodocaa", sum := "cdecf8f26b1c367a548909f1fab4f0f74467ebbd881f18b888e906a4beef9c86", func := "loop.example/cadastre/laws.FnVmapPrune", spec := "fnVmapPrune", unfollowed := true, recurses := true, apart := false, narrowed := true }
def FnVmapPruneUptoSaid : Prop := fnVmapPruneUptoRow.holds Try.pinned (OpenSpec.upto fnVmapPruneSpec)

/-- 'laws.FnTxnCut', WHERE WHAT IT READS IS OF BULK AT MOST 1048576: true; the input reads as it did. -/
def fnTxnCutUptoRow : OpenClaim := { program := "ytjijichgoodocaa", sum := "cdecf8f26b1c367a548909f1fab4f0f74467ebbd881f18b888e906a4beef9c86", func := "loop.example/cadastre/laws.FnTxnCut", spec := "fnTxnCut", unfollowed := true, recurses := true, apart := false, narrowed := true }
def FnTxnCutUptoSaid : Prop := fnTxnCutUptoRow.holds Try.pinned (OpenSpec.upto fnTxnCutSpec)

/-- 'laws.FnTxnKeys', WHERE WHAT IT READS IS OF BULK AT MOST 1048576: true; the input reads as it did. -/
def fnTxnKeysUptoRow : OpenClaim := { program := "ytjijichgoodocaa", sum := "cdecf8f26b1c367a548909f1fab4f0f74467ebbd881f18b888e906a4beef9c86", func := "loop.example/cadastre/laws.FnTxnKeys", spec := "fnTxnKeys", unfollowed := true, recurses := true, apart := false, narrowed := true }
def FnTxnKeysUptoSaid : Prop := fnTxnKeysUptoRow.holds Try.pinned (OpenSpec.upto fnTxnKeysSpec)

/-- 'laws.FnRouteFind', WHERE WHAT IT READS IS OF BULK AT MOST 1048576: true; the input reads as it did. -/
def fnRouteFindUptoRow : OpenClaim := { program := "ytjijichgoodocaa", sum := "cdecf8f26b1c367a548909f1fab4f0f74467ebbd881f18b888e906a4beef9c86", func := "loop.example/cadastre/laws.FnRouteFind", spec := "fnRouteFind", unfollowed := true, recurses := true, apart := false, narrowed := true }
def FnRouteFindUptoSaid : Prop := fnRouteFindUptoRow.holds Try.pinned (OpenSpec.upto fnRouteFindSpec)

/-- 'laws.FnRouteAll', WHERE WHAT IT READS IS OF BULK AT MOST 1048576: true; the input reads as it did. -/
def fnRouteAllUptoRow : OpenClaim := { program := "ytjijichgoodocaa", sum := "cdecf8f26b1c367a548909f1fab4f0f74467ebbd881f18b888e906a4beef9c86", func := "loop.example/cadastre/laws.FnRouteAll", spec := "fnRouteAll", unfollowed := true, recurses := true, apart := false, narrowed := true }
def FnRouteAllUptoSaid : Prop := fnRouteAllUptoRow.holds Try.pinned (OpenSpec.upto fnRouteAllSpec)

/-- 'laws.FnRouteRight', WHERE WHAT IT READS IS OF BULK AT MOST 1048576: true; the input reads as it did. -/
def fnRouteRightUptoRow : OpenClaim := { program := "ytjijichgoodocaa", sum := "cdecf8f26b1c367a548909f1fab4f0f74467ebbd881f18b888e906a4beef9c86", func := "loop.example/cadastre/laws.FnRouteRight", spec := "fnRouteRight", unfollowed := true, recurses := true, apart := false, narrowed := true }
def FnRouteRightUptoSaid : Prop := fnRouteRightUptoRow.holds Try.pinned (OpenSpec.upto fnRouteRightSpec)

/-- 'laws.FnExactVmapPut', WHERE WHAT IT READS IS OF BULK AT MOST 1048576: true; the input reads as it did. -/
def fnExactVmapPutUptoRow : OpenClaim := { program := "ytjijichgoodocaa", sum := "cdecf8f26b1c367a548909f1fab4f0f74467ebbd881f18b888e906a4beef9c86", func := "loop.example/cadastre/laws.FnExactVmapPut", spec := "fnExactVmapPut", unfollowed := true, recurses := true, apart := false, narrowed := true }
def FnExactVmapPutUptoSaid : Prop := fnExactVmapPutUptoRow.holds Try.pinned (OpenSpec.upto fnExactVmapPutSpec)

end Rows
end Go.Proofs.Ytjijichgoodocaa
