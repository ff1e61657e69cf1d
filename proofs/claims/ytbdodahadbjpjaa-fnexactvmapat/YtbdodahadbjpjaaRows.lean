/-
  No cell of these rows narrows 'for every input' (looked for: loops, veiled, ifaces, maps, wideKeys, modest, calm, conditions, laid).
  DERIVED. THE GIVEN ROWS OF THIS SEAT. 11 by the template 'for every input the law returns true; each argument reads behind the call as it read before'; 0 by the template 'total and deterministic' (their statements: YtbdodahadbjpjaaTotals.lean).
  GIVEN WITH THE SEED: the statements are not yours to turn. If you find one false, say at which input.
  Laid BY PROGRAM, IN A SANDBOX (cutbox-rows.mjs): the forced cells as the released guide's own fill.sh prints them over the translation 97ed48bc1c0550e8… (all of the seat's roots in one cut). By AI agents, Wed Nov 11 2026. No macro, syntax, notation, axiom, sorry.
-/
import Derived.Test.YtbdodahadbjpjaaChecked
import GoSem.Claim
import GoSem.ClaimJoined
import GoSem.ClaimMapViews
import Derived.JoinedTies
import Derived.KernelRfl
namespace Go.Proofs.Ytbdodahadbjpjaa
/- THE CELL 'sum', in the pinned program and in every row, IS THE sha256 OF THE DUMP (.gsa) THAT YtbdodahadbjpjaaProg.lean LOADS. Nothing in Lean hashes anything: it is a label: what it is worth is what the hold of that sum in a sandbox is worth. -/
noncomputable def Try.pinned : Pinned := { name := "ytbdodahadbjpjaa", sum := "97ed48bc1c0550e87cb54f20cab81b692f335702fc82a031651f5bf31136344b", checked := Try.checked }
namespace Rows
def none {H : Type} : Left H := { results := [], args := [] }

/-- 'laws.FnExactAskOk': WHATEVER THE INPUT: true; the input reads as it did. -/
def fnExactAskOkSpec : ChangeSpec := { name := "fnExactAskOk", fn := fun _ => fun
  | [d] => { results := [.lit (.bool true)], args := [d] }
  | _ => none }
def fnExactAskOkRow : OpenClaim := { program := "ytbdodahadbjpjaa", sum := "97ed48bc1c0550e87cb54f20cab81b692f335702fc82a031651f5bf31136344b", func := "loop.example/cadastre/laws.FnExactAskOk", spec := "fnExactAskOk", unfollowed := true, recurses := true, apart := false }
def FnExactAskOkSaid : Prop := fnExactAskOkRow.holds Try.pinned (OpenSpec.ofChange fnExactAskOkSpec)

/-- ITS FALSE NEIGHBOUR: 'it returns false'. Refute it at one input. -/
def fnExactAskOkWrong : ChangeSpec := { name := "fnExactAskOk", fn := fun _ => fun
  | [d] => { results := [.lit (.bool false)], args := [d] }
  | _ => none }
def FnExactAskOkWrongFalsely : Prop := fnExactAskOkRow.holds Try.pinned (OpenSpec.ofChange fnExactAskOkWrong)

/-- 'laws.FnExactListMerge': WHATEVER THE INPUT: true; the input reads as it did. -/
def fnExactListMergeSpec : ChangeSpec := { name := "fnExactListMerge", fn := fun _ => fun
  | [d1, d2, d3] => { results := [.lit (.bool true)], args := [d1, d2, d3] }
  | _ => none }
def fnExactListMergeRow : OpenClaim := { program := "ytbdodahadbjpjaa", sum := "97ed48bc1c0550e87cb54f20cab81b692f335702fc82a031651f5bf31136344b", func := "loop.example/cadastre/laws.FnExactListMerge", spec := "fnExactListMerge", unfollowed := true, recurses := true, apart := false }
def FnExactListMergeSaid : Prop := fnExactListMergeRow.holds Try.pinned (OpenSpec.ofChange fnExactListMergeSpec)

/-- ITS FALSE NEIGHBOUR: 'it returns false'. Refute it at one input. -/
def fnExactListMergeWrong : ChangeSpec := { name := "fnExactListMerge", fn := fun _ => fun
  | [d1, d2, d3] => { results := [.lit (.bool false)], args := [d1, d2, d3] }
  | _ => none }
def FnExactListMergeWrongFalsely : Prop := fnExactListMergeRow.holds Try.pinned (OpenSpec.ofChange fnExactListMergeWrong)

/-- 'laws.FnExactVmapOk': WHATEVER THE INPUT: true; the input reads as it did. -/
def fnExactVmapOkSpec : ChangeSpec := { name := "fnExactVmapOk", fn := fun _ => fun
  | [d] => { results := [.lit (.bool true)], args := [d] }
  | _ => none }
def fnExactVmapOkRow : OpenClaim := { program := "ytbdodahadbjpjaa", sum := "97ed48bc1c0550e87cb54f20cab81b692f335702fc82a031651f5bf31136344b", func := "loop.example/cadastre/laws.FnExactVmapOk", spec := "fnExactVmapOk", unfollowed := true, recurses := true, apart := false }
def FnExactVmapOkSaid : Prop := fnExactVmapOkRow.holds Try.pinned (OpenSpec.ofChange fnExactVmapOkSpec)

/-- ITS FALSE NEIGHBOUR: 'it returns false'. Refute it at one input. -/
def fnExactVmapOkWrong : ChangeSpec := { name := "fnExactVmapOk", fn := fun _ => fun
  | [d] => { results := [.lit (.bool false)], args := [d] }
  | _ => none }
def FnExactVmapOkWrongFalsely : Prop := fnExactVmapOkRow.holds Try.pinned (OpenSpec.ofChange fnExactVmapOkWrong)

/-- 'laws.FnExactVmapGet': WHATEVER THE INPUT: true; the input reads as it did. -/
def fnExactVmapGetSpec : ChangeSpec := { name := "fnExactVmapGet", fn := fun _ => fun
  | [d1, d2] => { results := [.lit (.bool true)], args := [d1, d2] }
  | _ => none }
def fnExactVmapGetRow : OpenClaim := { program := "ytbdodahadbjpjaa", sum := "97ed48bc1c0550e87cb54f20cab81b692f335702fc82a031651f5bf31136344b", func := "loop.example/cadastre/laws.FnExactVmapGet", spec := "fnExactVmapGet", unfollowed := true, recurses := true, apart := false }
def FnExactVmapGetSaid : Prop := fnExactVmapGetRow.holds Try.pinned (OpenSpec.ofChange fnExactVmapGetSpec)

/-- ITS FALSE NEIGHBOUR: 'it returns false'. Refute it at one input. -/
def fnExactVmapGetWrong : ChangeSpec := { name := "fnExactVmapGet", fn := fun _ => fun
  | [d1, d2] => { results := [.lit (.bool false)], args := [d1, d2] }
  | _ => none }
def FnExactVmapGetWrongFalsely : Prop := fnExactVmapGetRow.holds Try.pinned (OpenSpec.ofChange fnExactVmapGetWrong)

/-- 'laws.FnExactVmapAt': WHATEVER THE INPUT: true; the input reads as it did. -/
def fnExactVmapAtSpec : ChangeSpec := { name := "fnExactVmapAt", fn := fun _ => fun
  | [d1, d2, d3] => { results := [.lit (.bool true)], args := [d1, d2, d3] }
  | _ => none }
def fnExactVmapAtRow : OpenClaim := { program := "ytbdodahadbjpjaa", sum := "97ed48bc1c0550e87cb54f20cab81b692f335702fc82a031651f5bf31136344b", func := "loop.example/cadastre/laws.FnExactVmapAt", spec := "fnExactVmapAt", unfollowed := true, recurses := true, apart := false }
def FnExactVmapAtSaid : Prop := fnExactVmapAtRow.holds Try.pinned (OpenSpec.ofChange fnExactVmapAtSpec)

/-- ITS FALSE NEIGHBOUR: 'it returns false'. Refute it at one input. -/
def fnExactVmapAtWrong : ChangeSpec := { name := "fnExactVmapAt", fn := fun _ => fun
  | [d1, d2, d3] => { results := [.lit (.bool false)], args := [d1, d2, d3] }
  | _ => none }
def FnExactVmapAtWrongFalsely : Prop := fnExactVmapAtRow.holds Try.pinned (OpenSpec.ofChange fnExactVmapAtWrong)

/-- 'laws.FnExactVmapCut': WHATEVER THE INPUT: true; the input reads as it did. -/
def fnExactVmapCutSpec : ChangeSpec := { name := "fnExactVmapCut", fn := fun _ => fun
  | [d1, d2] => { results := [.lit (.bool true)], args := [d1, d2] }
  | _ => none }
def fnExactVmapCutRow : OpenClaim := { program := "ytbdodahadbjpjaa", sum := "97ed48bc1c0550e87cb54f20cab81b692f335702fc82a031651f5bf31136344b", func := "loop.example/cadastre/laws.FnExactVmapCut", spec := "fnExactVmapCut", unfollowed := true, recurses := true, apart := false }
def FnExactVmapCutSaid : Prop := fnExactVmapCutRow.holds Try.pinned (OpenSpec.ofChange fnExactVmapCutSpec)

/-- ITS FALSE NEIGHBOUR: 'it returns false'. Refute it at one input. -/
def fnExactVmapCutWrong : ChangeSpec := { name := "fnExactVmapCut", fn := fun _ => fun
  | [d1, d2] => { results := [.lit (.bool false)], args := [d1, d2] }
  | _ => none }
def FnExactVmapCutWrongFalsely : Prop := fnExactVmapCutRow.holds Try.pinned (OpenSpec.ofChange fnExactVmapCutWrong)

/-- 'laws.FnExactVmapPrune': WHATEVER THE INPUT: true; the input reads as it did. -/
def fnExactVmapPruneSpec : ChangeSpec := { name := "fnExactVmapPrune", fn := fun _ => fun
  | [d1, d2] => { results := [.lit (.bool true)], args := [d1, d2] }
  | _ => none }
def fnExactVmapPruneRow : OpenClaim := { program := "ytbdodahadbjpjaa", sum := "97ed48bc1c0550e87cb54f20cab81b692f335702fc82a031651f5bf31136344b", func := "loop.example/cadastre/laws.FnExactVmapPrune", spec := "fnExactVmapPrune", unfollowed := true, recurses := true, apart := false }
def FnExactVmapPruneSaid : Prop := fnExactVmapPruneRow.holds Try.pinned (OpenSpec.ofChange fnExactVmapPruneSpec)

/-- ITS FALSE NEIGHBOUR: 'it returns false'. Refute it at one input. -/
def fnExactVmapPruneWrong : ChangeSpec := { name := "fnExactVmapPrune", fn := fun _ => fun
  | [d1, d2] => { results := [.lit (.bool false)], args := [d1, d2] }
  | _ => none }
def FnExactVmapPruneWrongFalsely : Prop := fnExactVmapPruneRow.holds Try.pinned (OpenSpec.ofChange fnExactVmapPruneWrong)

/-- 'laws.FnExactVmapJoin': WHATEVER THE INPUT: true; the input reads as it did. -/
def fnExactVmapJoinSpec : ChangeSpec := { name := "fnExactVmapJoin", fn := fun _ => fun
  | [d1, d2] => { results := [.lit (.bool true)], args := [d1, d2] }
  | _ => none }
def fnExactVmapJoinRow : OpenClaim := { program := "ytbdodahadbjpjaa", sum := "97ed48bc1c0550e87cb54f20cab81b692f335702fc82a031651f5bf31136344b", func := "loop.example/cadastre/laws.FnExactVmapJoin", spec := "fnExactVmapJoin", unfollowed := true, recurses := true, apart := false }
def FnExactVmapJoinSaid : Prop := fnExactVmapJoinRow.holds Try.pinned (OpenSpec.ofChange fnExactVmapJoinSpec)

/-- ITS FALSE NEIGHBOUR: 'it returns false'. Refute it at one input. -/
def fnExactVmapJoinWrong : ChangeSpec := { name := "fnExactVmapJoin", fn := fun _ => fun
  | [d1, d2] => { results := [.lit (.bool false)], args := [d1, d2] }
  | _ => none }
def FnExactVmapJoinWrongFalsely : Prop := fnExactVmapJoinRow.holds Try.pinned (OpenSpec.ofChange fnExactVmapJoinWrong)

/-- 'laws.FnExactVmapPut': WHATEVER THE INPUT: true; the input reads as it did. -/
def fnExactVmapPutSpec : ChangeSpec := { name := "fnExactVmapPut", fn := fun _ => fun
  | [d1, d2, d3] => { results := [.lit (.bool true)], args := [d1, d2, d3] }
  | _ => none }
def fnExactVmapPutRow : OpenClaim := { program := "ytbdodahadbjpjaa", sum := "97ed48bc1c0550e87cb54f20cab81b692f335702fc82a031651f5bf31136344b", func := "loop.example/cadastre/laws.FnExactVmapPut", spec := "fnExactVmapPut", unfollowed := true, recurses := true, apart := false }
def FnExactVmapPutSaid : Prop := fnExactVmapPutRow.holds Try.pinned (OpenSpec.ofChange fnExactVmapPutSpec)

/-- ITS FALSE NEIGHBOUR: 'it returns false'. Refute it at one input. -/
def fnExactVmapPutWrong : ChangeSpec := { name := "fnExactVmapPut", fn := fun _ => fun
  | [d1, d2, d3] => { results := [.lit (.bool false)], args := [d1, d2, d3] }
  | _ => none }
def FnExactVmapPutWrongFalsely : Prop := fnExactVmapPutRow.holds Try.pinned (OpenSpec.ofChange fnExactVmapPutWrong)

/-- 'laws.FnExactListPage': WHATEVER THE INPUT: true; the input reads as it did. -/
def fnExactListPageSpec : ChangeSpec := { name := "fnExactListPage", fn := fun _ => fun
  | [d1, d2] => { results := [.lit (.bool true)], args := [d1, d2] }
  | _ => none }
def fnExactListPageRow : OpenClaim := { program := "ytbdodahadbjpjaa", sum := "97ed48bc1c0550e87cb54f20cab81b692f335702fc82a031651f5bf31136344b", func := "loop.example/cadastre/laws.FnExactListPage", spec := "fnExactListPage", inPlace := ["internal/bytealg.IndexByteString"], unfollowed := true, recurses := true, apart := false }
def FnExactListPageSaid : Prop := fnExactListPageRow.holds Try.pinned (OpenSpec.ofChange fnExactListPageSpec)

/-- ITS FALSE NEIGHBOUR: 'it returns false'. Refute it at one input. -/
def fnExactListPageWrong : ChangeSpec := { name := "fnExactListPage", fn := fun _ => fun
  | [d1, d2] => { results := [.lit (.bool false)], args := [d1, d2] }
  | _ => none }
def FnExactListPageWrongFalsely : Prop := fnExactListPageRow.holds Try.pinned (OpenSpec.ofChange fnExactListPageWrong)

/-- 'laws.FnExactListAll': WHATEVER THE INPUT: true; the input reads as it did. -/
def fnExactListAllSpec : ChangeSpec := { name := "fnExactListAll", fn := fun _ => fun
  | [d1, d2] => { results := [.lit (.bool true)], args := [d1, d2] }
  | _ => none }
def fnExactListAllRow : OpenClaim := { program := "ytbdodahadbjpjaa", sum := "97ed48bc1c0550e87cb54f20cab81b692f335702fc82a031651f5bf31136344b", func := "loop.example/cadastre/laws.FnExactListAll", spec := "fnExactListAll", inPlace := ["internal/bytealg.IndexByteString"], unfollowed := true, recurses := true, apart := false }
def FnExactListAllSaid : Prop := fnExactListAllRow.holds Try.pinned (OpenSpec.ofChange fnExactListAllSpec)

/-- ITS FALSE NEIGHBOUR: 'it returns false'. Refute it at one input. -/
def fnExactListAllWrong : ChangeSpec := { name := "fnExactListAll", fn := fun _ => fun
  | [d1, d2] => { results := [.lit (.bool false)], args := [d1, d2] }
  | _ => none }
def FnExactListAllWrongFalsely : Prop := fnExactListAllRow.holds Try.pinned (OpenSpec.ofChange fnExactListAllWrong)

/- THE SECOND FORM. 'bulk': how many values and letters a reading holds, each counted each time it is reached (what is shared counts as often as it is met; a slice's spare places count too). A statement '..UptoSaid' is the law's where the arguments, and the package variables that the reading takes, are together of bulk at most 1048576: NARROWER than '..Said'. Prove '..Said' where nothing that the law and all that it calls make is longer than what came in: it says more and counts as full. Else prove '..UptoSaid'. A law counts once. -/
mutual
def uptoBulk {H : Type} : DataW H → Nat
  | .lit (.string bytes) => bytes.length + 1
  | .lit _ => 1
  | .nil => 1
  | .ptr d => uptoBulk d + 1
  | .slice elems spare => uptoBulkAll elems + uptoBulkAll spare + 1
  | .agg parts => uptoBulkAll parts + 1
  | .iface _ d => uptoBulk d + 1
  | .map entries => uptoBulkEntries entries + 1
  | .held _ => 1
def uptoBulkAll {H : Type} : List (DataW H) → Nat
  | [] => 0
  | d :: r => uptoBulk d + uptoBulkAll r
def uptoBulkEntries {H : Type} : List (Lit × DataW H) → Nat
  | [] => 0
  | x :: r => uptoBulkEntry x + uptoBulkEntries r
def uptoBulkEntry {H : Type} : Lit × DataW H → Nat
  | (.string bytes, d) => bytes.length + uptoBulk d + 1
  | (_, d) => uptoBulk d + 1
 end
def uptoSmall : (H : Type) → List (DataW H) → Bool := fun _ ds => decide (uptoBulkAll ds ≤ 1048576)
def OpenSpec.upto (s : _root_.Go.ChangeSpec) : _root_.Go.OpenSpec := { _root_.Go.OpenSpec.ofChange s with cond := some uptoSmall }

/-- 'laws.FnExactAskOk', WHERE WHAT IT READS IS OF BULK AT MOST 1048576: true; the input reads as it did. -/
def fnExactAskOkUptoRow : OpenClaim := { program := "ytbdodahadbjpjaa", sum := "97ed48bc1c0550e87cb54f20cab81b692f335702fc82a031651f5bf31136344b", func := "loop.example/cadastre/laws.FnExactAskOk", spec := "fnExactAskOk", unfollowed := true, recurses := true, apart := false, narrowed := true }
def FnExactAskOkUptoSaid : Prop := fnExactAskOkUptoRow.holds Try.pinned (OpenSpec.upto fnExactAskOkSpec)

/-- 'laws.FnExactListMerge', WHERE WHAT IT READS IS OF BULK AT MOST 1048576: true; the input reads as it did. -/
def fnExactListMergeUptoRow : OpenClaim := { program := "ytbdodahadbjpjaa", sum := "97ed48bc1c0550e87cb54f20cab81b692f335702fc82a031651f5bf31136344b", func := "loop.example/cadastre/laws.FnExactListMerge", spec := "fnExactListMerge", unfollowed := true, recurses := true, apart := false, narrowed := true }
def FnExactListMergeUptoSaid : Prop := fnExactListMergeUptoRow.holds Try.pinned (OpenSpec.upto fnExactListMergeSpec)

/-- 'laws.FnExactVmapOk', WHERE WHAT IT READS IS OF BULK AT MOST 1048576: true; the input reads as it did. -/
def fnExactVmapOkUptoRow : OpenClaim := { program := "ytbdodahadbjpjaa", sum := "97ed48bc1c0550e87cb54f20cab81b692f335702fc82a031651f5bf31136344b", func := "loop.example/cadastre/laws.FnExactVmapOk", spec := "fnExactVmapOk", unfollowed := true, recurses := true, apart := false, narrowed := true }
def FnExactVmapOkUptoSaid : Prop := fnExactVmapOkUptoRow.holds Try.pinned (OpenSpec.upto fnExactVmapOkSpec)

/-- 'laws.FnExactVmapGet', WHERE WHAT IT READS IS OF BULK AT MOST 1048576: true; the input reads as it did. -/
def fnExactVmapGetUptoRow : OpenClaim := { program := "ytbdodahadbjpjaa", sum := "97ed48bc1c0550e87cb54f20cab81b692f335702fc82a031651f5bf31136344b", func := "loop.example/cadastre/laws.FnExactVmapGet", spec := "fnExactVmapGet", unfollowed := true, recurses := true, apart := false, narrowed := true }
def FnExactVmapGetUptoSaid : Prop := fnExactVmapGetUptoRow.holds Try.pinned (OpenSpec.upto fnExactVmapGetSpec)

/-- 'laws.FnExactVmapAt', WHERE WHAT IT READS IS OF BULK AT MOST 1048576: true; the input reads as it did. -/
def fnExactVmapAtUptoRow : OpenClaim := { program := "ytbdodahadbjpjaa", sum := "97ed48bc1c0550e87cb54f20cab81b692f335702fc82a031651f5bf31136344b", func := "loop.example/cadastre/laws.FnExactVmapAt", spec := "fnExactVmapAt", unfollowed := true, recurses := true, apart := false, narrowed := true }
def FnExactVmapAtUptoSaid : Prop := fnExactVmapAtUptoRow.holds Try.pinned (OpenSpec.upto fnExactVmapAtSpec)

/-- 'laws.FnExactVmapCut', WHERE WHAT IT READS IS OF BULK AT MOST 1048576: true; the input reads as it did. -/
def fnExactVmapCutUptoRow : OpenClaim := { program := "ytbdodahadbjpjaa", sum := "97ed48bc1c0550e87cb54f20cab81b692f335702fc82a031651f5bf31136344b", func := "loop.example/cadastre/laws.FnExactVmapCut", spec := "fnExactVmapCut", unfollowed := true, recurses := true, apart := false, narrowed := true }
def FnExactVmapCutUptoSaid : Prop := fnExactVmapCutUptoRow.holds Try.pinned (OpenSpec.upto fnExactVmapCutSpec)

/-- 'laws.FnExactVmapPrune', WHERE WHAT IT READS IS OF BULK AT MOST 1048576: true; the input reads as it did. -/
def fnExactVmapPruneUptoRow : OpenClaim := { program := "ytbdodahadbjpjaa", sum := "97ed48bc1c0550e87cb54f20cab81b692f335702fc82a031651f5bf31136344b", func := "loop.example/cadastre/laws.FnExactVmapPrune", spec := "fnExactVmapPrune", unfollowed := true, recurses := true, apart := false, narrowed := true }
def FnExactVmapPruneUptoSaid : Prop := fnExactVmapPruneUptoRow.holds Try.pinned (OpenSpec.upto fnExactVmapPruneSpec)

/-- 'laws.FnExactVmapJoin', WHERE WHAT IT READS IS OF BULK AT MOST 1048576: true; the input reads as it did. -/
def fnExactVmapJoinUptoRow : OpenClaim := { program := "ytbdodahadbjpjaa", sum := "97ed48bc1c0550e87cb54f20cab81b692f335702fc82a031651f5bf31136344b", func := "loop.example/cadastre/laws.FnExactVmapJoin", spec := "fnExactVmapJoin", unfollowed := true, recurses := true, apart := false, narrowed := true }
def FnExactVmapJoinUptoSaid : Prop := fnExactVmapJoinUptoRow.holds Try.pinned (OpenSpec.upto fnExactVmapJoinSpec)

/-- 'laws.FnExactVmapPut', WHERE WHAT IT READS IS OF BULK AT MOST 1048576: true; the input reads as it did. -/
def fnExactVmapPutUptoRow : OpenClaim := { program := "ytbdodahadbjpjaa", sum := "97ed48bc1c0550e87cb54f20cab81b692f335702fc82a031651f5bf31136344b", func := "loop.example/cadastre/laws.FnExactVmapPut", spec := "fnExactVmapPut", unfollowed := true, recurses := true, apart := false, narrowed := true }
def FnExactVmapPutUptoSaid : Prop := fnExactVmapPutUptoRow.holds Try.pinned (OpenSpec.upto fnExactVmapPutSpec)

/-- 'laws.FnExactListPage', WHERE WHAT IT READS IS OF BULK AT MOST 1048576: true; the input reads as it did. -/
def fnExactListPageUptoRow : OpenClaim := { program := "ytbdodahadbjpjaa", sum := "97ed48bc1c0550e87cb54f20cab81b692f335702fc82a031651f5bf31136344b", func := "loop.example/cadastre/laws.FnExactListPage", spec := "fnExactListPage", inPlace := ["internal/bytealg.IndexByteString"], unfollowed := true, recurses := true, apart := false, narrowed := true }
def FnExactListPageUptoSaid : Prop := fnExactListPageUptoRow.holds Try.pinned (OpenSpec.upto fnExactListPageSpec)

/-- 'laws.FnExactListAll', WHERE WHAT IT READS IS OF BULK AT MOST 1048576: true; the input reads as it did. -/
def fnExactListAllUptoRow : OpenClaim := { program := "ytbdodahadbjpjaa", sum := "97ed48bc1c0550e87cb54f20cab81b692f335702fc82a031651f5bf31136344b", func := "loop.example/cadastre/laws.FnExactListAll", spec := "fnExactListAll", inPlace := ["internal/bytealg.IndexByteString"], unfollowed := true, recurses := true, apart := false, narrowed := true }
def FnExactListAllUptoSaid : Prop := fnExactListAllUptoRow.holds Try.pinned (OpenSpec.upto fnExactListAllSpec)

end Rows
end Go.Proofs.Ytbdodahadbjpjaa
