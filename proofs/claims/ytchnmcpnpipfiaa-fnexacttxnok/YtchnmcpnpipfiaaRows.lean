/-
  No cell of these rows narrows 'for every input' (looked for: loops, veiled, ifaces, maps, wideKeys, modest, calm, conditions, laid).
  DERIVED. THE GIVEN ROWS OF THIS SEAT. 10 by the template 'for every input the law returns true; each argument reads behind the call as it read before'; 0 by the template 'total and deterministic' (their statements: YtchnmcpnpipfiaaTotals.lean).
  GIVEN WITH THE SEED: the statements are not yours to turn. If you find one false, say at which input.
  Laid BY PROGRAM, IN A SANDBOX (cutbox-rows.mjs): the forced cells as the released guide's own fill.sh prints them over the translation 7615d5c5eaa94d94… (all of the seat's roots in one cut). By AI agents, Wed Nov 11 2026. No macro, syntax, notation, axiom, sorry.
-/
import Derived.Test.YtchnmcpnpipfiaaChecked
import GoSem.Claim
import GoSem.ClaimJoined
import GoSem.ClaimMapViews
import Derived.JoinedTies
import Derived.KernelRfl
namespace Go.Proofs.Ytchnmcpnpipfiaa
/- THE CELL 'sum', in the pinned program and in every row, IS THE sha256 OF THE DUMP (.gsa) THAT YtchnmcpnpipfiaaProg.lean LOADS. Nothing in Lean hashes anything: it is a label: what it is worth is what the hold of that sum in a sandbox is worth. -/
noncomputable def Try.pinned : Pinned := { name := "ytchnmcpnpipfiaa", sum := "7615d5c5eaa94d94746602fddcb46b59e0b8e24a95fb65c3f953337b105f80fc", checked := Try.checked }
namespace Rows
def none {H : Type} : Left H := { results := [], args := [] }

/-- 'laws.FnExactPmapOk': WHATEVER THE INPUT: true; the input reads as it did. -/
def fnExactPmapOkSpec : ChangeSpec := { name := "fnExactPmapOk", fn := fun _ => fun
  | [d] => { results := [.lit (.bool true)], args := [d] }
  | _ => none }
def fnExactPmapOkRow : OpenClaim := { program := "ytchnmcpnpipfiaa", sum := "7615d5c5eaa94d94746602fddcb46b59e0b8e24a95fb65c3f953337b105f80fc", func := "loop.example/cadastre/laws.FnExactPmapOk", spec := "fnExactPmapOk", unfollowed := true, recurses := true, apart := false }
def FnExactPmapOkSaid : Prop := fnExactPmapOkRow.holds Try.pinned (OpenSpec.ofChange fnExactPmapOkSpec)

/-- ITS FALSE NEIGHBOUR: 'it returns false'. Refute it at one input. -/
def fnExactPmapOkWrong : ChangeSpec := { name := "fnExactPmapOk", fn := fun _ => fun
  | [d] => { results := [.lit (.bool false)], args := [d] }
  | _ => none }
def FnExactPmapOkWrongFalsely : Prop := fnExactPmapOkRow.holds Try.pinned (OpenSpec.ofChange fnExactPmapOkWrong)

/-- 'laws.FnExactPmapSpan': WHATEVER THE INPUT: true; the input reads as it did. -/
def fnExactPmapSpanSpec : ChangeSpec := { name := "fnExactPmapSpan", fn := fun _ => fun
  | [d1, d2] => { results := [.lit (.bool true)], args := [d1, d2] }
  | _ => none }
def fnExactPmapSpanRow : OpenClaim := { program := "ytchnmcpnpipfiaa", sum := "7615d5c5eaa94d94746602fddcb46b59e0b8e24a95fb65c3f953337b105f80fc", func := "loop.example/cadastre/laws.FnExactPmapSpan", spec := "fnExactPmapSpan", unfollowed := true, recurses := true, apart := false }
def FnExactPmapSpanSaid : Prop := fnExactPmapSpanRow.holds Try.pinned (OpenSpec.ofChange fnExactPmapSpanSpec)

/-- ITS FALSE NEIGHBOUR: 'it returns false'. Refute it at one input. -/
def fnExactPmapSpanWrong : ChangeSpec := { name := "fnExactPmapSpan", fn := fun _ => fun
  | [d1, d2] => { results := [.lit (.bool false)], args := [d1, d2] }
  | _ => none }
def FnExactPmapSpanWrongFalsely : Prop := fnExactPmapSpanRow.holds Try.pinned (OpenSpec.ofChange fnExactPmapSpanWrong)

/-- 'laws.FnExactPmapFind': WHATEVER THE INPUT: true; the input reads as it did. -/
def fnExactPmapFindSpec : ChangeSpec := { name := "fnExactPmapFind", fn := fun _ => fun
  | [d1, d2] => { results := [.lit (.bool true)], args := [d1, d2] }
  | _ => none }
def fnExactPmapFindRow : OpenClaim := { program := "ytchnmcpnpipfiaa", sum := "7615d5c5eaa94d94746602fddcb46b59e0b8e24a95fb65c3f953337b105f80fc", func := "loop.example/cadastre/laws.FnExactPmapFind", spec := "fnExactPmapFind", unfollowed := true, recurses := true, apart := false }
def FnExactPmapFindSaid : Prop := fnExactPmapFindRow.holds Try.pinned (OpenSpec.ofChange fnExactPmapFindSpec)

/-- ITS FALSE NEIGHBOUR: 'it returns false'. Refute it at one input. -/
def fnExactPmapFindWrong : ChangeSpec := { name := "fnExactPmapFind", fn := fun _ => fun
  | [d1, d2] => { results := [.lit (.bool false)], args := [d1, d2] }
  | _ => none }
def FnExactPmapFindWrongFalsely : Prop := fnExactPmapFindRow.holds Try.pinned (OpenSpec.ofChange fnExactPmapFindWrong)

/-- 'laws.FnPmapSpan': WHATEVER THE INPUT: true; the input reads as it did. -/
def fnPmapSpanSpec : ChangeSpec := { name := "fnPmapSpan", fn := fun _ => fun
  | [d] => { results := [.lit (.bool true)], args := [d] }
  | _ => none }
def fnPmapSpanRow : OpenClaim := { program := "ytchnmcpnpipfiaa", sum := "7615d5c5eaa94d94746602fddcb46b59e0b8e24a95fb65c3f953337b105f80fc", func := "loop.example/cadastre/laws.FnPmapSpan", spec := "fnPmapSpan", unfollowed := true, recurses := true, apart := false }
def FnPmapSpanSaid : Prop := fnPmapSpanRow.holds Try.pinned (OpenSpec.ofChange fnPmapSpanSpec)

/-- ITS FALSE NEIGHBOUR: 'it returns false'. Refute it at one input. -/
def fnPmapSpanWrong : ChangeSpec := { name := "fnPmapSpan", fn := fun _ => fun
  | [d] => { results := [.lit (.bool false)], args := [d] }
  | _ => none }
def FnPmapSpanWrongFalsely : Prop := fnPmapSpanRow.holds Try.pinned (OpenSpec.ofChange fnPmapSpanWrong)

/-- 'laws.FnPmapFind': WHATEVER THE INPUT: true; the input reads as it did. -/
def fnPmapFindSpec : ChangeSpec := { name := "fnPmapFind", fn := fun _ => fun
  | [d] => { results := [.lit (.bool true)], args := [d] }
  | _ => none }
def fnPmapFindRow : OpenClaim := { program := "ytchnmcpnpipfiaa", sum := "7615d5c5eaa94d94746602fddcb46b59e0b8e24a95fb65c3f953337b105f80fc", func := "loop.example/cadastre/laws.FnPmapFind", spec := "fnPmapFind", unfollowed := true, recurses := true, apart := false }
def FnPmapFindSaid : Prop := fnPmapFindRow.holds Try.pinned (OpenSpec.ofChange fnPmapFindSpec)

/-- ITS FALSE NEIGHBOUR: 'it returns false'. Refute it at one input. -/
def fnPmapFindWrong : ChangeSpec := { name := "fnPmapFind", fn := fun _ => fun
  | [d] => { results := [.lit (.bool false)], args := [d] }
  | _ => none }
def FnPmapFindWrongFalsely : Prop := fnPmapFindRow.holds Try.pinned (OpenSpec.ofChange fnPmapFindWrong)

/-- 'laws.FnExactVmapOk': WHATEVER THE INPUT: true; the input reads as it did. -/
def fnExactVmapOkSpec : ChangeSpec := { name := "fnExactVmapOk", fn := fun _ => fun
  | [d] => { results := [.lit (.bool true)], args := [d] }
  | _ => none }
def fnExactVmapOkRow : OpenClaim := { program := "ytchnmcpnpipfiaa", sum := "7615d5c5eaa94d94746602fddcb46b59e0b8e24a95fb65c3f953337b105f80fc", func := "loop.example/cadastre/laws.FnExactVmapOk", spec := "fnExactVmapOk", unfollowed := true, recurses := true, apart := false }
def FnExactVmapOkSaid : Prop := fnExactVmapOkRow.holds Try.pinned (OpenSpec.ofChange fnExactVmapOkSpec)

/-- ITS FALSE NEIGHBOUR: 'it returns false'. Refute it at one input. -/
def fnExactVmapOkWrong : ChangeSpec := { name := "fnExactVmapOk", fn := fun _ => fun
  | [d] => { results := [.lit (.bool false)], args := [d] }
  | _ => none }
def FnExactVmapOkWrongFalsely : Prop := fnExactVmapOkRow.holds Try.pinned (OpenSpec.ofChange fnExactVmapOkWrong)

/-- 'laws.FnExactVmapGet': WHATEVER THE INPUT: true; the input reads as it did. -/
def fnExactVmapGetSpec : ChangeSpec := { name := "fnExactVmapGet", fn := fun _ => fun
  | [d1, d2] => { results := [.lit (.bool true)], args := [d1, d2] }
  | _ => none }
def fnExactVmapGetRow : OpenClaim := { program := "ytchnmcpnpipfiaa", sum := "7615d5c5eaa94d94746602fddcb46b59e0b8e24a95fb65c3f953337b105f80fc", func := "loop.example/cadastre/laws.FnExactVmapGet", spec := "fnExactVmapGet", unfollowed := true, recurses := true, apart := false }
def FnExactVmapGetSaid : Prop := fnExactVmapGetRow.holds Try.pinned (OpenSpec.ofChange fnExactVmapGetSpec)

/-- ITS FALSE NEIGHBOUR: 'it returns false'. Refute it at one input. -/
def fnExactVmapGetWrong : ChangeSpec := { name := "fnExactVmapGet", fn := fun _ => fun
  | [d1, d2] => { results := [.lit (.bool false)], args := [d1, d2] }
  | _ => none }
def FnExactVmapGetWrongFalsely : Prop := fnExactVmapGetRow.holds Try.pinned (OpenSpec.ofChange fnExactVmapGetWrong)

/-- 'laws.FnExactVmapAt': WHATEVER THE INPUT: true; the input reads as it did. -/
def fnExactVmapAtSpec : ChangeSpec := { name := "fnExactVmapAt", fn := fun _ => fun
  | [d1, d2, d3] => { results := [.lit (.bool true)], args := [d1, d2, d3] }
  | _ => none }
def fnExactVmapAtRow : OpenClaim := { program := "ytchnmcpnpipfiaa", sum := "7615d5c5eaa94d94746602fddcb46b59e0b8e24a95fb65c3f953337b105f80fc", func := "loop.example/cadastre/laws.FnExactVmapAt", spec := "fnExactVmapAt", unfollowed := true, recurses := true, apart := false }
def FnExactVmapAtSaid : Prop := fnExactVmapAtRow.holds Try.pinned (OpenSpec.ofChange fnExactVmapAtSpec)

/-- ITS FALSE NEIGHBOUR: 'it returns false'. Refute it at one input. -/
def fnExactVmapAtWrong : ChangeSpec := { name := "fnExactVmapAt", fn := fun _ => fun
  | [d1, d2, d3] => { results := [.lit (.bool false)], args := [d1, d2, d3] }
  | _ => none }
def FnExactVmapAtWrongFalsely : Prop := fnExactVmapAtRow.holds Try.pinned (OpenSpec.ofChange fnExactVmapAtWrong)

/-- 'laws.FnExactTxnOk': WHATEVER THE INPUT: true; the input reads as it did. -/
def fnExactTxnOkSpec : ChangeSpec := { name := "fnExactTxnOk", fn := fun _ => fun
  | [d] => { results := [.lit (.bool true)], args := [d] }
  | _ => none }
def fnExactTxnOkRow : OpenClaim := { program := "ytchnmcpnpipfiaa", sum := "7615d5c5eaa94d94746602fddcb46b59e0b8e24a95fb65c3f953337b105f80fc", func := "loop.example/cadastre/laws.FnExactTxnOk", spec := "fnExactTxnOk", unfollowed := true, recurses := true, apart := false }
def FnExactTxnOkSaid : Prop := fnExactTxnOkRow.holds Try.pinned (OpenSpec.ofChange fnExactTxnOkSpec)

/-- ITS FALSE NEIGHBOUR: 'it returns false'. Refute it at one input. -/
def fnExactTxnOkWrong : ChangeSpec := { name := "fnExactTxnOk", fn := fun _ => fun
  | [d] => { results := [.lit (.bool false)], args := [d] }
  | _ => none }
def FnExactTxnOkWrongFalsely : Prop := fnExactTxnOkRow.holds Try.pinned (OpenSpec.ofChange fnExactTxnOkWrong)

/-- 'laws.FnExactListMerge': WHATEVER THE INPUT: true; the input reads as it did. -/
def fnExactListMergeSpec : ChangeSpec := { name := "fnExactListMerge", fn := fun _ => fun
  | [d1, d2, d3] => { results := [.lit (.bool true)], args := [d1, d2, d3] }
  | _ => none }
def fnExactListMergeRow : OpenClaim := { program := "ytchnmcpnpipfiaa", sum := "7615d5c5eaa94d94746602fddcb46b59e0b8e24a95fb65c3f953337b105f80fc", func := "loop.example/cadastre/laws.FnExactListMerge", spec := "fnExactListMerge", unfollowed := true, recurses := true, apart := false }
def FnExactListMergeSaid : Prop := fnExactListMergeRow.holds Try.pinned (OpenSpec.ofChange fnExactListMergeSpec)

/-- ITS FALSE NEIGHBOUR: 'it returns false'. Refute it at one input. -/
def fnExactListMergeWrong : ChangeSpec := { name := "fnExactListMerge", fn := fun _ => fun
  | [d1, d2, d3] => { results := [.lit (.bool false)], args := [d1, d2, d3] }
  | _ => none }
def FnExactListMergeWrongFalsely : Prop := fnExactListMergeRow.holds Try.pinned (OpenSpec.ofChange fnExactListMergeWrong)

/- THE SECOND FORM. 'bulk': how many values and letters a reading holds, each counted each time it is reached (what is shared counts as often as it is met; a slice's spare places count too). A statement '..UptoSaid' is the law's where the arguments, and the package variables that the reading takes, are together of bulk at most 1048576: NARROWER than '..Said'. Prove '..Said' where nothing that the law and all that it calls make is longer than what came in: it says more and counts as full. Else prove '..UptoSaid'. A law counts once. -/
mutual
def uptoBulk {H : Type} : DataW H → Nat
  | .lit (.string bytes) => bytes.length + 1
  | .lit _ => 1
  | .nil => 1
  | .ptr d => uptoBulk d + 1
  | .slice elems spare => uptoBulkAll elems + uptoBulkAll spare + 1
  | .agg parts => uptoBulkAll parts + 1
  | .iface _ d => uptoBulk d + 1
  | .map entries => uptoBulkEntries entries + 1
  | .held _ => 1
def uptoBulkAll {H : Type} : List (DataW H) → Nat
  | [] => 0
  | d :: r => uptoBulk d + uptoBulkAll r
def uptoBulkEntries {H : Type} : List (Lit × DataW H) → Nat
  | [] => 0
  | x :: r => uptoBulkEntry x + uptoBulkEntries r
def uptoBulkEntry {H : Type} : Lit × DataW H → Nat
  | (.string bytes, d) => bytes.length + uptoBulk d + 1
  | (_, d) => uptoBulk d + 1
 end
def uptoSmall : (H : Type) → List (DataW H) → Bool := fun _ ds => decide (uptoBulkAll ds ≤ 1048576)
def OpenSpec.upto (s : _root_.Go.ChangeSpec) : _root_.Go.OpenSpec := { _root_.Go.OpenSpec.ofChange s with cond := some uptoSmall }

/-- 'laws.FnExactPmapOk', WHERE WHAT IT READS IS OF BULK AT MOST 1048576: true; the input reads as it did. -/
def fnExactPmapOkUptoRow : OpenClaim := { program := "ytchnmcpnpipfiaa", sum := "7615d5c5eaa94d94746602fddcb46b59e0b8e24a95fb65c3f953337b105f80fc", func := "loop.example/cadastre/laws.FnExactPmapOk", spec := "fnExactPmapOk", unfollowed := true, recurses := true, apart := false, narrowed := true }
def FnExactPmapOkUptoSaid : Prop := fnExactPmapOkUptoRow.holds Try.pinned (OpenSpec.upto fnExactPmapOkSpec)

/-- 'laws.FnExactPmapSpan', WHERE WHAT IT READS IS OF BULK AT MOST 1048576: true; the input reads as it did. -/
def fnExactPmapSpanUptoRow : OpenClaim := { program := "ytchnmcpnpipfiaa", sum := "7615d5c5eaa94d94746602fddcb46b59e0b8e24a95fb65c3f953337b105f80fc", func := "loop.example/cadastre/laws.FnExactPmapSpan", spec := "fnExactPmapSpan", unfollowed := true, recurses := true, apart := false, narrowed := true }
def FnExactPmapSpanUptoSaid : Prop := fnExactPmapSpanUptoRow.holds Try.pinned (OpenSpec.upto fnExactPmapSpanSpec)

/-- 'laws.FnExactPmapFind', WHERE WHAT IT READS IS OF BULK AT MOST 1048576: true; the input reads as it did. -/
def fnExactPmapFindUptoRow : OpenClaim := { program := "ytchnmcpnpipfiaa", sum := "7615d5c5eaa94d94746602fddcb46b59e0b8e24a95fb65c3f953337b105f80fc", func := "loop.example/cadastre/laws.FnExactPmapFind", spec := "fnExactPmapFind", unfollowed := true, recurses := true, apart := false, narrowed := true }
def FnExactPmapFindUptoSaid : Prop := fnExactPmapFindUptoRow.holds Try.pinned (OpenSpec.upto fnExactPmapFindSpec)

/-- 'laws.FnPmapSpan', WHERE WHAT IT READS IS OF BULK AT MOST 1048576: true; the input reads as it did. -/
def fnPmapSpanUptoRow : OpenClaim := { program := "ytchnmcpnpipfiaa", sum := "7615d5c5eaa94d94746602fddcb46b59e0b8e24a95fb65c3f953337b105f80fc", func := "loop.example/cadastre/laws.FnPmapSpan", spec := "fnPmapSpan", unfollowed := true, recurses := true, apart := false, narrowed := true }
def FnPmapSpanUptoSaid : Prop := fnPmapSpanUptoRow.holds Try.pinned (OpenSpec.upto fnPmapSpanSpec)

/-- 'laws.FnPmapFind', WHERE WHAT IT READS IS OF BULK AT MOST 1048576: true; the input reads as it did. -/
def fnPmapFindUptoRow : OpenClaim := { program := "ytchnmcpnpipfiaa", sum := "7615d5c5eaa94d94746602fddcb46b59e0b8e24a95fb65c3f953337b105f80fc", func := "loop.example/cadastre/laws.FnPmapFind", spec := "fnPmapFind", unfollowed := true, recurses := true, apart := false, narrowed := true }
def FnPmapFindUptoSaid : Prop := fnPmapFindUptoRow.holds Try.pinned (OpenSpec.upto fnPmapFindSpec)

/-- 'laws.FnExactVmapOk', WHERE WHAT IT READS IS OF BULK AT MOST 1048576: true; the input reads as it did. -/
def fnExactVmapOkUptoRow : OpenClaim := { program := "ytchnmcpnpipfiaa", sum := "7615d5c5eaa94d94746602fddcb46b59e0b8e24a95fb65c3f953337b105f80fc", func := "loop.example/cadastre/laws.FnExactVmapOk", spec := "fnExactVmapOk", unfollowed := true, recurses := true, apart := false, narrowed := true }
def FnExactVmapOkUptoSaid : Prop := fnExactVmapOkUptoRow.holds Try.pinned (OpenSpec.upto fnExactVmapOkSpec)

/-- 'laws.FnExactVmapGet', WHERE WHAT IT READS IS OF BULK AT MOST 1048576: true; the input reads as it did. -/
def fnExactVmapGetUptoRow : OpenClaim := { program := "ytchnmcpnpipfiaa", sum := "7615d5c5eaa94d94746602fddcb46b59e0b8e24a95fb65c3f953337b105f80fc", func := "loop.example/cadastre/laws.FnExactVmapGet", spec := "fnExactVmapGet", unfollowed := true, recurses := true, apart := false, narrowed := true }
def FnExactVmapGetUptoSaid : Prop := fnExactVmapGetUptoRow.holds Try.pinned (OpenSpec.upto fnExactVmapGetSpec)

/-- 'laws.FnExactVmapAt', WHERE WHAT IT READS IS OF BULK AT MOST 1048576: true; the input reads as it did. -/
def fnExactVmapAtUptoRow : OpenClaim := { program := "ytchnmcpnpipfiaa", sum := "7615d5c5eaa94d94746602fddcb46b59e0b8e24a95fb65c3f953337b105f80fc", func := "loop.example/cadastre/laws.FnExactVmapAt", spec := "fnExactVmapAt", unfollowed := true, recurses := true, apart := false, narrowed := true }
def FnExactVmapAtUptoSaid : Prop := fnExactVmapAtUptoRow.holds Try.pinned (OpenSpec.upto fnExactVmapAtSpec)

/-- 'laws.FnExactTxnOk', WHERE WHAT IT READS IS OF BULK AT MOST 1048576: true; the input reads as it did. -/
def fnExactTxnOkUptoRow : OpenClaim := { program := "ytchnmcpnpipfiaa", sum := "7615d5c5eaa94d94746602fddcb46b59e0b8e24a95fb65c3f953337b105f80fc", func := "loop.example/cadastre/laws.FnExactTxnOk", spec := "fnExactTxnOk", unfollowed := true, recurses := true, apart := false, narrowed := true }
def FnExactTxnOkUptoSaid : Prop := fnExactTxnOkUptoRow.holds Try.pinned (OpenSpec.upto fnExactTxnOkSpec)

/-- 'laws.FnExactListMerge', WHERE WHAT IT READS IS OF BULK AT MOST 1048576: true; the input reads as it did. -/
def fnExactListMergeUptoRow : OpenClaim := { program := "ytchnmcpnpipfiaa", sum := "7615d5c5eaa94d94746602fddcb46b59e0b8e24a95fb65c3f953337b105f80fc", func := "loop.example/cadastre/laws.FnExactListMerge", spec := "fnExactListMerge", unfollowed := true, recurses := true, apart := false, narrowed := true }
def FnExactListMergeUptoSaid : Prop := fnExactListMergeUptoRow.holds Try.pinned (OpenSpec.upto fnExactListMergeSpec)

end Rows
end Go.Proofs.Ytchnmcpnpipfiaa
