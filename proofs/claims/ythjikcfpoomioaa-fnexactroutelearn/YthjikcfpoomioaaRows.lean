/-
  No cell of these rows narrows 'for every input' (looked for: loops, veiled, ifaces, maps, wideKeys, modest, calm, conditions, laid).
  DERIVED. THE GIVEN ROWS OF THIS SEAT. 12 by the template 'for every input the law returns true; each argument reads behind the call as it read before'; 0 by the template 'total and deterministic' (their statements: YthjikcfpoomioaaTotals.lean).
  GIVEN WITH THE SEED: the statements are not yours to turn. If you find one false, say at which input.
  Laid BY PROGRAM, IN A SANDBOX (cutbox-rows.mjs): the forced cells as the released guide's own fill.sh prints them over the translation c50ae0359153f225… (all of the seat's roots in one cut). By AI agents, Wed Nov 11 2026. No macro, syntax, notation, axiom, sorry.
-/
import Derived.Test.YthjikcfpoomioaaChecked
import GoSem.Claim
import GoSem.ClaimJoined
import GoSem.ClaimMapViews
import Derived.JoinedTies
import Derived.KernelRfl
namespace Go.Proofs.Ythjikcfpoomioaa
/- THE CELL 'sum', in the pinned program and in every row, IS THE sha256 OF THE DUMP (.gsa) THAT YthjikcfpoomioaaProg.lean LOADS. Nothing in Lean hashes anything: it is a label: what it is worth is what the hold of that sum in a sandbox is worth. -/
noncomputable def Try.pinned : Pinned := { name := "ythjikcfpoomioaa", sum := "c50ae0359153f22536f76d129ebe7f0fefc49e3281b179cab6c4338425f41ca3", checked := Try.checked }
namespace Rows
def none {H : Type} : Left H := { results := [], args := [] }

/-- 'laws.FnExactViewOk': WHATEVER THE INPUT: true; the input reads as it did. -/
def fnExactViewOkSpec : ChangeSpec := { name := "fnExactViewOk", fn := fun _ => fun
  | [d] => { results := [.lit (.bool true)], args := [d] }
  | _ => none }
def fnExactViewOkRow : OpenClaim := { program := "ythjikcfpoomioaa", sum := "c50ae0359153f22536f76d129ebe7f0fefc49e3281b179cab6c4338425f41ca3", func := "loop.example/cadastre/laws.FnExactViewOk", spec := "fnExactViewOk", unfollowed := true, recurses := true, apart := false }
def FnExactViewOkSaid : Prop := fnExactViewOkRow.holds Try.pinned (OpenSpec.ofChange fnExactViewOkSpec)

/-- ITS FALSE NEIGHBOUR: 'it returns false'. Refute it at one input. -/
def fnExactViewOkWrong : ChangeSpec := { name := "fnExactViewOk", fn := fun _ => fun
  | [d] => { results := [.lit (.bool false)], args := [d] }
  | _ => none }
def FnExactViewOkWrongFalsely : Prop := fnExactViewOkRow.holds Try.pinned (OpenSpec.ofChange fnExactViewOkWrong)

/-- 'laws.FnExactDiffOk': WHATEVER THE INPUT: true; the input reads as it did. -/
def fnExactDiffOkSpec : ChangeSpec := { name := "fnExactDiffOk", fn := fun _ => fun
  | [d] => { results := [.lit (.bool true)], args := [d] }
  | _ => none }
def fnExactDiffOkRow : OpenClaim := { program := "ythjikcfpoomioaa", sum := "c50ae0359153f22536f76d129ebe7f0fefc49e3281b179cab6c4338425f41ca3", func := "loop.example/cadastre/laws.FnExactDiffOk", spec := "fnExactDiffOk", unfollowed := true, recurses := true, apart := false }
def FnExactDiffOkSaid : Prop := fnExactDiffOkRow.holds Try.pinned (OpenSpec.ofChange fnExactDiffOkSpec)

/-- ITS FALSE NEIGHBOUR: 'it returns false'. Refute it at one input. -/
def fnExactDiffOkWrong : ChangeSpec := { name := "fnExactDiffOk", fn := fun _ => fun
  | [d] => { results := [.lit (.bool false)], args := [d] }
  | _ => none }
def FnExactDiffOkWrongFalsely : Prop := fnExactDiffOkRow.holds Try.pinned (OpenSpec.ofChange fnExactDiffOkWrong)

/-- 'laws.FnExactDiffBack': WHATEVER THE INPUT: true; the input reads as it did. -/
def fnExactDiffBackSpec : ChangeSpec := { name := "fnExactDiffBack", fn := fun _ => fun
  | [d] => { results := [.lit (.bool true)], args := [d] }
  | _ => none }
def fnExactDiffBackRow : OpenClaim := { program := "ythjikcfpoomioaa", sum := "c50ae0359153f22536f76d129ebe7f0fefc49e3281b179cab6c4338425f41ca3", func := "loop.example/cadastre/laws.FnExactDiffBack", spec := "fnExactDiffBack", unfollowed := true, recurses := true, apart := false }
def FnExactDiffBackSaid : Prop := fnExactDiffBackRow.holds Try.pinned (OpenSpec.ofChange fnExactDiffBackSpec)

/-- ITS FALSE NEIGHBOUR: 'it returns false'. Refute it at one input. -/
def fnExactDiffBackWrong : ChangeSpec := { name := "fnExactDiffBack", fn := fun _ => fun
  | [d] => { results := [.lit (.bool false)], args := [d] }
  | _ => none }
def FnExactDiffBackWrongFalsely : Prop := fnExactDiffBackRow.holds Try.pinned (OpenSpec.ofChange fnExactDiffBackWrong)

/-- 'laws.FnExactRouteOk': WHATEVER THE INPUT: true; the input reads as it did. -/
def fnExactRouteOkSpec : ChangeSpec := { name := "fnExactRouteOk", fn := fun _ => fun
  | [d] => { results := [.lit (.bool true)], args := [d] }
  | _ => none }
def fnExactRouteOkRow : OpenClaim := { program := "ythjikcfpoomioaa", sum := "c50ae0359153f22536f76d129ebe7f0fefc49e3281b179cab6c4338425f41ca3", func := "loop.example/cadastre/laws.FnExactRouteOk", spec := "fnExactRouteOk", unfollowed := true, recurses := true, apart := false }
def FnExactRouteOkSaid : Prop := fnExactRouteOkRow.holds Try.pinned (OpenSpec.ofChange fnExactRouteOkSpec)

/-- ITS FALSE NEIGHBOUR: 'it returns false'. Refute it at one input. -/
def fnExactRouteOkWrong : ChangeSpec := { name := "fnExactRouteOk", fn := fun _ => fun
  | [d] => { results := [.lit (.bool false)], args := [d] }
  | _ => none }
def FnExactRouteOkWrongFalsely : Prop := fnExactRouteOkRow.holds Try.pinned (OpenSpec.ofChange fnExactRouteOkWrong)

/-- 'laws.FnExactRouteFind': WHATEVER THE INPUT: true; the input reads as it did. -/
def fnExactRouteFindSpec : ChangeSpec := { name := "fnExactRouteFind", fn := fun _ => fun
  | [d1, d2] => { results := [.lit (.bool true)], args := [d1, d2] }
  | _ => none }
def fnExactRouteFindRow : OpenClaim := { program := "ythjikcfpoomioaa", sum := "c50ae0359153f22536f76d129ebe7f0fefc49e3281b179cab6c4338425f41ca3", func := "loop.example/cadastre/laws.FnExactRouteFind", spec := "fnExactRouteFind", unfollowed := true, recurses := true, apart := false }
def FnExactRouteFindSaid : Prop := fnExactRouteFindRow.holds Try.pinned (OpenSpec.ofChange fnExactRouteFindSpec)

/-- ITS FALSE NEIGHBOUR: 'it returns false'. Refute it at one input. -/
def fnExactRouteFindWrong : ChangeSpec := { name := "fnExactRouteFind", fn := fun _ => fun
  | [d1, d2] => { results := [.lit (.bool false)], args := [d1, d2] }
  | _ => none }
def FnExactRouteFindWrongFalsely : Prop := fnExactRouteFindRow.holds Try.pinned (OpenSpec.ofChange fnExactRouteFindWrong)

/-- 'laws.FnExactRouteAll': WHATEVER THE INPUT: true; the input reads as it did. -/
def fnExactRouteAllSpec : ChangeSpec := { name := "fnExactRouteAll", fn := fun _ => fun
  | [d] => { results := [.lit (.bool true)], args := [d] }
  | _ => none }
def fnExactRouteAllRow : OpenClaim := { program := "ythjikcfpoomioaa", sum := "c50ae0359153f22536f76d129ebe7f0fefc49e3281b179cab6c4338425f41ca3", func := "loop.example/cadastre/laws.FnExactRouteAll", spec := "fnExactRouteAll", unfollowed := true, recurses := true, apart := false }
def FnExactRouteAllSaid : Prop := fnExactRouteAllRow.holds Try.pinned (OpenSpec.ofChange fnExactRouteAllSpec)

/-- ITS FALSE NEIGHBOUR: 'it returns false'. Refute it at one input. -/
def fnExactRouteAllWrong : ChangeSpec := { name := "fnExactRouteAll", fn := fun _ => fun
  | [d] => { results := [.lit (.bool false)], args := [d] }
  | _ => none }
def FnExactRouteAllWrongFalsely : Prop := fnExactRouteAllRow.holds Try.pinned (OpenSpec.ofChange fnExactRouteAllWrong)

/-- 'laws.FnExactRouteRight': WHATEVER THE INPUT: true; the input reads as it did. -/
def fnExactRouteRightSpec : ChangeSpec := { name := "fnExactRouteRight", fn := fun _ => fun
  | [d1, d2] => { results := [.lit (.bool true)], args := [d1, d2] }
  | _ => none }
def fnExactRouteRightRow : OpenClaim := { program := "ythjikcfpoomioaa", sum := "c50ae0359153f22536f76d129ebe7f0fefc49e3281b179cab6c4338425f41ca3", func := "loop.example/cadastre/laws.FnExactRouteRight", spec := "fnExactRouteRight", unfollowed := true, recurses := true, apart := false }
def FnExactRouteRightSaid : Prop := fnExactRouteRightRow.holds Try.pinned (OpenSpec.ofChange fnExactRouteRightSpec)

/-- ITS FALSE NEIGHBOUR: 'it returns false'. Refute it at one input. -/
def fnExactRouteRightWrong : ChangeSpec := { name := "fnExactRouteRight", fn := fun _ => fun
  | [d1, d2] => { results := [.lit (.bool false)], args := [d1, d2] }
  | _ => none }
def FnExactRouteRightWrongFalsely : Prop := fnExactRouteRightRow.holds Try.pinned (OpenSpec.ofChange fnExactRouteRightWrong)

/-- 'laws.FnExactRouteLearn': WHATEVER THE INPUT: true; the input reads as it did. -/
def fnExactRouteLearnSpec : ChangeSpec := { name := "fnExactRouteLearn", fn := fun _ => fun
  | [d1, d2] => { results := [.lit (.bool true)], args := [d1, d2] }
  | _ => none }
def fnExactRouteLearnRow : OpenClaim := { program := "ythjikcfpoomioaa", sum := "c50ae0359153f22536f76d129ebe7f0fefc49e3281b179cab6c4338425f41ca3", func := "loop.example/cadastre/laws.FnExactRouteLearn", spec := "fnExactRouteLearn", unfollowed := true, recurses := true, apart := false }
def FnExactRouteLearnSaid : Prop := fnExactRouteLearnRow.holds Try.pinned (OpenSpec.ofChange fnExactRouteLearnSpec)

/-- ITS FALSE NEIGHBOUR: 'it returns false'. Refute it at one input. -/
def fnExactRouteLearnWrong : ChangeSpec := { name := "fnExactRouteLearn", fn := fun _ => fun
  | [d1, d2] => { results := [.lit (.bool false)], args := [d1, d2] }
  | _ => none }
def FnExactRouteLearnWrongFalsely : Prop := fnExactRouteLearnRow.holds Try.pinned (OpenSpec.ofChange fnExactRouteLearnWrong)

/-- 'laws.FnExactHistOk': WHATEVER THE INPUT: true; the input reads as it did. -/
def fnExactHistOkSpec : ChangeSpec := { name := "fnExactHistOk", fn := fun _ => fun
  | [d] => { results := [.lit (.bool true)], args := [d] }
  | _ => none }
def fnExactHistOkRow : OpenClaim := { program := "ythjikcfpoomioaa", sum := "c50ae0359153f22536f76d129ebe7f0fefc49e3281b179cab6c4338425f41ca3", func := "loop.example/cadastre/laws.FnExactHistOk", spec := "fnExactHistOk", unfollowed := true, recurses := true, apart := false }
def FnExactHistOkSaid : Prop := fnExactHistOkRow.holds Try.pinned (OpenSpec.ofChange fnExactHistOkSpec)

/-- ITS FALSE NEIGHBOUR: 'it returns false'. Refute it at one input. -/
def fnExactHistOkWrong : ChangeSpec := { name := "fnExactHistOk", fn := fun _ => fun
  | [d] => { results := [.lit (.bool false)], args := [d] }
  | _ => none }
def FnExactHistOkWrongFalsely : Prop := fnExactHistOkRow.holds Try.pinned (OpenSpec.ofChange fnExactHistOkWrong)

/-- 'laws.FnExactTxnKeys': WHATEVER THE INPUT: true; the input reads as it did. -/
def fnExactTxnKeysSpec : ChangeSpec := { name := "fnExactTxnKeys", fn := fun _ => fun
  | [d] => { results := [.lit (.bool true)], args := [d] }
  | _ => none }
def fnExactTxnKeysRow : OpenClaim := { program := "ythjikcfpoomioaa", sum := "c50ae0359153f22536f76d129ebe7f0fefc49e3281b179cab6c4338425f41ca3", func := "loop.example/cadastre/laws.FnExactTxnKeys", spec := "fnExactTxnKeys", unfollowed := true, recurses := true, apart := false }
def FnExactTxnKeysSaid : Prop := fnExactTxnKeysRow.holds Try.pinned (OpenSpec.ofChange fnExactTxnKeysSpec)

/-- ITS FALSE NEIGHBOUR: 'it returns false'. Refute it at one input. -/
def fnExactTxnKeysWrong : ChangeSpec := { name := "fnExactTxnKeys", fn := fun _ => fun
  | [d] => { results := [.lit (.bool false)], args := [d] }
  | _ => none }
def FnExactTxnKeysWrongFalsely : Prop := fnExactTxnKeysRow.holds Try.pinned (OpenSpec.ofChange fnExactTxnKeysWrong)

/-- 'laws.FnExactDiffOf': WHATEVER THE INPUT: true; the input reads as it did. -/
def fnExactDiffOfSpec : ChangeSpec := { name := "fnExactDiffOf", fn := fun _ => fun
  | [d1, d2] => { results := [.lit (.bool true)], args := [d1, d2] }
  | _ => none }
def fnExactDiffOfRow : OpenClaim := { program := "ythjikcfpoomioaa", sum := "c50ae0359153f22536f76d129ebe7f0fefc49e3281b179cab6c4338425f41ca3", func := "loop.example/cadastre/laws.FnExactDiffOf", spec := "fnExactDiffOf", unfollowed := true, recurses := true, apart := false }
def FnExactDiffOfSaid : Prop := fnExactDiffOfRow.holds Try.pinned (OpenSpec.ofChange fnExactDiffOfSpec)

/-- ITS FALSE NEIGHBOUR: 'it returns false'. Refute it at one input. -/
def fnExactDiffOfWrong : ChangeSpec := { name := "fnExactDiffOf", fn := fun _ => fun
  | [d1, d2] => { results := [.lit (.bool false)], args := [d1, d2] }
  | _ => none }
def FnExactDiffOfWrongFalsely : Prop := fnExactDiffOfRow.holds Try.pinned (OpenSpec.ofChange fnExactDiffOfWrong)

/-- 'laws.FnExactDiffJoin': WHATEVER THE INPUT: true; the input reads as it did. -/
def fnExactDiffJoinSpec : ChangeSpec := { name := "fnExactDiffJoin", fn := fun _ => fun
  | [d1, d2] => { results := [.lit (.bool true)], args := [d1, d2] }
  | _ => none }
def fnExactDiffJoinRow : OpenClaim := { program := "ythjikcfpoomioaa", sum := "c50ae0359153f22536f76d129ebe7f0fefc49e3281b179cab6c4338425f41ca3", func := "loop.example/cadastre/laws.FnExactDiffJoin", spec := "fnExactDiffJoin", unfollowed := true, recurses := true, apart := false }
def FnExactDiffJoinSaid : Prop := fnExactDiffJoinRow.holds Try.pinned (OpenSpec.ofChange fnExactDiffJoinSpec)

/-- ITS FALSE NEIGHBOUR: 'it returns false'. Refute it at one input. -/
def fnExactDiffJoinWrong : ChangeSpec := { name := "fnExactDiffJoin", fn := fun _ => fun
  | [d1, d2] => { results := [.lit (.bool false)], args := [d1, d2] }
  | _ => none }
def FnExactDiffJoinWrongFalsely : Prop := fnExactDiffJoinRow.holds Try.pinned (OpenSpec.ofChange fnExactDiffJoinWrong)

/- THE SECOND FORM. 'bulk': how many values and letters a reading holds, each counted each time it is reached (what is shared counts as often as it is met; a slice's spare places count too). A statement '..UptoSaid' is the law's where the arguments, and the package variables that the reading takes, are together of bulk at most 1048576: NARROWER than '..Said'. Prove '..Said' where nothing that the law and all that it calls make is longer than what came in: it says more and counts as full. Else prove '..UptoSaid'. A law counts once. -/
mutual
def uptoBulk {H : Type} : DataW H → Nat
  | .lit (.string bytes) => bytes.length + 1
  | .lit _ => 1
  | .nil => 1
  | .ptr d => uptoBulk d + 1
  | .slice elems spare => uptoBulkAll elems + uptoBulkAll spare + 1
  | .agg parts => uptoBulkAll parts + 1
  | .iface _ d => uptoBulk d + 1
  | .map entries => uptoBulkEntries entries + 1
  | .held _ => 1
def uptoBulkAll {H : Type} : List (DataW H) → Nat
  | [] => 0
  | d :: r => uptoBulk d + uptoBulkAll r
def uptoBulkEntries {H : Type} : List (Lit × DataW H) → Nat
  | [] => 0
  | x :: r => uptoBulkEntry x + uptoBulkEntries r
def uptoBulkEntry {H : Type} : Lit × DataW H → Nat
  | (.string bytes, d) => bytes.length + uptoBulk d + 1
  | (_, d) => uptoBulk d + 1
 end
def uptoSmall : (H : Type) → List (DataW H) → Bool := fun _ ds => decide (uptoBulkAll ds ≤ 1048576)
def OpenSpec.upto (s : _root_.Go.ChangeSpec) : _root_.Go.OpenSpec := { _root_.Go.OpenSpec.ofChange s with cond := some uptoSmall }

/-- 'laws.FnExactViewOk', WHERE WHAT IT READS IS OF BULK AT MOST 1048576: true; the input reads as it did. -/
def fnExactViewOkUptoRow : OpenClaim := { program := "ythjikcfpoomioaa", sum := "c50ae0359153f22536f76d129ebe7f0fefc49e3281b179cab6c4338425f41ca3", func := "loop.example/cadastre/laws.FnExactViewOk", spec := "fnExactViewOk", unfollowed := true, recurses := true, apart := false, narrowed := true }
def FnExactViewOkUptoSaid : Prop := fnExactViewOkUptoRow.holds Try.pinned (OpenSpec.upto fnExactViewOkSpec)

/-- 'laws.FnExactDiffOk', WHERE WHAT IT READS IS OF BULK AT MOST 1048576: true; the input reads as it did. -/
def fnExactDiffOkUptoRow : OpenClaim := { program := "ythjikcfpoomioaa", sum := "c50ae0359153f22536f76d129ebe7f0fefc49e3281b179cab6c4338425f41ca3", func := "loop.example/cadastre/laws.FnExactDiffOk", spec := "fnExactDiffOk", unfollowed := true, recurses := true, apart := false, narrowed := true }
def FnExactDiffOkUptoSaid : Prop := fnExactDiffOkUptoRow.holds Try.pinned (OpenSpec.upto fnExactDiffOkSpec)

/-- 'laws.FnExactDiffBack', WHERE WHAT IT READS IS OF BULK AT MOST 1048576: true; the input reads as it did. -/
def fnExactDiffBackUptoRow : OpenClaim := { program := "ythjikcfpoomioaa", sum := "c50ae0359153f22536f76d129ebe7f0fefc49e3281b179cab6c4338425f41ca3", func := "loop.example/cadastre/laws.FnExactDiffBack", spec := "fnExactDiffBack", unfollowed := true, recurses := true, apart := false, narrowed := true }
def FnExactDiffBackUptoSaid : Prop := fnExactDiffBackUptoRow.holds Try.pinned (OpenSpec.upto fnExactDiffBackSpec)

/-- 'laws.FnExactRouteOk', WHERE WHAT IT READS IS OF BULK AT MOST 1048576: true; the input reads as it did. -/
def fnExactRouteOkUptoRow : OpenClaim := { program := "ythjikcfpoomioaa", sum := "c50ae0359153f22536f76d129ebe7f0fefc49e3281b179cab6c4338425f41ca3", func := "loop.example/cadastre/laws.FnExactRouteOk", spec := "fnExactRouteOk", unfollowed := true, recurses := true, apart := false, narrowed := true }
def FnExactRouteOkUptoSaid : Prop := fnExactRouteOkUptoRow.holds Try.pinned (OpenSpec.upto fnExactRouteOkSpec)

/-- 'laws.FnExactRouteFind', WHERE WHAT IT READS IS OF BULK AT MOST 1048576: true; the input reads as it did. -/
def fnExactRouteFindUptoRow : OpenClaim := { program := "ythjikcfpoomioaa", sum := "c50ae0359153f22536f76d129ebe7f0fefc49e3281b179cab6c4338425f41ca3", func := "loop.example/cadastre/laws.FnExactRouteFind", spec := "fnExactRouteFind", unfollowed := true, recurses := true, apart := false, narrowed := true }
def FnExactRouteFindUptoSaid : Prop := fnExactRouteFindUptoRow.holds Try.pinned (OpenSpec.upto fnExactRouteFindSpec)

/-- 'laws.FnExactRouteAll', WHERE WHAT IT READS IS OF BULK AT MOST 1048576: true; the input reads as it did. -/
def fnExactRouteAllUptoRow : OpenClaim := { program := "ythjikcfpoomioaa", sum := "c50ae0359153f22536f76d129ebe7f0fefc49e3281b179cab6c4338425f41ca3", func := "loop.example/cadastre/laws.FnExactRouteAll", spec := "fnExactRouteAll", unfollowed := true, recurses := true, apart := false, narrowed := true }
def FnExactRouteAllUptoSaid : Prop := fnExactRouteAllUptoRow.holds Try.pinned (OpenSpec.upto fnExactRouteAllSpec)

/-- 'laws.FnExactRouteRight', WHERE WHAT IT READS IS OF BULK AT MOST 1048576: true; the input reads as it did. -/
def fnExactRouteRightUptoRow : OpenClaim := { program := "ythjikcfpoomioaa", sum := "c50ae0359153f22536f76d129ebe7f0fefc49e3281b179cab6c4338425f41ca3", func := "loop.example/cadastre/laws.FnExactRouteRight", spec := "fnExactRouteRight", unfollowed := true, recurses := true, apart := false, narrowed := true }
def FnExactRouteRightUptoSaid : Prop := fnExactRouteRightUptoRow.holds Try.pinned (OpenSpec.upto fnExactRouteRightSpec)

/-- 'laws.FnExactRouteLearn', WHERE WHAT IT READS IS OF BULK AT MOST 1048576: true; the input reads as it did. -/
def fnExactRouteLearnUptoRow : OpenClaim := { program := "ythjikcfpoomioaa", sum := "c50ae0359153f22536f76d129ebe7f0fefc49e3281b179cab6c4338425f41ca3", func := "loop.example/cadastre/laws.FnExactRouteLearn", spec := "fnExactRouteLearn", unfollowed := true, recurses := true, apart := false, narrowed := true }
def FnExactRouteLearnUptoSaid : Prop := fnExactRouteLearnUptoRow.holds Try.pinned (OpenSpec.upto fnExactRouteLearnSpec)

/-- 'laws.FnExactHistOk', WHERE WHAT IT READS IS OF BULK AT MOST 1048576: true; the input reads as it did. -/
def fnExactHistOkUptoRow : OpenClaim := { program := "ythjikcfpoomioaa", sum := "c50ae0359153f22536f76d129ebe7f0fefc49e3281b179cab6c4338425f41ca3", func := "loop.example/cadastre/laws.FnExactHistOk", spec := "fnExactHistOk", unfollowed := true, recurses := true, apart := false, narrowed := true }
def FnExactHistOkUptoSaid : Prop := fnExactHistOkUptoRow.holds Try.pinned (OpenSpec.upto fnExactHistOkSpec)

/-- 'laws.FnExactTxnKeys', WHERE WHAT IT READS IS OF BULK AT MOST 1048576: true; the input reads as it did. -/
def fnExactTxnKeysUptoRow : OpenClaim := { program := "ythjikcfpoomioaa", sum := "c50ae0359153f22536f76d129ebe7f0fefc49e3281b179cab6c4338425f41ca3", func := "loop.example/cadastre/laws.FnExactTxnKeys", spec := "fnExactTxnKeys", unfollowed := true, recurses := true, apart := false, narrowed := true }
def FnExactTxnKeysUptoSaid : Prop := fnExactTxnKeysUptoRow.holds Try.pinned (OpenSpec.upto fnExactTxnKeysSpec)

/-- 'laws.FnExactDiffOf', WHERE WHAT IT READS IS OF BULK AT MOST 1048576: true; the input reads as it did. -/
def fnExactDiffOfUptoRow : OpenClaim := { program := "ythjikcfpoomioaa", sum := "c50ae0359153f22536f76d129ebe7f0fefc49e3281b179cab6c4338425f41ca3", func := "loop.example/cadastre/laws.FnExactDiffOf", spec := "fnExactDiffOf", unfollowed := true, recurses := true, apart := false, narrowed := true }
def FnExactDiffOfUptoSaid : Prop := fnExactDiffOfUptoRow.holds Try.pinned (OpenSpec.upto fnExactDiffOfSpec)

/-- 'laws.FnExactDiffJoin', WHERE WHAT IT READS IS OF BULK AT MOST 1048576: true; the input reads as it did. -/
def fnExactDiffJoinUptoRow : OpenClaim := { program := "ythjikcfpoomioaa", sum := "c50ae0359153f22536f76d129ebe7f0fefc49e3281b179cab6c4338425f41ca3", func := "loop.example/cadastre/laws.FnExactDiffJoin", spec := "fnExactDiffJoin", unfollowed := true, recurses := true, apart := false, narrowed := true }
def FnExactDiffJoinUptoSaid : Prop := fnExactDiffJoinUptoRow.holds Try.pinned (OpenSpec.upto fnExactDiffJoinSpec)

end Rows
end Go.Proofs.Ythjikcfpoomioaa
