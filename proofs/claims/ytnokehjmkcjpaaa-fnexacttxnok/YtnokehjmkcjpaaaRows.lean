/-
  No cell of these rows narrows 'for every input' (looked for: loops, veiled, ifaces, maps, wideKeys, modest, calm, conditions, laid).
  DERIVED. THE GIVEN ROWS OF THIS SEAT. 11 by the template 'for every input the law returns true; each argument reads behind the call as it read before'; 0 by the template 'total and deterministic' (their statements: YtnokehjmkcjpaaaTotals.lean).
  GIVEN WITH THE SEED: the statements are not yours to turn. If you find one false, say at which input.
  Laid BY PROGRAM, IN A SANDBOX (cutbox-rows.mjs): the forced cells as the released guide's own fill.sh prints them over the translation b1e1656fd2700f4b… (all of the seat's roots in one cut). By AI agents, Wed Nov 11 2026. No macro, syntax, notation, axiom, sorry.
-/
import Derived.Test.YtnokehjmkcjpaaaChecked
import GoSem.Claim
import GoSem.ClaimJoined
import GoSem.ClaimMapViews
import Derived.JoinedTies
import Derived.KernelRfl
namespace Go.Proofs.Ytnokehjmkcjpaaa
/- THE CELL 'sum', in the pinned program and in every row, IS THE sha256 OF THE DUMP (.gsa) THAT YtnokehjmkcjpaaaProg.lean LOADS. Nothing in Lean hashes anything: it is a label: what it is worth is what the hold of that sum in a sandbox is worth. -/
noncomputable def Try.pinned : Pinned := { name := "ytnokehjmkcjpaaa", sum := "b1e1656fd2700f4b679e20b3e7436de3055537592502761a5eccef813f180661", checked := Try.checked }
namespace Rows
def none {H : Type} : Left H := { results := [], args := [] }

/-- 'laws.FnExactTxnOk': WHATEVER THE INPUT: true; the input reads as it did. -/
def fnExactTxnOkSpec : ChangeSpec := { name := "fnExactTxnOk", fn := fun _ => fun
  | [d] => { results := [.lit (.bool true)], args := [d] }
  | _ => none }
def fnExactTxnOkRow : OpenClaim := { program := "ytnokehjmkcjpaaa", sum := "b1e1656fd2700f4b679e20b3e7436de3055537592502761a5eccef813f180661", func := "loop.example/cadastre/laws.FnExactTxnOk", spec := "fnExactTxnOk", unfollowed := true, recurses := true, apart := false }
def FnExactTxnOkSaid : Prop := fnExactTxnOkRow.holds Try.pinned (OpenSpec.ofChange fnExactTxnOkSpec)

/-- ITS FALSE NEIGHBOUR: 'it returns false'. Refute it at one input. -/
def fnExactTxnOkWrong : ChangeSpec := { name := "fnExactTxnOk", fn := fun _ => fun
  | [d] => { results := [.lit (.bool false)], args := [d] }
  | _ => none }
def FnExactTxnOkWrongFalsely : Prop := fnExactTxnOkRow.holds Try.pinned (OpenSpec.ofChange fnExactTxnOkWrong)

/-- 'laws.FnExactNoteOk': WHATEVER THE INPUT: true; the input reads as it did. -/
def fnExactNoteOkSpec : ChangeSpec := { name := "fnExactNoteOk", fn := fun _ => fun
  | [d] => { results := [.lit (.bool true)], args := [d] }
  | _ => none }
def fnExactNoteOkRow : OpenClaim := { program := "ytnokehjmkcjpaaa", sum := "b1e1656fd2700f4b679e20b3e7436de3055537592502761a5eccef813f180661", func := "loop.example/cadastre/laws.FnExactNoteOk", spec := "fnExactNoteOk", unfollowed := true, recurses := true, apart := false }
def FnExactNoteOkSaid : Prop := fnExactNoteOkRow.holds Try.pinned (OpenSpec.ofChange fnExactNoteOkSpec)

/-- ITS FALSE NEIGHBOUR: 'it returns false'. Refute it at one input. -/
def fnExactNoteOkWrong : ChangeSpec := { name := "fnExactNoteOk", fn := fun _ => fun
  | [d] => { results := [.lit (.bool false)], args := [d] }
  | _ => none }
def FnExactNoteOkWrongFalsely : Prop := fnExactNoteOkRow.holds Try.pinned (OpenSpec.ofChange fnExactNoteOkWrong)

/-- 'laws.FnExactCrc': WHATEVER THE INPUT: true; the input reads as it did. -/
def fnExactCrcSpec : ChangeSpec := { name := "fnExactCrc", fn := fun _ => fun
  | [d] => { results := [.lit (.bool true)], args := [d] }
  | _ => none }
def fnExactCrcRow : OpenClaim := { program := "ytnokehjmkcjpaaa", sum := "b1e1656fd2700f4b679e20b3e7436de3055537592502761a5eccef813f180661", func := "loop.example/cadastre/laws.FnExactCrc", spec := "fnExactCrc", unfollowed := true, recurses := true, apart := false }
def FnExactCrcSaid : Prop := fnExactCrcRow.holds Try.pinned (OpenSpec.ofChange fnExactCrcSpec)

/-- ITS FALSE NEIGHBOUR: 'it returns false'. Refute it at one input. -/
def fnExactCrcWrong : ChangeSpec := { name := "fnExactCrc", fn := fun _ => fun
  | [d] => { results := [.lit (.bool false)], args := [d] }
  | _ => none }
def FnExactCrcWrongFalsely : Prop := fnExactCrcRow.holds Try.pinned (OpenSpec.ofChange fnExactCrcWrong)

/-- 'laws.FnExactNotePut': WHATEVER THE INPUT: true; the input reads as it did. -/
def fnExactNotePutSpec : ChangeSpec := { name := "fnExactNotePut", fn := fun _ => fun
  | [d] => { results := [.lit (.bool true)], args := [d] }
  | _ => none }
def fnExactNotePutRow : OpenClaim := { program := "ytnokehjmkcjpaaa", sum := "b1e1656fd2700f4b679e20b3e7436de3055537592502761a5eccef813f180661", func := "loop.example/cadastre/laws.FnExactNotePut", spec := "fnExactNotePut", unfollowed := true, recurses := true, apart := false }
def FnExactNotePutSaid : Prop := fnExactNotePutRow.holds Try.pinned (OpenSpec.ofChange fnExactNotePutSpec)

/-- ITS FALSE NEIGHBOUR: 'it returns false'. Refute it at one input. -/
def fnExactNotePutWrong : ChangeSpec := { name := "fnExactNotePut", fn := fun _ => fun
  | [d] => { results := [.lit (.bool false)], args := [d] }
  | _ => none }
def FnExactNotePutWrongFalsely : Prop := fnExactNotePutRow.holds Try.pinned (OpenSpec.ofChange fnExactNotePutWrong)

/-- 'laws.FnExactTxnCut': WHATEVER THE INPUT: true; the input reads as it did. -/
def fnExactTxnCutSpec : ChangeSpec := { name := "fnExactTxnCut", fn := fun _ => fun
  | [d1, d2] => { results := [.lit (.bool true)], args := [d1, d2] }
  | _ => none }
def fnExactTxnCutRow : OpenClaim := { program := "ytnokehjmkcjpaaa", sum := "b1e1656fd2700f4b679e20b3e7436de3055537592502761a5eccef813f180661", func := "loop.example/cadastre/laws.FnExactTxnCut", spec := "fnExactTxnCut", unfollowed := true, recurses := true, apart := false }
def FnExactTxnCutSaid : Prop := fnExactTxnCutRow.holds Try.pinned (OpenSpec.ofChange fnExactTxnCutSpec)

/-- ITS FALSE NEIGHBOUR: 'it returns false'. Refute it at one input. -/
def fnExactTxnCutWrong : ChangeSpec := { name := "fnExactTxnCut", fn := fun _ => fun
  | [d1, d2] => { results := [.lit (.bool false)], args := [d1, d2] }
  | _ => none }
def FnExactTxnCutWrongFalsely : Prop := fnExactTxnCutRow.holds Try.pinned (OpenSpec.ofChange fnExactTxnCutWrong)

/-- 'laws.FnExactTxnKeys': WHATEVER THE INPUT: true; the input reads as it did. -/
def fnExactTxnKeysSpec : ChangeSpec := { name := "fnExactTxnKeys", fn := fun _ => fun
  | [d] => { results := [.lit (.bool true)], args := [d] }
  | _ => none }
def fnExactTxnKeysRow : OpenClaim := { program := "ytnokehjmkcjpaaa", sum := "b1e1656fd2700f4b679e20b3e7436de3055537592502761a5eccef813f180661", func := "loop.example/cadastre/laws.FnExactTxnKeys", spec := "fnExactTxnKeys", unfollowed := true, recurses := true, apart := false }
def FnExactTxnKeysSaid : Prop := fnExactTxnKeysRow.holds Try.pinned (OpenSpec.ofChange fnExactTxnKeysSpec)

/-- ITS FALSE NEIGHBOUR: 'it returns false'. Refute it at one input. -/
def fnExactTxnKeysWrong : ChangeSpec := { name := "fnExactTxnKeys", fn := fun _ => fun
  | [d] => { results := [.lit (.bool false)], args := [d] }
  | _ => none }
def FnExactTxnKeysWrongFalsely : Prop := fnExactTxnKeysRow.holds Try.pinned (OpenSpec.ofChange fnExactTxnKeysWrong)

/-- 'laws.FnExactPmapSplit': WHATEVER THE INPUT: true; the input reads as it did. -/
def fnExactPmapSplitSpec : ChangeSpec := { name := "fnExactPmapSplit", fn := fun _ => fun
  | [d1, d2, d3] => { results := [.lit (.bool true)], args := [d1, d2, d3] }
  | _ => none }
def fnExactPmapSplitRow : OpenClaim := { program := "ytnokehjmkcjpaaa", sum := "b1e1656fd2700f4b679e20b3e7436de3055537592502761a5eccef813f180661", func := "loop.example/cadastre/laws.FnExactPmapSplit", spec := "fnExactPmapSplit", unfollowed := true, recurses := true, apart := false }
def FnExactPmapSplitSaid : Prop := fnExactPmapSplitRow.holds Try.pinned (OpenSpec.ofChange fnExactPmapSplitSpec)

/-- ITS FALSE NEIGHBOUR: 'it returns false'. Refute it at one input. -/
def fnExactPmapSplitWrong : ChangeSpec := { name := "fnExactPmapSplit", fn := fun _ => fun
  | [d1, d2, d3] => { results := [.lit (.bool false)], args := [d1, d2, d3] }
  | _ => none }
def FnExactPmapSplitWrongFalsely : Prop := fnExactPmapSplitRow.holds Try.pinned (OpenSpec.ofChange fnExactPmapSplitWrong)

/-- 'laws.FnExactHistOk': WHATEVER THE INPUT: true; the input reads as it did. -/
def fnExactHistOkSpec : ChangeSpec := { name := "fnExactHistOk", fn := fun _ => fun
  | [d] => { results := [.lit (.bool true)], args := [d] }
  | _ => none }
def fnExactHistOkRow : OpenClaim := { program := "ytnokehjmkcjpaaa", sum := "b1e1656fd2700f4b679e20b3e7436de3055537592502761a5eccef813f180661", func := "loop.example/cadastre/laws.FnExactHistOk", spec := "fnExactHistOk", unfollowed := true, recurses := true, apart := false }
def FnExactHistOkSaid : Prop := fnExactHistOkRow.holds Try.pinned (OpenSpec.ofChange fnExactHistOkSpec)

/-- ITS FALSE NEIGHBOUR: 'it returns false'. Refute it at one input. -/
def fnExactHistOkWrong : ChangeSpec := { name := "fnExactHistOk", fn := fun _ => fun
  | [d] => { results := [.lit (.bool false)], args := [d] }
  | _ => none }
def FnExactHistOkWrongFalsely : Prop := fnExactHistOkRow.holds Try.pinned (OpenSpec.ofChange fnExactHistOkWrong)

/-- 'laws.FnTxnKeys': WHATEVER THE INPUT: true; the input reads as it did. -/
def fnTxnKeysSpec : ChangeSpec := { name := "fnTxnKeys", fn := fun _ => fun
  | [d] => { results := [.lit (.bool true)], args := [d] }
  | _ => none }
def fnTxnKeysRow : OpenClaim := { program := "ytnokehjmkcjpaaa", sum := "b1e1656fd2700f4b679e20b3e7436de3055537592502761a5eccef813f180661", func := "loop.example/cadastre/laws.FnTxnKeys", spec := "fnTxnKeys", unfollowed := true, recurses := true, apart := false }
def FnTxnKeysSaid : Prop := fnTxnKeysRow.holds Try.pinned (OpenSpec.ofChange fnTxnKeysSpec)

/-- ITS FALSE NEIGHBOUR: 'it returns false'. Refute it at one input. -/
def fnTxnKeysWrong : ChangeSpec := { name := "fnTxnKeys", fn := fun _ => fun
  | [d] => { results := [.lit (.bool false)], args := [d] }
  | _ => none }
def FnTxnKeysWrongFalsely : Prop := fnTxnKeysRow.holds Try.pinned (OpenSpec.ofChange fnTxnKeysWrong)

/-- 'laws.FnPmapSpan': WHATEVER THE INPUT: true; the input reads as it did. -/
def fnPmapSpanSpec : ChangeSpec := { name := "fnPmapSpan", fn := fun _ => fun
  | [d] => { results := [.lit (.bool true)], args := [d] }
  | _ => none }
def fnPmapSpanRow : OpenClaim := { program := "ytnokehjmkcjpaaa", sum := "b1e1656fd2700f4b679e20b3e7436de3055537592502761a5eccef813f180661", func := "loop.example/cadastre/laws.FnPmapSpan", spec := "fnPmapSpan", unfollowed := true, recurses := true, apart := false }
def FnPmapSpanSaid : Prop := fnPmapSpanRow.holds Try.pinned (OpenSpec.ofChange fnPmapSpanSpec)

/-- ITS FALSE NEIGHBOUR: 'it returns false'. Refute it at one input. -/
def fnPmapSpanWrong : ChangeSpec := { name := "fnPmapSpan", fn := fun _ => fun
  | [d] => { results := [.lit (.bool false)], args := [d] }
  | _ => none }
def FnPmapSpanWrongFalsely : Prop := fnPmapSpanRow.holds Try.pinned (OpenSpec.ofChange fnPmapSpanWrong)

/-- 'laws.FnTxnCut': WHATEVER THE INPUT: true; the input reads as it did. -/
def fnTxnCutSpec : ChangeSpec := { name := "fnTxnCut", fn := fun _ => fun
  | [d1, d2] => { results := [.lit (.bool true)], args := [d1, d2] }
  | _ => none }
def fnTxnCutRow : OpenClaim := { program := "ytnokehjmkcjpaaa", sum := "b1e1656fd2700f4b679e20b3e7436de3055537592502761a5eccef813f180661", func := "loop.example/cadastre/laws.FnTxnCut", spec := "fnTxnCut", unfollowed := true, recurses := true, apart := false }
def FnTxnCutSaid : Prop := fnTxnCutRow.holds Try.pinned (OpenSpec.ofChange fnTxnCutSpec)

/-- ITS FALSE NEIGHBOUR: 'it returns false'. Refute it at one input. -/
def fnTxnCutWrong : ChangeSpec := { name := "fnTxnCut", fn := fun _ => fun
  | [d1, d2] => { results := [.lit (.bool false)], args := [d1, d2] }
  | _ => none }
def FnTxnCutWrongFalsely : Prop := fnTxnCutRow.holds Try.pinned (OpenSpec.ofChange fnTxnCutWrong)

/- THE SECOND FORM. 'bulk': how many values and letters a reading holds, each counted each time it is reached (what is shared counts as often as it is met; a slice's spare places count too). A statement '..UptoSaid' is the law's where the arguments, and the package variables that the reading takes, are together of bulk at most 1048576: NARROWER than '..Said'. Prove '..Said' where nothing that the law and all that it calls make is longer than what came in: it says more and counts as full. Else prove '..UptoSaid'. A law counts once. -/
mutual
def uptoBulk {H : Type} : DataW H → Nat
  | .lit (.string bytes) => bytes.length + 1
  | .lit _ => 1
  | .nil => 1
  | .ptr d => uptoBulk d + 1
  | .slice elems spare => uptoBulkAll elems + uptoBulkAll spare + 1
  | .agg parts => uptoBulkAll parts + 1
  | .iface _ d => uptoBulk d + 1
  | .map entries => uptoBulkEntries entries + 1
  | .held _ => 1
def uptoBulkAll {H : Type} : List (DataW H) → Nat
  | [] => 0
  | d :: r => uptoBulk d + uptoBulkAll r
def uptoBulkEntries {H : Type} : List (Lit × DataW H) → Nat
  | [] => 0
  | x :: r => uptoBulkEntry x + uptoBulkEntries r
def uptoBulkEntry {H : Type} : Lit × DataW H → Nat
  | (.string bytes, d) => bytes.length + uptoBulk d + 1
  | (_, d) => uptoBulk d + 1
 end
def uptoSmall : (H : Type) → List (DataW H) → Bool := fun _ ds => decide (uptoBulkAll ds ≤ 1048576)
def OpenSpec.upto (s : _root_.Go.ChangeSpec) : _root_.Go.OpenSpec := { _root_.Go.OpenSpec.ofChange s with cond := some uptoSmall }

/-- 'laws.FnExactTxnOk', WHERE WHAT IT READS IS OF BULK AT MOST 1048576: true; the input reads as it did. -/
def fnExactTxnOkUptoRow : OpenClaim := { program := "ytnokehjmkcjpaaa", sum := "b1e1656fd2700f4b679e20b3e7436de3055537592502761a5eccef813f180661", func := "loop.example/cadastre/laws.FnExactTxnOk", spec := "fnExactTxnOk", unfollowed := true, recurses := true, apart := false, narrowed := true }
def FnExactTxnOkUptoSaid : Prop := fnExactTxnOkUptoRow.holds Try.pinned (OpenSpec.upto fnExactTxnOkSpec)

/-- 'laws.FnExactNoteOk', WHERE WHAT IT READS IS OF BULK AT MOST 1048576: true; the input reads as it did. -/
def fnExactNoteOkUptoRow : OpenClaim := { program := "ytnokehjmkcjpaaa", sum := "b1e1656fd2700f4b679e20b3e7436de3055537592502761a5eccef813f180661", func := "loop.example/cadastre/laws.FnExactNoteOk", spec := "fnExactNoteOk", unfollowed := true, recurses := true, apart := false, narrowed := true }
def FnExactNoteOkUptoSaid : Prop := fnExactNoteOkUptoRow.holds Try.pinned (OpenSpec.upto fnExactNoteOkSpec)

/-- 'laws.FnExactCrc', WHERE WHAT IT READS IS OF BULK AT MOST 1048576: true; the input reads as it did. -/
def fnExactCrcUptoRow : OpenClaim := { program := "ytnokehjmkcjpaaa", sum := "b1e1656fd2700f4b679e20b3e7436de3055537592502761a5eccef813f180661", func := "loop.example/cadastre/laws.FnExactCrc", spec := "fnExactCrc", unfollowed := true, recurses := true, apart := false, narrowed := true }
def FnExactCrcUptoSaid : Prop := fnExactCrcUptoRow.holds Try.pinned (OpenSpec.upto fnExactCrcSpec)

/-- 'laws.FnExactNotePut', WHERE WHAT IT READS IS OF BULK AT MOST 1048576: true; the input reads as it did. -/
def fnExactNotePutUptoRow : OpenClaim := { program := "ytnokehjmkcjpaaa", sum := "b1e1656fd2700f4b679e20b3e7436de3055537592502761a5eccef813f180661", func := "loop.example/cadastre/laws.FnExactNotePut", spec := "fnExactNotePut", unfollowed := true, recurses := true, apart := false, narrowed := true }
def FnExactNotePutUptoSaid : Prop := fnExactNotePutUptoRow.holds Try.pinned (OpenSpec.upto fnExactNotePutSpec)

/-- 'laws.FnExactTxnCut', WHERE WHAT IT READS IS OF BULK AT MOST 1048576: true; the input reads as it did. -/
def fnExactTxnCutUptoRow : OpenClaim := { program := "ytnokehjmkcjpaaa", sum := "b1e1656fd2700f4b679e20b3e7436de3055537592502761a5eccef813f180661", func := "loop.example/cadastre/laws.FnExactTxnCut", spec := "fnExactTxnCut", unfollowed := true, recurses := true, apart := false, narrowed := true }
def FnExactTxnCutUptoSaid : Prop := fnExactTxnCutUptoRow.holds Try.pinned (OpenSpec.upto fnExactTxnCutSpec)

/-- 'laws.FnExactTxnKeys', WHERE WHAT IT READS IS OF BULK AT MOST 1048576: true; the input reads as it did. -/
def fnExactTxnKeysUptoRow : OpenClaim := { program := "ytnokehjmkcjpaaa", sum := "b1e1656fd2700f4b679e20b3e7436de3055537592502761a5eccef813f180661", func := "loop.example/cadastre/laws.FnExactTxnKeys", spec := "fnExactTxnKeys", unfollowed := true, recurses := true, apart := false, narrowed := true }
def FnExactTxnKeysUptoSaid : Prop := fnExactTxnKeysUptoRow.holds Try.pinned (OpenSpec.upto fnExactTxnKeysSpec)

/-- 'laws.FnExactPmapSplit', WHERE WHAT IT READS IS OF BULK AT MOST 1048576: true; the input reads as it did. -/
def fnExactPmapSplitUptoRow : OpenClaim := { program := "ytnokehjmkcjpaaa", sum := "b1e1656fd2700f4b679e20b3e7436de3055537592502761a5eccef813f180661", func := "loop.example/cadastre/laws.FnExactPmapSplit", spec := "fnExactPmapSplit", unfollowed := true, recurses := true, apart := false, narrowed := true }
def FnExactPmapSplitUptoSaid : Prop := fnExactPmapSplitUptoRow.holds Try.pinned (OpenSpec.upto fnExactPmapSplitSpec)

/-- 'laws.FnExactHistOk', WHERE WHAT IT READS IS OF BULK AT MOST 1048576: true; the input reads as it did. -/
def fnExactHistOkUptoRow : OpenClaim := { program := "ytnokehjmkcjpaaa", sum := "b1e1656fd2700f4b679e20b3e7436de3055537592502761a5eccef813f180661", func := "loop.example/cadastre/laws.FnExactHistOk", spec := "fnExactHistOk", unfollowed := true, recurses := true, apart := false, narrowed := true }
def FnExactHistOkUptoSaid : Prop := fnExactHistOkUptoRow.holds Try.pinned (OpenSpec.upto fnExactHistOkSpec)

/-- 'laws.FnTxnKeys', WHERE WHAT IT READS IS OF BULK AT MOST 1048576: true; the input reads as it did. -/
def fnTxnKeysUptoRow : OpenClaim := { program := "ytnokehjmkcjpaaa", sum := "b1e1656fd2700f4b679e20b3e7436de3055537592502761a5eccef813f180661", func := "loop.example/cadastre/laws.FnTxnKeys", spec := "fnTxnKeys", unfollowed := true, recurses := true, apart := false, narrowed := true }
def FnTxnKeysUptoSaid : Prop := fnTxnKeysUptoRow.holds Try.pinned (OpenSpec.upto fnTxnKeysSpec)

/-- 'laws.FnPmapSpan', WHERE WHAT IT READS IS OF BULK AT MOST 1048576: true; the input reads as it did. -/
def fnPmapSpanUptoRow : OpenClaim := { program := "ytnokehjmkcjpaaa", sum := "b1e1656fd2700f4b679e20b3e7436de3055537592502761a5eccef813f180661", func := "loop.example/cadastre/laws.FnPmapSpan", spec := "fnPmapSpan", unfollowed := true, recurses := true, apart := false, narrowed := true }
def FnPmapSpanUptoSaid : Prop := fnPmapSpanUptoRow.holds Try.pinned (OpenSpec.upto fnPmapSpanSpec)

/-- 'laws.FnTxnCut', WHERE WHAT IT READS IS OF BULK AT MOST 1048576: true; the input reads as it did. -/
def fnTxnCutUptoRow : OpenClaim := { program := "ytnokehjmkcjpaaa", sum := "b1e1656fd2700f4b679e20b3e7436de3055537592502761a5eccef813f180661", func := "loop.example/cadastre/laws.FnTxnCut", spec := "fnTxnCut", unfollowed := true, recurses := true, apart := false, narrowed := true }
def FnTxnCutUptoSaid : Prop := fnTxnCutUptoRow.holds Try.pinned (OpenSpec.upto fnTxnCutSpec)

end Rows
end Go.Proofs.Ytnokehjmkcjpaaa
