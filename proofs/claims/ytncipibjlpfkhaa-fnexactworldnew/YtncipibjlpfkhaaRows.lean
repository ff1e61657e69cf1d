/-
  No cell of these rows narrows 'for every input' (looked for: loops, veiled, ifaces, maps, wideKeys, modest, calm, conditions, laid).
  DERIVED. THE GIVEN ROWS OF THIS SEAT. 11 by the template 'for every input the law returns true; each argument reads behind the call as it read before'; 0 by the template 'total and deterministic' (their statements: YtncipibjlpfkhaaTotals.lean).
  GIVEN WITH THE SEED: the statements are not yours to turn. If you find one false, say at which input.
  Laid BY PROGRAM, IN A SANDBOX (cutbox-rows.mjs): the forced cells as the released guide's own fill.sh prints them over the translation 588f60bffc4a071b… (all of the seat's roots in one cut). By AI agents, Wed Nov 11 2026. No macro, syntax, notation, axiom, sorry.
-/
import Derived.Test.YtncipibjlpfkhaaChecked
import GoSem.Claim
import GoSem.ClaimJoined
import GoSem.ClaimMapViews
import Derived.JoinedTies
import Derived.KernelRfl
namespace Go.Proofs.Ytncipibjlpfkhaa
/- THE CELL 'sum', in the pinned program and in every row, IS THE sha256 OF THE DUMP (.gsa) THAT YtncipibjlpfkhaaProg.lean LOADS. Nothing in Lean hashes anything: it is a label: what it is worth is what the hold of that sum in a sandbox is worth. -/
noncomputable def Try.pinned : Pinned := { name := "ytncipibjlpfkhaa", sum := "588f60bffc4a071ba42a7bebfde0f099490436af2a03923fde89351a4b036257", checked := Try.checked }
namespace Rows
def none {H : Type} : Left H := { results := [], args := [] }

/-- 'laws.FnExactCrc': WHATEVER THE INPUT: true; the input reads as it did. -/
def fnExactCrcSpec : ChangeSpec := { name := "fnExactCrc", fn := fun _ => fun
  | [d] => { results := [.lit (.bool true)], args := [d] }
  | _ => none }
def fnExactCrcRow : OpenClaim := { program := "ytncipibjlpfkhaa", sum := "588f60bffc4a071ba42a7bebfde0f099490436af2a03923fde89351a4b036257", func := "loop.example/cadastre/laws.FnExactCrc", spec := "fnExactCrc", unfollowed := true, recurses := true, apart := false }
def FnExactCrcSaid : Prop := fnExactCrcRow.holds Try.pinned (OpenSpec.ofChange fnExactCrcSpec)

/-- ITS FALSE NEIGHBOUR: 'it returns false'. Refute it at one input. -/
def fnExactCrcWrong : ChangeSpec := { name := "fnExactCrc", fn := fun _ => fun
  | [d] => { results := [.lit (.bool false)], args := [d] }
  | _ => none }
def FnExactCrcWrongFalsely : Prop := fnExactCrcRow.holds Try.pinned (OpenSpec.ofChange fnExactCrcWrong)

/-- 'laws.FnCrc': WHATEVER THE INPUT: true; the input reads as it did. -/
def fnCrcSpec : ChangeSpec := { name := "fnCrc", fn := fun _ => fun
  | [d1, d2] => { results := [.lit (.bool true)], args := [d1, d2] }
  | _ => none }
def fnCrcRow : OpenClaim := { program := "ytncipibjlpfkhaa", sum := "588f60bffc4a071ba42a7bebfde0f099490436af2a03923fde89351a4b036257", func := "loop.example/cadastre/laws.FnCrc", spec := "fnCrc", unfollowed := true, recurses := true, apart := false }
def FnCrcSaid : Prop := fnCrcRow.holds Try.pinned (OpenSpec.ofChange fnCrcSpec)

/-- ITS FALSE NEIGHBOUR: 'it returns false'. Refute it at one input. -/
def fnCrcWrong : ChangeSpec := { name := "fnCrc", fn := fun _ => fun
  | [d1, d2] => { results := [.lit (.bool false)], args := [d1, d2] }
  | _ => none }
def FnCrcWrongFalsely : Prop := fnCrcRow.holds Try.pinned (OpenSpec.ofChange fnCrcWrong)

/-- 'laws.FnExactWorldNew': WHATEVER THE INPUT: true; the input reads as it did. -/
def fnExactWorldNewSpec : ChangeSpec := { name := "fnExactWorldNew", fn := fun _ => fun
  | [] => { results := [.lit (.bool true)], args := [] }
  | _ => none }
def fnExactWorldNewRow : OpenClaim := { program := "ytncipibjlpfkhaa", sum := "588f60bffc4a071ba42a7bebfde0f099490436af2a03923fde89351a4b036257", func := "loop.example/cadastre/laws.FnExactWorldNew", spec := "fnExactWorldNew", apart := false }
def FnExactWorldNewSaid : Prop := fnExactWorldNewRow.holds Try.pinned (OpenSpec.ofChange fnExactWorldNewSpec)

/-- ITS FALSE NEIGHBOUR: 'it returns false'. Refute it at one input. -/
def fnExactWorldNewWrong : ChangeSpec := { name := "fnExactWorldNew", fn := fun _ => fun
  | [] => { results := [.lit (.bool false)], args := [] }
  | _ => none }
def FnExactWorldNewWrongFalsely : Prop := fnExactWorldNewRow.holds Try.pinned (OpenSpec.ofChange fnExactWorldNewWrong)

/-- 'laws.FnExactNoteOk': WHATEVER THE INPUT: true; the input reads as it did. -/
def fnExactNoteOkSpec : ChangeSpec := { name := "fnExactNoteOk", fn := fun _ => fun
  | [d] => { results := [.lit (.bool true)], args := [d] }
  | _ => none }
def fnExactNoteOkRow : OpenClaim := { program := "ytncipibjlpfkhaa", sum := "588f60bffc4a071ba42a7bebfde0f099490436af2a03923fde89351a4b036257", func := "loop.example/cadastre/laws.FnExactNoteOk", spec := "fnExactNoteOk", unfollowed := true, recurses := true, apart := false }
def FnExactNoteOkSaid : Prop := fnExactNoteOkRow.holds Try.pinned (OpenSpec.ofChange fnExactNoteOkSpec)

/-- ITS FALSE NEIGHBOUR: 'it returns false'. Refute it at one input. -/
def fnExactNoteOkWrong : ChangeSpec := { name := "fnExactNoteOk", fn := fun _ => fun
  | [d] => { results := [.lit (.bool false)], args := [d] }
  | _ => none }
def FnExactNoteOkWrongFalsely : Prop := fnExactNoteOkRow.holds Try.pinned (OpenSpec.ofChange fnExactNoteOkWrong)

/-- 'laws.FnExactHistOk': WHATEVER THE INPUT: true; the input reads as it did. -/
def fnExactHistOkSpec : ChangeSpec := { name := "fnExactHistOk", fn := fun _ => fun
  | [d] => { results := [.lit (.bool true)], args := [d] }
  | _ => none }
def fnExactHistOkRow : OpenClaim := { program := "ytncipibjlpfkhaa", sum := "588f60bffc4a071ba42a7bebfde0f099490436af2a03923fde89351a4b036257", func := "loop.example/cadastre/laws.FnExactHistOk", spec := "fnExactHistOk", unfollowed := true, recurses := true, apart := false }
def FnExactHistOkSaid : Prop := fnExactHistOkRow.holds Try.pinned (OpenSpec.ofChange fnExactHistOkSpec)

/-- ITS FALSE NEIGHBOUR: 'it returns false'. Refute it at one input. -/
def fnExactHistOkWrong : ChangeSpec := { name := "fnExactHistOk", fn := fun _ => fun
  | [d] => { results := [.lit (.bool false)], args := [d] }
  | _ => none }
def FnExactHistOkWrongFalsely : Prop := fnExactHistOkRow.holds Try.pinned (OpenSpec.ofChange fnExactHistOkWrong)

/-- 'laws.FnExactPmapSplit': WHATEVER THE INPUT: true; the input reads as it did. -/
def fnExactPmapSplitSpec : ChangeSpec := { name := "fnExactPmapSplit", fn := fun _ => fun
  | [d1, d2, d3] => { results := [.lit (.bool true)], args := [d1, d2, d3] }
  | _ => none }
def fnExactPmapSplitRow : OpenClaim := { program := "ytncipibjlpfkhaa", sum := "588f60bffc4a071ba42a7bebfde0f099490436af2a03923fde89351a4b036257", func := "loop.example/cadastre/laws.FnExactPmapSplit", spec := "fnExactPmapSplit", unfollowed := true, recurses := true, apart := false }
def FnExactPmapSplitSaid : Prop := fnExactPmapSplitRow.holds Try.pinned (OpenSpec.ofChange fnExactPmapSplitSpec)

/-- ITS FALSE NEIGHBOUR: 'it returns false'. Refute it at one input. -/
def fnExactPmapSplitWrong : ChangeSpec := { name := "fnExactPmapSplit", fn := fun _ => fun
  | [d1, d2, d3] => { results := [.lit (.bool false)], args := [d1, d2, d3] }
  | _ => none }
def FnExactPmapSplitWrongFalsely : Prop := fnExactPmapSplitRow.holds Try.pinned (OpenSpec.ofChange fnExactPmapSplitWrong)

/-- 'laws.FnExactTxnKeys': WHATEVER THE INPUT: true; the input reads as it did. -/
def fnExactTxnKeysSpec : ChangeSpec := { name := "fnExactTxnKeys", fn := fun _ => fun
  | [d] => { results := [.lit (.bool true)], args := [d] }
  | _ => none }
def fnExactTxnKeysRow : OpenClaim := { program := "ytncipibjlpfkhaa", sum := "588f60bffc4a071ba42a7bebfde0f099490436af2a03923fde89351a4b036257", func := "loop.example/cadastre/laws.FnExactTxnKeys", spec := "fnExactTxnKeys", unfollowed := true, recurses := true, apart := false }
def FnExactTxnKeysSaid : Prop := fnExactTxnKeysRow.holds Try.pinned (OpenSpec.ofChange fnExactTxnKeysSpec)

/-- ITS FALSE NEIGHBOUR: 'it returns false'. Refute it at one input. -/
def fnExactTxnKeysWrong : ChangeSpec := { name := "fnExactTxnKeys", fn := fun _ => fun
  | [d] => { results := [.lit (.bool false)], args := [d] }
  | _ => none }
def FnExactTxnKeysWrongFalsely : Prop := fnExactTxnKeysRow.holds Try.pinned (OpenSpec.ofChange fnExactTxnKeysWrong)

/-- 'laws.FnExactTxnCut': WHATEVER THE INPUT: true; the input reads as it did. -/
def fnExactTxnCutSpec : ChangeSpec := { name := "fnExactTxnCut", fn := fun _ => fun
  | [d1, d2] => { results := [.lit (.bool true)], args := [d1, d2] }
  | _ => none }
def fnExactTxnCutRow : OpenClaim := { program := "ytncipibjlpfkhaa", sum := "588f60bffc4a071ba42a7bebfde0f099490436af2a03923fde89351a4b036257", func := "loop.example/cadastre/laws.FnExactTxnCut", spec := "fnExactTxnCut", unfollowed := true, recurses := true, apart := false }
def FnExactTxnCutSaid : Prop := fnExactTxnCutRow.holds Try.pinned (OpenSpec.ofChange fnExactTxnCutSpec)

/-- ITS FALSE NEIGHBOUR: 'it returns false'. Refute it at one input. -/
def fnExactTxnCutWrong : ChangeSpec := { name := "fnExactTxnCut", fn := fun _ => fun
  | [d1, d2] => { results := [.lit (.bool false)], args := [d1, d2] }
  | _ => none }
def FnExactTxnCutWrongFalsely : Prop := fnExactTxnCutRow.holds Try.pinned (OpenSpec.ofChange fnExactTxnCutWrong)

/-- 'laws.FnTxnCut': WHATEVER THE INPUT: true; the input reads as it did. -/
def fnTxnCutSpec : ChangeSpec := { name := "fnTxnCut", fn := fun _ => fun
  | [d1, d2] => { results := [.lit (.bool true)], args := [d1, d2] }
  | _ => none }
def fnTxnCutRow : OpenClaim := { program := "ytncipibjlpfkhaa", sum := "588f60bffc4a071ba42a7bebfde0f099490436af2a03923fde89351a4b036257", func := "loop.example/cadastre/laws.FnTxnCut", spec := "fnTxnCut", unfollowed := true, recurses := true, apart := false }
def FnTxnCutSaid : Prop := fnTxnCutRow.holds Try.pinned (OpenSpec.ofChange fnTxnCutSpec)

/-- ITS FALSE NEIGHBOUR: 'it returns false'. Refute it at one input. -/
def fnTxnCutWrong : ChangeSpec := { name := "fnTxnCut", fn := fun _ => fun
  | [d1, d2] => { results := [.lit (.bool false)], args := [d1, d2] }
  | _ => none }
def FnTxnCutWrongFalsely : Prop := fnTxnCutRow.holds Try.pinned (OpenSpec.ofChange fnTxnCutWrong)

/-- 'laws.FnTxnKeys': WHATEVER THE INPUT: true; the input reads as it did. -/
def fnTxnKeysSpec : ChangeSpec := { name := "fnTxnKeys", fn := fun _ => fun
  | [d] => { results := [.lit (.bool true)], args := [d] }
  | _ => none }
def fnTxnKeysRow : OpenClaim := { program := "ytncipibjlpfkhaa", sum := "588f60bffc4a071ba42a7bebfde0f099490436af2a03923fde89351a4b036257", func := "loop.example/cadastre/laws.FnTxnKeys", spec := "fnTxnKeys", unfollowed := true, recurses := true, apart := false }
def FnTxnKeysSaid : Prop := fnTxnKeysRow.holds Try.pinned (OpenSpec.ofChange fnTxnKeysSpec)

/-- ITS FALSE NEIGHBOUR: 'it returns false'. Refute it at one input. -/
def fnTxnKeysWrong : ChangeSpec := { name := "fnTxnKeys", fn := fun _ => fun
  | [d] => { results := [.lit (.bool false)], args := [d] }
  | _ => none }
def FnTxnKeysWrongFalsely : Prop := fnTxnKeysRow.holds Try.pinned (OpenSpec.ofChange fnTxnKeysWrong)

/-- 'laws.FnPmapSpan': WHATEVER THE INPUT: true; the input reads as it did. -/
def fnPmapSpanSpec : ChangeSpec := { name := "fnPmapSpan", fn := fun _ => fun
  | [d] => { results := [.lit (.bool true)], args := [d] }
  | _ => none }
def fnPmapSpanRow : OpenClaim := { program := "ytncipibjlpfkhaa", sum := "588f60bffc4a071ba42a7bebfde0f099490436af2a03923fde89351a4b036257", func := "loop.example/cadastre/laws.FnPmapSpan", spec := "fnPmapSpan", unfollowed := true, recurses := true, apart := false }
def FnPmapSpanSaid : Prop := fnPmapSpanRow.holds Try.pinned (OpenSpec.ofChange fnPmapSpanSpec)

/-- ITS FALSE NEIGHBOUR: 'it returns false'. Refute it at one input. -/
def fnPmapSpanWrong : ChangeSpec := { name := "fnPmapSpan", fn := fun _ => fun
  | [d] => { results := [.lit (.bool false)], args := [d] }
  | _ => none }
def FnPmapSpanWrongFalsely : Prop := fnPmapSpanRow.holds Try.pinned (OpenSpec.ofChange fnPmapSpanWrong)

/- THE SECOND FORM. 'bulk': how many values and letters a reading holds, each counted each time it is reached (what is shared counts as often as it is met; a slice's spare places count too). A statement '..UptoSaid' is the law's where the arguments, and the package variables that the reading takes, are together of bulk at most 1048576: NARROWER than '..Said'. Prove '..Said' where nothing that the law and all that it calls make is longer than what came in: it says more and counts as full. Else prove '..UptoSaid'. A law counts once. -/
mutual
def uptoBulk {H : Type} : DataW H → Nat
  | .lit (.string bytes) => bytes.length + 1
  | .lit _ => 1
  | .nil => 1
  | .ptr d => uptoBulk d + 1
  | .slice elems spare => uptoBulkAll elems + uptoBulkAll spare + 1
  | .agg parts => uptoBulkAll parts + 1
  | .iface _ d => uptoBulk d + 1
  | .map entries => uptoBulkEntries entries + 1
  | .held _ => 1
def uptoBulkAll {H : Type} : List (DataW H) → Nat
  | [] => 0
  | d :: r => uptoBulk d + uptoBulkAll r
def uptoBulkEntries {H : Type} : List (Lit × DataW H) → Nat
  | [] => 0
  | x :: r => uptoBulkEntry x + uptoBulkEntries r
def uptoBulkEntry {H : Type} : Lit × DataW H → Nat
  | (.string bytes, d) => bytes.length + uptoBulk d + 1
  | (_, d) => uptoBulk d + 1
 end
def uptoSmall : (H : Type) → List (DataW H) → Bool := fun _ ds => decide (uptoBulkAll ds ≤ 1048576)
def OpenSpec.upto (s : _root_.Go.ChangeSpec) : _root_.Go.OpenSpec := { _root_.Go.OpenSpec.ofChange s with cond := some uptoSmall }

/-- 'laws.FnExactCrc', WHERE WHAT IT READS IS OF BULK AT MOST 1048576: true; the input reads as it did. -/
def fnExactCrcUptoRow : OpenClaim := { program := "ytncipibjlpfkhaa", sum := "588f60bffc4a071ba42a7bebfde0f099490436af2a03923fde89351a4b036257", func := "loop.example/cadastre/laws.FnExactCrc", spec := "fnExactCrc", unfollowed := true, recurses := true, apart := false, narrowed := true }
def FnExactCrcUptoSaid : Prop := fnExactCrcUptoRow.holds Try.pinned (OpenSpec.upto fnExactCrcSpec)

/-- 'laws.FnCrc', WHERE WHAT IT READS IS OF BULK AT MOST 1048576: true; the input reads as it did. -/
def fnCrcUptoRow : OpenClaim := { program := "ytncipibjlpfkhaa", sum := "588f60bffc4a071ba42a7bebfde0f099490436af2a03923fde89351a4b036257", func := "loop.example/cadastre/laws.FnCrc", spec := "fnCrc", unfollowed := true, recurses := true, apart := false, narrowed := true }
def FnCrcUptoSaid : Prop := fnCrcUptoRow.holds Try.pinned (OpenSpec.upto fnCrcSpec)

/-- 'laws.FnExactWorldNew', WHERE WHAT IT READS IS OF BULK AT MOST 1048576: true; the input reads as it did. -/
def fnExactWorldNewUptoRow : OpenClaim := { program := "ytncipibjlpfkhaa", sum := "588f60bffc4a071ba42a7bebfde0f099490436af2a03923fde89351a4b036257", func := "loop.example/cadastre/laws.FnExactWorldNew", spec := "fnExactWorldNew", apart := false, narrowed := true }
def FnExactWorldNewUptoSaid : Prop := fnExactWorldNewUptoRow.holds Try.pinned (OpenSpec.upto fnExactWorldNewSpec)

/-- 'laws.FnExactNoteOk', WHERE WHAT IT READS IS OF BULK AT MOST 1048576: true; the input reads as it did. -/
def fnExactNoteOkUptoRow : OpenClaim := { program := "ytncipibjlpfkhaa", sum := "588f60bffc4a071ba42a7bebfde0f099490436af2a03923fde89351a4b036257", func := "loop.example/cadastre/laws.FnExactNoteOk", spec := "fnExactNoteOk", unfollowed := true, recurses := true, apart := false, narrowed := true }
def FnExactNoteOkUptoSaid : Prop := fnExactNoteOkUptoRow.holds Try.pinned (OpenSpec.upto fnExactNoteOkSpec)

/-- 'laws.FnExactHistOk', WHERE WHAT IT READS IS OF BULK AT MOST 1048576: true; the input reads as it did. -/
def fnExactHistOkUptoRow : OpenClaim := { program := "ytncipibjlpfkhaa", sum := "588f60bffc4a071ba42a7bebfde0f099490436af2a03923fde89351a4b036257", func := "loop.example/cadastre/laws.FnExactHistOk", spec := "fnExactHistOk", unfollowed := true, recurses := true, apart := false, narrowed := true }
def FnExactHistOkUptoSaid : Prop := fnExactHistOkUptoRow.holds Try.pinned (OpenSpec.upto fnExactHistOkSpec)

/-- 'laws.FnExactPmapSplit', WHERE WHAT IT READS IS OF BULK AT MOST 1048576: true; the input reads as it did. -/
def fnExactPmapSplitUptoRow : OpenClaim := { program := "ytncipibjlpfkhaa", sum := "588f60bffc4a071ba42a7bebfde0f099490436af2a03923fde89351a4b036257", func := "loop.example/cadastre/laws.FnExactPmapSplit", spec := "fnExactPmapSplit", unfollowed := true, recurses := true, apart := false, narrowed := true }
def FnExactPmapSplitUptoSaid : Prop := fnExactPmapSplitUptoRow.holds Try.pinned (OpenSpec.upto fnExactPmapSplitSpec)

/-- 'laws.FnExactTxnKeys', WHERE WHAT IT READS IS OF BULK AT MOST 1048576: true; the input reads as it did. -/
def fnExactTxnKeysUptoRow : OpenClaim := { program := "ytncipibjlpfkhaa", sum := "588f60bffc4a071ba42a7bebfde0f099490436af2a03923fde89351a4b036257", func := "loop.example/cadastre/laws.FnExactTxnKeys", spec := "fnExactTxnKeys", unfollowed := true, recurses := true, apart := false, narrowed := true }
def FnExactTxnKeysUptoSaid : Prop := fnExactTxnKeysUptoRow.holds Try.pinned (OpenSpec.upto fnExactTxnKeysSpec)

/-- 'laws.FnExactTxnCut', WHERE WHAT IT READS IS OF BULK AT MOST 1048576: true; the input reads as it did. -/
def fnExactTxnCutUptoRow : OpenClaim := { program := "ytncipibjlpfkhaa", sum := "588f60bffc4a071ba42a7bebfde0f099490436af2a03923fde89351a4b036257", func := "loop.example/cadastre/laws.FnExactTxnCut", spec := "fnExactTxnCut", unfollowed := true, recurses := true, apart := false, narrowed := true }
def FnExactTxnCutUptoSaid : Prop := fnExactTxnCutUptoRow.holds Try.pinned (OpenSpec.upto fnExactTxnCutSpec)

/-- 'laws.FnTxnCut', WHERE WHAT IT READS IS OF BULK AT MOST 1048576: true; the input reads as it did. -/
def fnTxnCutUptoRow : OpenClaim := { program := "ytncipibjlpfkhaa", sum := "588f60bffc4a071ba42a7bebfde0f099490436af2a03923fde89351a4b036257", func := "loop.example/cadastre/laws.FnTxnCut", spec := "fnTxnCut", unfollowed := true, recurses := true, apart := false, narrowed := true }
def FnTxnCutUptoSaid : Prop := fnTxnCutUptoRow.holds Try.pinned (OpenSpec.upto fnTxnCutSpec)

/-- 'laws.FnTxnKeys', WHERE WHAT IT READS IS OF BULK AT MOST 1048576: true; the input reads as it did. -/
def fnTxnKeysUptoRow : OpenClaim := { program := "ytncipibjlpfkhaa", sum := "588f60bffc4a071ba42a7bebfde0f099490436af2a03923fde89351a4b036257", func := "loop.example/cadastre/laws.FnTxnKeys", spec := "fnTxnKeys", unfollowed := true, recurses := true, apart := false, narrowed := true }
def FnTxnKeysUptoSaid : Prop := fnTxnKeysUptoRow.holds Try.pinned (OpenSpec.upto fnTxnKeysSpec)

/-- 'laws.FnPmapSpan', WHERE WHAT IT READS IS OF BULK AT MOST 1048576: true; the input reads as it did. -/
def fnPmapSpanUptoRow : OpenClaim := { program := "ytncipibjlpfkhaa", sum := "588f60bffc4a071ba42a7bebfde0f099490436af2a03923fde89351a4b036257", func := "loop.example/cadastre/laws.FnPmapSpan", spec := "fnPmapSpan", unfollowed := true, recurses := true, apart := false, narrowed := true }
def FnPmapSpanUptoSaid : Prop := fnPmapSpanUptoRow.holds Try.pinned (OpenSpec.upto fnPmapSpanSpec)

end Rows
end Go.Proofs.Ytncipibjlpfkhaa
