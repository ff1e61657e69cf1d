/-
  No cell of these rows narrows 'for every input' (looked for: loops, veiled, ifaces, maps, wideKeys, modest, calm, conditions, laid).
  DERIVED. THE GIVEN ROWS OF THIS SEAT. 11 by the template 'for every input the law returns true; each argument reads behind the call as it read before'; 0 by the template 'total and deterministic' (their statements: YtandapnogpocmaaTotals.lean).
  GIVEN WITH THE SEED: the statements are not yours to turn. If you find one false, say at which input.
  Laid BY PROGRAM, IN A SANDBOX (cutbox-rows.mjs): the forced cells as the released guide's own fill.sh prints them over the translation d3c5f50bdb1db936… (all of the seat's roots in one cut). By AI agents, Wed Nov 11 2026. No macro, syntax, notation, axiom, sorry.
-/
import Derived.Test.YtandapnogpocmaaChecked
import GoSem.Claim
import GoSem.ClaimJoined
import GoSem.ClaimMapViews
import Derived.JoinedTies
import Derived.KernelRfl
namespace Go.Proofs.Ytandapnogpocmaa
/- THE CELL 'sum', in the pinned program and in every row, IS THE sha256 OF THE DUMP (.gsa) THAT YtandapnogpocmaaProg.lean LOADS. Nothing in Lean hashes anything: it is a label: what it is worth is what the hold of that sum in a sandbox is worth. -/
noncomputable def Try.pinned : Pinned := { name := "ytandapnogpocmaa", sum := "d3c5f50bdb1db93601193999238f4f783fd0dc78babc6666a9fea9bc21482a51", checked := Try.checked }
namespace Rows
def none {H : Type} : Left H := { results := [], args := [] }

/-- 'laws.FnSpanHas': WHATEVER THE INPUT: true; the input reads as it did. -/
def fnSpanHasSpec : ChangeSpec := { name := "fnSpanHas", fn := fun _ => fun
  | [d1, d2] => { results := [.lit (.bool true)], args := [d1, d2] }
  | _ => none }
def fnSpanHasRow : OpenClaim := { program := "ytandapnogpocmaa", sum := "d3c5f50bdb1db93601193999238f4f783fd0dc78babc6666a9fea9bc21482a51", func := "loop.example/cadastre/laws.FnSpanHas", spec := "fnSpanHas", unfollowed := true, recurses := true, apart := false }
def FnSpanHasSaid : Prop := fnSpanHasRow.holds Try.pinned (OpenSpec.ofChange fnSpanHasSpec)

/-- ITS FALSE NEIGHBOUR: 'it returns false'. Refute it at one input. -/
def fnSpanHasWrong : ChangeSpec := { name := "fnSpanHas", fn := fun _ => fun
  | [d1, d2] => { results := [.lit (.bool false)], args := [d1, d2] }
  | _ => none }
def FnSpanHasWrongFalsely : Prop := fnSpanHasRow.holds Try.pinned (OpenSpec.ofChange fnSpanHasWrong)

/-- 'laws.FnSpanCut': WHATEVER THE INPUT: true; the input reads as it did. -/
def fnSpanCutSpec : ChangeSpec := { name := "fnSpanCut", fn := fun _ => fun
  | [d] => { results := [.lit (.bool true)], args := [d] }
  | _ => none }
def fnSpanCutRow : OpenClaim := { program := "ytandapnogpocmaa", sum := "d3c5f50bdb1db93601193999238f4f783fd0dc78babc6666a9fea9bc21482a51", func := "loop.example/cadastre/laws.FnSpanCut", spec := "fnSpanCut", unfollowed := true, recurses := true, apart := false }
def FnSpanCutSaid : Prop := fnSpanCutRow.holds Try.pinned (OpenSpec.ofChange fnSpanCutSpec)

/-- ITS FALSE NEIGHBOUR: 'it returns false'. Refute it at one input. -/
def fnSpanCutWrong : ChangeSpec := { name := "fnSpanCut", fn := fun _ => fun
  | [d] => { results := [.lit (.bool false)], args := [d] }
  | _ => none }
def FnSpanCutWrongFalsely : Prop := fnSpanCutRow.holds Try.pinned (OpenSpec.ofChange fnSpanCutWrong)

/-- 'laws.FnSpanJoin': WHATEVER THE INPUT: true; the input reads as it did. -/
def fnSpanJoinSpec : ChangeSpec := { name := "fnSpanJoin", fn := fun _ => fun
  | [d] => { results := [.lit (.bool true)], args := [d] }
  | _ => none }
def fnSpanJoinRow : OpenClaim := { program := "ytandapnogpocmaa", sum := "d3c5f50bdb1db93601193999238f4f783fd0dc78babc6666a9fea9bc21482a51", func := "loop.example/cadastre/laws.FnSpanJoin", spec := "fnSpanJoin", unfollowed := true, recurses := true, apart := false }
def FnSpanJoinSaid : Prop := fnSpanJoinRow.holds Try.pinned (OpenSpec.ofChange fnSpanJoinSpec)

/-- ITS FALSE NEIGHBOUR: 'it returns false'. Refute it at one input. -/
def fnSpanJoinWrong : ChangeSpec := { name := "fnSpanJoin", fn := fun _ => fun
  | [d] => { results := [.lit (.bool false)], args := [d] }
  | _ => none }
def FnSpanJoinWrongFalsely : Prop := fnSpanJoinRow.holds Try.pinned (OpenSpec.ofChange fnSpanJoinWrong)

/-- 'laws.FnSpanMeet': WHATEVER THE INPUT: true; the input reads as it did. -/
def fnSpanMeetSpec : ChangeSpec := { name := "fnSpanMeet", fn := fun _ => fun
  | [d1, d2] => { results := [.lit (.bool true)], args := [d1, d2] }
  | _ => none }
def fnSpanMeetRow : OpenClaim := { program := "ytandapnogpocmaa", sum := "d3c5f50bdb1db93601193999238f4f783fd0dc78babc6666a9fea9bc21482a51", func := "loop.example/cadastre/laws.FnSpanMeet", spec := "fnSpanMeet", unfollowed := true, recurses := true, apart := false }
def FnSpanMeetSaid : Prop := fnSpanMeetRow.holds Try.pinned (OpenSpec.ofChange fnSpanMeetSpec)

/-- ITS FALSE NEIGHBOUR: 'it returns false'. Refute it at one input. -/
def fnSpanMeetWrong : ChangeSpec := { name := "fnSpanMeet", fn := fun _ => fun
  | [d1, d2] => { results := [.lit (.bool false)], args := [d1, d2] }
  | _ => none }
def FnSpanMeetWrongFalsely : Prop := fnSpanMeetRow.holds Try.pinned (OpenSpec.ofChange fnSpanMeetWrong)

/-- 'laws.FnExactKeyOk': WHATEVER THE INPUT: true; the input reads as it did. -/
def fnExactKeyOkSpec : ChangeSpec := { name := "fnExactKeyOk", fn := fun _ => fun
  | [d] => { results := [.lit (.bool true)], args := [d] }
  | _ => none }
def fnExactKeyOkRow : OpenClaim := { program := "ytandapnogpocmaa", sum := "d3c5f50bdb1db93601193999238f4f783fd0dc78babc6666a9fea9bc21482a51", func := "loop.example/cadastre/laws.FnExactKeyOk", spec := "fnExactKeyOk", unfollowed := true, recurses := true, apart := false }
def FnExactKeyOkSaid : Prop := fnExactKeyOkRow.holds Try.pinned (OpenSpec.ofChange fnExactKeyOkSpec)

/-- ITS FALSE NEIGHBOUR: 'it returns false'. Refute it at one input. -/
def fnExactKeyOkWrong : ChangeSpec := { name := "fnExactKeyOk", fn := fun _ => fun
  | [d] => { results := [.lit (.bool false)], args := [d] }
  | _ => none }
def FnExactKeyOkWrongFalsely : Prop := fnExactKeyOkRow.holds Try.pinned (OpenSpec.ofChange fnExactKeyOkWrong)

/-- 'laws.FnExactTextOk': WHATEVER THE INPUT: true; the input reads as it did. -/
def fnExactTextOkSpec : ChangeSpec := { name := "fnExactTextOk", fn := fun _ => fun
  | [d] => { results := [.lit (.bool true)], args := [d] }
  | _ => none }
def fnExactTextOkRow : OpenClaim := { program := "ytandapnogpocmaa", sum := "d3c5f50bdb1db93601193999238f4f783fd0dc78babc6666a9fea9bc21482a51", func := "loop.example/cadastre/laws.FnExactTextOk", spec := "fnExactTextOk", unfollowed := true, recurses := true, apart := false }
def FnExactTextOkSaid : Prop := fnExactTextOkRow.holds Try.pinned (OpenSpec.ofChange fnExactTextOkSpec)

/-- ITS FALSE NEIGHBOUR: 'it returns false'. Refute it at one input. -/
def fnExactTextOkWrong : ChangeSpec := { name := "fnExactTextOk", fn := fun _ => fun
  | [d] => { results := [.lit (.bool false)], args := [d] }
  | _ => none }
def FnExactTextOkWrongFalsely : Prop := fnExactTextOkRow.holds Try.pinned (OpenSpec.ofChange fnExactTextOkWrong)

/-- 'laws.FnExactSpanOk': WHATEVER THE INPUT: true; the input reads as it did. -/
def fnExactSpanOkSpec : ChangeSpec := { name := "fnExactSpanOk", fn := fun _ => fun
  | [d] => { results := [.lit (.bool true)], args := [d] }
  | _ => none }
def fnExactSpanOkRow : OpenClaim := { program := "ytandapnogpocmaa", sum := "d3c5f50bdb1db93601193999238f4f783fd0dc78babc6666a9fea9bc21482a51", func := "loop.example/cadastre/laws.FnExactSpanOk", spec := "fnExactSpanOk", unfollowed := true, recurses := true, apart := false }
def FnExactSpanOkSaid : Prop := fnExactSpanOkRow.holds Try.pinned (OpenSpec.ofChange fnExactSpanOkSpec)

/-- ITS FALSE NEIGHBOUR: 'it returns false'. Refute it at one input. -/
def fnExactSpanOkWrong : ChangeSpec := { name := "fnExactSpanOk", fn := fun _ => fun
  | [d] => { results := [.lit (.bool false)], args := [d] }
  | _ => none }
def FnExactSpanOkWrongFalsely : Prop := fnExactSpanOkRow.holds Try.pinned (OpenSpec.ofChange fnExactSpanOkWrong)

/-- 'laws.FnExactSpanHas': WHATEVER THE INPUT: true; the input reads as it did. -/
def fnExactSpanHasSpec : ChangeSpec := { name := "fnExactSpanHas", fn := fun _ => fun
  | [d1, d2] => { results := [.lit (.bool true)], args := [d1, d2] }
  | _ => none }
def fnExactSpanHasRow : OpenClaim := { program := "ytandapnogpocmaa", sum := "d3c5f50bdb1db93601193999238f4f783fd0dc78babc6666a9fea9bc21482a51", func := "loop.example/cadastre/laws.FnExactSpanHas", spec := "fnExactSpanHas", unfollowed := true, recurses := true, apart := false }
def FnExactSpanHasSaid : Prop := fnExactSpanHasRow.holds Try.pinned (OpenSpec.ofChange fnExactSpanHasSpec)

/-- ITS FALSE NEIGHBOUR: 'it returns false'. Refute it at one input. -/
def fnExactSpanHasWrong : ChangeSpec := { name := "fnExactSpanHas", fn := fun _ => fun
  | [d1, d2] => { results := [.lit (.bool false)], args := [d1, d2] }
  | _ => none }
def FnExactSpanHasWrongFalsely : Prop := fnExactSpanHasRow.holds Try.pinned (OpenSpec.ofChange fnExactSpanHasWrong)

/-- 'laws.FnExactSpanCut': WHATEVER THE INPUT: true; the input reads as it did. -/
def fnExactSpanCutSpec : ChangeSpec := { name := "fnExactSpanCut", fn := fun _ => fun
  | [d1, d2] => { results := [.lit (.bool true)], args := [d1, d2] }
  | _ => none }
def fnExactSpanCutRow : OpenClaim := { program := "ytandapnogpocmaa", sum := "d3c5f50bdb1db93601193999238f4f783fd0dc78babc6666a9fea9bc21482a51", func := "loop.example/cadastre/laws.FnExactSpanCut", spec := "fnExactSpanCut", unfollowed := true, recurses := true, apart := false }
def FnExactSpanCutSaid : Prop := fnExactSpanCutRow.holds Try.pinned (OpenSpec.ofChange fnExactSpanCutSpec)

/-- ITS FALSE NEIGHBOUR: 'it returns false'. Refute it at one input. -/
def fnExactSpanCutWrong : ChangeSpec := { name := "fnExactSpanCut", fn := fun _ => fun
  | [d1, d2] => { results := [.lit (.bool false)], args := [d1, d2] }
  | _ => none }
def FnExactSpanCutWrongFalsely : Prop := fnExactSpanCutRow.holds Try.pinned (OpenSpec.ofChange fnExactSpanCutWrong)

/-- 'laws.FnExactSpanJoin': WHATEVER THE INPUT: true; the input reads as it did. -/
def fnExactSpanJoinSpec : ChangeSpec := { name := "fnExactSpanJoin", fn := fun _ => fun
  | [d1, d2] => { results := [.lit (.bool true)], args := [d1, d2] }
  | _ => none }
def fnExactSpanJoinRow : OpenClaim := { program := "ytandapnogpocmaa", sum := "d3c5f50bdb1db93601193999238f4f783fd0dc78babc6666a9fea9bc21482a51", func := "loop.example/cadastre/laws.FnExactSpanJoin", spec := "fnExactSpanJoin", unfollowed := true, recurses := true, apart := false }
def FnExactSpanJoinSaid : Prop := fnExactSpanJoinRow.holds Try.pinned (OpenSpec.ofChange fnExactSpanJoinSpec)

/-- ITS FALSE NEIGHBOUR: 'it returns false'. Refute it at one input. -/
def fnExactSpanJoinWrong : ChangeSpec := { name := "fnExactSpanJoin", fn := fun _ => fun
  | [d1, d2] => { results := [.lit (.bool false)], args := [d1, d2] }
  | _ => none }
def FnExactSpanJoinWrongFalsely : Prop := fnExactSpanJoinRow.holds Try.pinned (OpenSpec.ofChange fnExactSpanJoinWrong)

/-- 'laws.FnExactSpanMeet': WHATEVER THE INPUT: true; the input reads as it did. -/
def fnExactSpanMeetSpec : ChangeSpec := { name := "fnExactSpanMeet", fn := fun _ => fun
  | [d1, d2] => { results := [.lit (.bool true)], args := [d1, d2] }
  | _ => none }
def fnExactSpanMeetRow : OpenClaim := { program := "ytandapnogpocmaa", sum := "d3c5f50bdb1db93601193999238f4f783fd0dc78babc6666a9fea9bc21482a51", func := "loop.example/cadastre/laws.FnExactSpanMeet", spec := "fnExactSpanMeet", unfollowed := true, recurses := true, apart := false }
def FnExactSpanMeetSaid : Prop := fnExactSpanMeetRow.holds Try.pinned (OpenSpec.ofChange fnExactSpanMeetSpec)

/-- ITS FALSE NEIGHBOUR: 'it returns false'. Refute it at one input. -/
def fnExactSpanMeetWrong : ChangeSpec := { name := "fnExactSpanMeet", fn := fun _ => fun
  | [d1, d2] => { results := [.lit (.bool false)], args := [d1, d2] }
  | _ => none }
def FnExactSpanMeetWrongFalsely : Prop := fnExactSpanMeetRow.holds Try.pinned (OpenSpec.ofChange fnExactSpanMeetWrong)

/- THE SECOND FORM. 'bulk': how many values and letters a reading holds, each counted each time it is reached (what is shared counts as often as it is met; a slice's spare places count too). A statement '..UptoSaid' is the law's where the arguments, and the package variables that the reading takes, are together of bulk at most 1048576: NARROWER than '..Said'. Prove '..Said' where nothing that the law and all that it calls make is longer than what came in: it says more and counts as full. Else prove '..UptoSaid'. A law counts once. -/
mutual
def uptoBulk {H : Type} : DataW H → Nat
  | .lit (.string bytes) => bytes.length + 1
  | .lit _ => 1
  | .nil => 1
  | .ptr d => uptoBulk d + 1
  | .slice elems spare => uptoBulkAll elems + uptoBulkAll spare + 1
  | .agg parts => uptoBulkAll parts + 1
  | .iface _ d => uptoBulk d + 1
  | .map entries => uptoBulkEntries entries + 1
  | .held _ => 1
def uptoBulkAll {H : Type} : List (DataW H) → Nat
  | [] => 0
  | d :: r => uptoBulk d + uptoBulkAll r
def uptoBulkEntries {H : Type} : List (Lit × DataW H) → Nat
  | [] => 0
  | x :: r => uptoBulkEntry x + uptoBulkEntries r
def uptoBulkEntry {H : Type} : Lit × DataW H → Nat
  | (.string bytes, d) => bytes.length + uptoBulk d + 1
  | (_, d) => uptoBulk d + 1
 end
def uptoSmall : (H : Type) → List (DataW H) → Bool := fun _ ds => decide (uptoBulkAll ds ≤ 1048576)
def OpenSpec.upto (s : _root_.Go.ChangeSpec) : _root_.Go.OpenSpec := { _root_.Go.OpenSpec.ofChange s with cond := some uptoSmall }

/-- 'laws.FnSpanHas', WHERE WHAT IT READS IS OF BULK AT MOST 1048576: true; the input reads as it did. -/
def fnSpanHasUptoRow : OpenClaim := { program := "ytandapnogpocmaa", sum := "d3c5f50bdb1db93601193999238f4f783fd0dc78babc6666a9fea9bc21482a51", func := "loop.example/cadastre/laws.FnSpanHas", spec := "fnSpanHas", unfollowed := true, recurses := true, apart := false, narrowed := true }
def FnSpanHasUptoSaid : Prop := fnSpanHasUptoRow.holds Try.pinned (OpenSpec.upto fnSpanHasSpec)

/-- 'laws.FnSpanCut', WHERE WHAT IT READS IS OF BULK AT MOST 1048576: true; the input reads as it did. -/
def fnSpanCutUptoRow : OpenClaim := { program := "ytandapnogpocmaa", sum := "d3c5f50bdb1db93601193999238f4f783fd0dc78babc6666a9fea9bc21482a51", func := "loop.example/cadastre/laws.FnSpanCut", spec := "fnSpanCut", unfollowed := true, recurses := true, apart := false, narrowed := true }
def FnSpanCutUptoSaid : Prop := fnSpanCutUptoRow.holds Try.pinned (OpenSpec.upto fnSpanCutSpec)

/-- 'laws.FnSpanJoin', WHERE WHAT IT READS IS OF BULK AT MOST 1048576: true; the input reads as it did. -/
def fnSpanJoinUptoRow : OpenClaim := { program := "ytandapnogpocmaa", sum := "d3c5f50bdb1db93601193999238f4f783fd0dc78babc6666a9fea9bc21482a51", func := "loop.example/cadastre/laws.FnSpanJoin", spec := "fnSpanJoin", unfollowed := true, recurses := true, apart := false, narrowed := true }
def FnSpanJoinUptoSaid : Prop := fnSpanJoinUptoRow.holds Try.pinned (OpenSpec.upto fnSpanJoinSpec)

/-- 'laws.FnSpanMeet', WHERE WHAT IT READS IS OF BULK AT MOST 1048576: true; the input reads as it did. -/
def fnSpanMeetUptoRow : OpenClaim := { program := "ytandapnogpocmaa", sum := "d3c5f50bdb1db93601193999238f4f783fd0dc78babc6666a9fea9bc21482a51", func := "loop.example/cadastre/laws.FnSpanMeet", spec := "fnSpanMeet", unfollowed := true, recurses := true, apart := false, narrowed := true }
def FnSpanMeetUptoSaid : Prop := fnSpanMeetUptoRow.holds Try.pinned (OpenSpec.upto fnSpanMeetSpec)

/-- 'laws.FnExactKeyOk', WHERE WHAT IT READS IS OF BULK AT MOST 1048576: true; the input reads as it did. -/
def fnExactKeyOkUptoRow : OpenClaim := { program := "ytandapnogpocmaa", sum := "d3c5f50bdb1db93601193999238f4f783fd0dc78babc6666a9fea9bc21482a51", func := "loop.example/cadastre/laws.FnExactKeyOk", spec := "fnExactKeyOk", unfollowed := true, recurses := true, apart := false, narrowed := true }
def FnExactKeyOkUptoSaid : Prop := fnExactKeyOkUptoRow.holds Try.pinned (OpenSpec.upto fnExactKeyOkSpec)

/-- 'laws.FnExactTextOk', WHERE WHAT IT READS IS OF BULK AT MOST 1048576: true; the input reads as it did. -/
def fnExactTextOkUptoRow : OpenClaim := { program := "ytandapnogpocmaa", sum := "d3c5f50bdb1db93601193999238f4f783fd0dc78babc6666a9fea9bc21482a51", func := "loop.example/cadastre/laws.FnExactTextOk", spec := "fnExactTextOk", unfollowed := true, recurses := true, apart := false, narrowed := true }
def FnExactTextOkUptoSaid : Prop := fnExactTextOkUptoRow.holds Try.pinned (OpenSpec.upto fnExactTextOkSpec)

/-- 'laws.FnExactSpanOk', WHERE WHAT IT READS IS OF BULK AT MOST 1048576: true; the input reads as it did. -/
def fnExactSpanOkUptoRow : OpenClaim := { program := "ytandapnogpocmaa", sum := "d3c5f50bdb1db93601193999238f4f783fd0dc78babc6666a9fea9bc21482a51", func := "loop.example/cadastre/laws.FnExactSpanOk", spec := "fnExactSpanOk", unfollowed := true, recurses := true, apart := false, narrowed := true }
def FnExactSpanOkUptoSaid : Prop := fnExactSpanOkUptoRow.holds Try.pinned (OpenSpec.upto fnExactSpanOkSpec)

/-- 'laws.FnExactSpanHas', WHERE WHAT IT READS IS OF BULK AT MOST 1048576: true; the input reads as it did. -/
def fnExactSpanHasUptoRow : OpenClaim := { program := "ytandapnogpocmaa", sum := "d3c5f50bdb1db93601193999238f4f783fd0dc78babc6666a9fea9bc21482a51", func := "loop.example/cadastre/laws.FnExactSpanHas", spec := "fnExactSpanHas", unfollowed := true, recurses := true, apart := false, narrowed := true }
def FnExactSpanHasUptoSaid : Prop := fnExactSpanHasUptoRow.holds Try.pinned (OpenSpec.upto fnExactSpanHasSpec)

/-- 'laws.FnExactSpanCut', WHERE WHAT IT READS IS OF BULK AT MOST 1048576: true; the input reads as it did. -/
def fnExactSpanCutUptoRow : OpenClaim := { program := "ytandapnogpocmaa", sum := "d3c5f50bdb1db93601193999238f4f783fd0dc78babc6666a9fea9bc21482a51", func := "loop.example/cadastre/laws.FnExactSpanCut", spec := "fnExactSpanCut", unfollowed := true, recurses := true, apart := false, narrowed := true }
def FnExactSpanCutUptoSaid : Prop := fnExactSpanCutUptoRow.holds Try.pinned (OpenSpec.upto fnExactSpanCutSpec)

/-- 'laws.FnExactSpanJoin', WHERE WHAT IT READS IS OF BULK AT MOST 1048576: true; the input reads as it did. -/
def fnExactSpanJoinUptoRow : OpenClaim := { program := "ytandapnogpocmaa", sum := "d3c5f50bdb1db93601193999238f4f783fd0dc78babc6666a9fea9bc21482a51", func := "loop.example/cadastre/laws.FnExactSpanJoin", spec := "fnExactSpanJoin", unfollowed := true, recurses := true, apart := false, narrowed := true }
def FnExactSpanJoinUptoSaid : Prop := fnExactSpanJoinUptoRow.holds Try.pinned (OpenSpec.upto fnExactSpanJoinSpec)

/-- 'laws.FnExactSpanMeet', WHERE WHAT IT READS IS OF BULK AT MOST 1048576: true; the input reads as it did. -/
def fnExactSpanMeetUptoRow : OpenClaim := { program := "ytandapnogpocmaa", sum := "d3c5f50bdb1db93601193999238f4f783fd0dc78babc6666a9fea9bc21482a51", func := "loop.example/cadastre/laws.FnExactSpanMeet", spec := "fnExactSpanMeet", unfollowed := true, recurses := true, apart := false, narrowed := true }
def FnExactSpanMeetUptoSaid : Prop := fnExactSpanMeetUptoRow.holds Try.pinned (OpenSpec.upto fnExactSpanMeetSpec)

end Rows
end Go.Proofs.Ytandapnogpocmaa
