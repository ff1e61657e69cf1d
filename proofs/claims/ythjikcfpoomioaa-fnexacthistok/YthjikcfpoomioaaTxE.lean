/- What a transaction asks and writes: when one of it is ok, as the program and as the model ask it. -/
import Derived.Test.YthjikcfpoomioaaFlWant
import Derived.Test.YthjikcfpoomioaaFlWrite
import Derived.Test.YthjikcfpoomioaaValid
import Derived.Test.YthjikcfpoomioaaPmOk
namespace Go.Proofs.Ythjikcfpoomioaa
open Go.RowKit

def wantOkB (v : WantD) : Bool := keyOkB v.f0 && inB v.f1 0 9999
def writeOkB (v : WriteD) : Bool := keyOkB v.f0 && (okB textB 8 v.f1 && (!v.f2 || v.f1.toList.isEmpty))

theorem verOkB_top (s : ByteArray) (g : Bool) : verOkB 9999 s g = (okB textB 8 s && (!g || s.toList.isEmpty)) := by simp [verOkB, inB]

set_option maxHeartbeats 400000 in
theorem zeroOrId_any (i : Int) (w : World) :
    Calls Try.prog 243 #[.int .i64 i] w fun e w' => e = .returned (.bool (inB i 0 9999)) ∧ w = w' := by
  by_cases h0 : i = 0
  · subst h0
    go_enter Try.func243, Try.ntmps243
    go_wp2_with fail
    go_ret
    exact ⟨rfl, rfl⟩
  · have hz : (i == 0) = false := by simpa using h0
    have hfin : Hid (inB i 0 9999 = inB i 1 9999) := by show _ = _; simp [inB]; rw [Bool.eq_iff_iff]; simp; omega
    clear h0
    go_enter Try.func243, Try.ntmps243
    go_wp2_with (go_at_call 160; refine (idOk_any _ _).mono ?_; rintro e w' ⟨rfl, rfl⟩)
    go_ret
    exact ⟨ret_bool hfin.out.symm, rfl⟩

set_option maxHeartbeats 400000 in
theorem wantValid_any (v : WantD) (w : World) (hs : v.f0.size ≤ maxLen) :
    Calls Try.prog 242 #[.agg #[.string v.f0, .int .i64 v.f1]] w fun e w' => e = .returned (.bool (wantOkB v)) ∧ Below w.heap.size w w' := by
  cases hK : keyOkB v.f0
  all_goals
    go_enter Try.func242, Try.ntmps242
    go_wp2_with (first | (go_at_call 149; refine (keyOk_is hK hs _).mono ?_; rintro e w' ⟨rfl, rfl⟩) | (go_at_call 243; refine (zeroOrId_any _ _).mono ?_; rintro e w' ⟨rfl, rfl⟩))
    go_ret
    exact ⟨ret_bool (by simp [wantOkB, hK]), (Below.refl _ _).alloc (Nat.le_refl _) _⟩

set_option maxHeartbeats 400000 in
theorem writeVersion_any (v : WriteD) (i : Int) (w : World) :
    Calls Try.prog 239 #[.agg #[.string v.f0, .string v.f1, .bool v.f2], .int .i64 i] w fun e w' => e = .returned (.agg #[.int .i64 i, .string v.f1, .bool v.f2]) ∧ Below w.heap.size w w' := by
  go_enter Try.func239, Try.ntmps239
  go_wp2_with fail
  exact bodyPost_ret (v := .agg #[.int .i64 i, .string v.f1, .bool v.f2]) (by simp [results, Try.results239, go_sem]) rfl ⟨rfl, ((Below.refl _ _).alloc (Nat.le_refl _) _).alloc (by simp) _⟩

set_option maxHeartbeats 400000 in
theorem writeValid_any (v : WriteD) (w : World) (hs : v.f0.size ≤ maxLen) (ht : v.f1.size ≤ maxLen) :
    Calls Try.prog 238 #[.agg #[.string v.f0, .string v.f1, .bool v.f2]] w fun e w' => e = .returned (.bool (writeOkB v)) ∧ Below w.heap.size w w' := by
  cases hK : keyOkB v.f0
  · go_enter Try.func238, Try.ntmps238
    go_wp2_with (go_at_call 149; refine (keyOk_is hK hs _).mono ?_; rintro e w' ⟨rfl, rfl⟩)
    go_ret
    exact ⟨ret_bool (by simp [writeOkB, hK]), (Below.refl _ _).alloc (Nat.le_refl _) _⟩
  · have hfin : Hid (writeOkB v = verOkB 9999 v.f1 v.f2) := by show _ = _; simp [writeOkB, hK, verOkB_top]
    go_enter Try.func238, Try.ntmps238
    go_wp2_with (first | (go_at_call 149; refine (keyOk_is hK hs _).mono ?_; rintro e w' ⟨rfl, rfl⟩) | (go_at_call 239; refine (writeVersion_any v _ _).mono ?_; rintro e w' ⟨rfl, hb⟩) | (go_at_call 240; refine (verValid_any _ _ _ _ ht).mono ?_; rintro e w'' ⟨rfl, hb2⟩))
    go_ret
    exact ⟨ret_bool hfin.out.symm, (((Below.refl _ _).alloc (Nat.le_refl _) _).trans (hb.mono (by simp))).trans (hb2.mono (by have := hb.size; simp at this; omega))⟩

set_option maxHeartbeats 400000 in
theorem wantKey_any (v : WantD) (w : World) :
    Calls Try.prog 241 #[.agg #[.string v.f0, .int .i64 v.f1]] w fun e w' => e = .returned (.string v.f0) ∧ Below w.heap.size w w' := by
  go_enter Try.func241, Try.ntmps241
  go_wp2
  go_ret
  exact ⟨rfl, (Below.refl _ _).alloc (Nat.le_refl _) _⟩

set_option maxHeartbeats 400000 in
theorem writeKey_any (v : WriteD) (w : World) :
    Calls Try.prog 237 #[.agg #[.string v.f0, .string v.f1, .bool v.f2]] w fun e w' => e = .returned (.string v.f0) ∧ Below w.heap.size w w' := by
  go_enter Try.func237, Try.ntmps237
  go_wp2
  go_ret
  exact ⟨rfl, (Below.refl _ _).alloc (Nat.le_refl _) _⟩

theorem meth_want_valid (v : WantD) (w : World) : (method 391 221 (.agg #[.string v.f0, .int .i64 v.f1]) "loop.example/cadastre/impl.valid").run Try.prog w = .ok (242, .agg #[.string v.f0, .int .i64 v.f1]) w := by kernel_rfl
theorem meth_want_key (v : WantD) (w : World) : (method 391 221 (.agg #[.string v.f0, .int .i64 v.f1]) "loop.example/cadastre/impl.key").run Try.prog w = .ok (241, .agg #[.string v.f0, .int .i64 v.f1]) w := by kernel_rfl
theorem meth_write_valid (v : WriteD) (w : World) : (method 391 220 (.agg #[.string v.f0, .string v.f1, .bool v.f2]) "loop.example/cadastre/impl.valid").run Try.prog w = .ok (238, .agg #[.string v.f0, .string v.f1, .bool v.f2]) w := by kernel_rfl
theorem meth_write_key (v : WriteD) (w : World) : (method 391 220 (.agg #[.string v.f0, .string v.f1, .bool v.f2]) "loop.example/cadastre/impl.key").run Try.prog w = .ok (237, .agg #[.string v.f0, .string v.f1, .bool v.f2]) w := by kernel_rfl

set_option maxHeartbeats 400000 in
theorem l4WriteOk_any (v : WriteD) (w : World) (hs : v.f0.size ≤ maxLen) (ht : v.f1.size ≤ maxLen) :
    Calls Try.prog 163 #[.agg #[.string v.f0, .string v.f1, .bool v.f2]] w fun e w' => e = .returned (.bool (writeOkB v)) ∧ Below w.heap.size w w' := by
  cases hK : keyOkB v.f0
  · go_enter Try.func163, Try.ntmps163
    go_wp2_with (go_at_call 87; refine (l1Key_is hK hs _).mono ?_; rintro e w' ⟨rfl, rfl⟩)
    go_ret
    exact ⟨ret_bool (by simp [writeOkB, hK]), (Below.refl _ _).alloc (Nat.le_refl _) _⟩
  · have hT := l1Text_any v.f1
    cases hX : okB textB 8 v.f1
    all_goals cases hG : v.f2
    all_goals cases hE : v.f1.toList.isEmpty
    all_goals
      go_enter Try.func163, Try.ntmps163
      go_wp2_with (first | (go_at_call 87; refine (l1Key_is hK hs _).mono ?_; rintro e w' ⟨rfl, rfl⟩) | (go_at_call 135; refine (l1Text_any v.f1 _ ht).mono ?_; rintro e w' ⟨rfl, rfl⟩; rw [hX]))
      go_ret
      exact ⟨ret_bool (by simp [writeOkB, hK, hX, hG, hE]), (Below.refl _ _).alloc (Nat.le_refl _) _⟩
end Go.Proofs.Ythjikcfpoomioaa
