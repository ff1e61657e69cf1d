/- When a list of Change is ok, as the program tells it. -/
import Derived.Test.YthjikcfpoomioaaFlChange
import Derived.Test.YthjikcfpoomioaaLst
import Derived.Test.YthjikcfpoomioaaOrd
namespace Go.Proofs.Ythjikcfpoomioaa
open Go.RowKit

def contB (b : Bool) (s : ByteArray) : Bool := okB textB 8 s && (b || s.toList.isEmpty)
def chgB (v : ChangeD) : Bool := v.f1 != v.f3 || !(v.f2.toList == v.f4.toList)
def changeOkB (v : ChangeD) : Bool := keyOkB v.f0 && contB v.f1 v.f2 && contB v.f3 v.f4 && chgB v
theorem meth_rank_change (v : ChangeD) (w : World) : (method 391 115 (.agg #[.string v.f0, .bool v.f1, .string v.f2, .bool v.f3, .string v.f4]) "loop.example/cadastre/impl.rank").run Try.prog w = .ok (224, .agg #[.string v.f0, .bool v.f1, .string v.f2, .bool v.f3, .string v.f4]) w := by kernel_rfl
theorem meth_valid_change (v : ChangeD) (w : World) : (method 391 115 (.agg #[.string v.f0, .bool v.f1, .string v.f2, .bool v.f3, .string v.f4]) "loop.example/cadastre/impl.valid").run Try.prog w = .ok (225, .agg #[.string v.f0, .bool v.f1, .string v.f2, .bool v.f3, .string v.f4]) w := by kernel_rfl

set_option maxHeartbeats 400000 in
theorem changeRank_any (v : ChangeD) (w : World) :
    Calls Try.prog 224 #[.agg #[.string v.f0, .bool v.f1, .string v.f2, .bool v.f3, .string v.f4]] w fun e w' => e = .returned (.string v.f0) ∧ Below w.heap.size w w' := by
  go_enter Try.func224, Try.ntmps224
  go_wp2
  go_ret
  exact ⟨rfl, (Below.refl _ _).alloc (Nat.le_refl _) _⟩

set_option maxHeartbeats 1000000 in
theorem contValid_any (b : Bool) (s : ByteArray) (w : World) (hs : s.size ≤ maxLen) :
    Calls Try.prog 226 #[.agg #[.bool b, .string s]] w fun e w' => e = .returned (.bool (contB b s)) ∧ Below w.heap.size w w' := by
  cases hT : okB textB 8 s <;> cases hE : s.toList.isEmpty <;> cases b
  all_goals
    go_enter Try.func226, Try.ntmps226
    go_wp2_with (go_at_call 222; refine (textOk_any _ _ hs).mono ?_; rintro e w' ⟨rfl, rfl⟩; rw [hT])
    go_ret
    exact ⟨ret_bool (by simp [contB, hT, hE]), (Below.refl _ _).alloc (Nat.le_refl _) _⟩

set_option maxHeartbeats 1000000 in
theorem changeBefore_any (v : ChangeD) (w : World) :
    Calls Try.prog 82 #[.agg #[.string v.f0, .bool v.f1, .string v.f2, .bool v.f3, .string v.f4]] w fun e w' => e = .returned (.agg #[.bool v.f1, .string v.f2]) ∧ Below w.heap.size w w' := by
  go_enter Try.func82, Try.ntmps82
  go_wp2
  exact bodyPost_ret (v := .agg #[.bool v.f1, .string v.f2]) (by simp [results, Try.results82, go_sem]) rfl ⟨rfl, ((Below.refl _ _).alloc (Nat.le_refl _) _).alloc (by simp) _⟩

set_option maxHeartbeats 1000000 in
theorem changeAfter_any (v : ChangeD) (w : World) :
    Calls Try.prog 81 #[.agg #[.string v.f0, .bool v.f1, .string v.f2, .bool v.f3, .string v.f4]] w fun e w' => e = .returned (.agg #[.bool v.f3, .string v.f4]) ∧ Below w.heap.size w w' := by
  go_enter Try.func81, Try.ntmps81
  go_wp2
  exact bodyPost_ret (v := .agg #[.bool v.f3, .string v.f4]) (by simp [results, Try.results81, go_sem]) rfl ⟨rfl, ((Below.refl _ _).alloc (Nat.le_refl _) _).alloc (by simp) _⟩

set_option maxRecDepth 100000 in
set_option maxHeartbeats 1000000 in
theorem changeChanges_any (v : ChangeD) (w : World) :
    Calls Try.prog 132 #[.agg #[.string v.f0, .bool v.f1, .string v.f2, .bool v.f3, .string v.f4]] w fun e w' => e = .returned (.bool (chgB v)) ∧ Below w.heap.size w w' := by
  obtain ⟨k0, b1, s1, b2, s2⟩ := v
  cases b1 <;> cases b2 <;> by_cases hS : s1.toList = s2.toList
  · obtain ⟨W1, hW1⟩ : ∃ W1, w.alloc (.cells #[.string k0, .bool false, .string s1, .bool false, .string s2] 115) = W1 := ⟨_, rfl⟩
    have B1 : Below w.heap.size w W1 := by rw [← hW1]; exact (Below.refl _ _).alloc (Nat.le_refl _) _
    have z1 : w.heap.size < W1.heap.size := by rw [← hW1]; simp
    have c0 : W1.cell? ⟨w.heap.size, 0, none⟩ = some (.string k0) := by rw [← hW1]; simp [go_sem]
    have c1 : W1.cell? ⟨w.heap.size, 1, none⟩ = some (.bool false) := by rw [← hW1]; simp [go_sem]
    have c2 : W1.cell? ⟨w.heap.size, 2, none⟩ = some (.string s1) := by rw [← hW1]; simp [go_sem]
    have c3 : W1.cell? ⟨w.heap.size, 3, none⟩ = some (.bool false) := by rw [← hW1]; simp [go_sem]
    have c4 : W1.cell? ⟨w.heap.size, 4, none⟩ = some (.string s2) := by rw [← hW1]; simp [go_sem]
    have y0 := cell_regrown c0
    have y1 := cell_regrown c1
    have y2 := cell_regrown c2
    have y3 := cell_regrown c3
    have y4 := cell_regrown c4
    go_enter Try.func132, Try.ntmps132
    go_wp2_with fail
    clear hW1
    refine wp_region_quiet_below (by kernel_rfl) (by kernel_rfl) ?_
    repeat (go_big_quiet_step (first | (go_at_call 82; exact Calls.regrown_of (changeBefore_any ⟨k0, false, s1, false, s2⟩ _)) | (go_at_call 81; exact Calls.regrown_of (changeAfter_any ⟨k0, false, s1, false, s2⟩ _))))
    refine wpQuiet_nil ?_
    intro _ hw'
    obtain ⟨⟨dq, osq⟩, hw''⟩ := hw'
    subst hw''
    go_wp2_with fail
    go_ret
    exact ⟨ret_bool (by simp [chgB, hS]), B1.trans ((below_regrown _ _ _).mono (Nat.le_of_lt z1))⟩
  · obtain ⟨W1, hW1⟩ : ∃ W1, w.alloc (.cells #[.string k0, .bool false, .string s1, .bool false, .string s2] 115) = W1 := ⟨_, rfl⟩
    have B1 : Below w.heap.size w W1 := by rw [← hW1]; exact (Below.refl _ _).alloc (Nat.le_refl _) _
    have z1 : w.heap.size < W1.heap.size := by rw [← hW1]; simp
    have c0 : W1.cell? ⟨w.heap.size, 0, none⟩ = some (.string k0) := by rw [← hW1]; simp [go_sem]
    have c1 : W1.cell? ⟨w.heap.size, 1, none⟩ = some (.bool false) := by rw [← hW1]; simp [go_sem]
    have c2 : W1.cell? ⟨w.heap.size, 2, none⟩ = some (.string s1) := by rw [← hW1]; simp [go_sem]
    have c3 : W1.cell? ⟨w.heap.size, 3, none⟩ = some (.bool false) := by rw [← hW1]; simp [go_sem]
    have c4 : W1.cell? ⟨w.heap.size, 4, none⟩ = some (.string s2) := by rw [← hW1]; simp [go_sem]
    have y0 := cell_regrown c0
    have y1 := cell_regrown c1
    have y2 := cell_regrown c2
    have y3 := cell_regrown c3
    have y4 := cell_regrown c4
    go_enter Try.func132, Try.ntmps132
    go_wp2_with fail
    clear hW1
    refine wp_region_quiet_below (by kernel_rfl) (by kernel_rfl) ?_
    repeat (go_big_quiet_step (first | (go_at_call 82; exact Calls.regrown_of (changeBefore_any ⟨k0, false, s1, false, s2⟩ _)) | (go_at_call 81; exact Calls.regrown_of (changeAfter_any ⟨k0, false, s1, false, s2⟩ _))))
    refine wpQuiet_nil ?_
    intro _ hw'
    obtain ⟨⟨dq, osq⟩, hw''⟩ := hw'
    subst hw''
    go_wp2_with fail
    go_ret
    exact ⟨ret_bool (by simp [chgB, hS]), B1.trans ((below_regrown _ _ _).mono (Nat.le_of_lt z1))⟩
  · obtain ⟨W1, hW1⟩ : ∃ W1, w.alloc (.cells #[.string k0, .bool false, .string s1, .bool true, .string s2] 115) = W1 := ⟨_, rfl⟩
    have B1 : Below w.heap.size w W1 := by rw [← hW1]; exact (Below.refl _ _).alloc (Nat.le_refl _) _
    have z1 : w.heap.size < W1.heap.size := by rw [← hW1]; simp
    have c0 : W1.cell? ⟨w.heap.size, 0, none⟩ = some (.string k0) := by rw [← hW1]; simp [go_sem]
    have c1 : W1.cell? ⟨w.heap.size, 1, none⟩ = some (.bool false) := by rw [← hW1]; simp [go_sem]
    have c2 : W1.cell? ⟨w.heap.size, 2, none⟩ = some (.string s1) := by rw [← hW1]; simp [go_sem]
    have c3 : W1.cell? ⟨w.heap.size, 3, none⟩ = some (.bool true) := by rw [← hW1]; simp [go_sem]
    have c4 : W1.cell? ⟨w.heap.size, 4, none⟩ = some (.string s2) := by rw [← hW1]; simp [go_sem]
    have y0 := cell_regrown c0
    have y1 := cell_regrown c1
    have y2 := cell_regrown c2
    have y3 := cell_regrown c3
    have y4 := cell_regrown c4
    go_enter Try.func132, Try.ntmps132
    go_wp2_with fail
    clear hW1
    refine wp_region_quiet_below (by kernel_rfl) (by kernel_rfl) ?_
    repeat (go_big_quiet_step (first | (go_at_call 82; exact Calls.regrown_of (changeBefore_any ⟨k0, false, s1, true, s2⟩ _)) | (go_at_call 81; exact Calls.regrown_of (changeAfter_any ⟨k0, false, s1, true, s2⟩ _))))
    refine wpQuiet_nil ?_
    intro _ hw'
    obtain ⟨⟨dq, osq⟩, hw''⟩ := hw'
    subst hw''
    go_wp2_with fail
    go_ret
    exact ⟨ret_bool (by simp [chgB, hS]), B1.trans ((below_regrown _ _ _).mono (Nat.le_of_lt z1))⟩
  · obtain ⟨W1, hW1⟩ : ∃ W1, w.alloc (.cells #[.string k0, .bool false, .string s1, .bool true, .string s2] 115) = W1 := ⟨_, rfl⟩
    have B1 : Below w.heap.size w W1 := by rw [← hW1]; exact (Below.refl _ _).alloc (Nat.le_refl _) _
    have z1 : w.heap.size < W1.heap.size := by rw [← hW1]; simp
    have c0 : W1.cell? ⟨w.heap.size, 0, none⟩ = some (.string k0) := by rw [← hW1]; simp [go_sem]
    have c1 : W1.cell? ⟨w.heap.size, 1, none⟩ = some (.bool false) := by rw [← hW1]; simp [go_sem]
    have c2 : W1.cell? ⟨w.heap.size, 2, none⟩ = some (.string s1) := by rw [← hW1]; simp [go_sem]
    have c3 : W1.cell? ⟨w.heap.size, 3, none⟩ = some (.bool true) := by rw [← hW1]; simp [go_sem]
    have c4 : W1.cell? ⟨w.heap.size, 4, none⟩ = some (.string s2) := by rw [← hW1]; simp [go_sem]
    have y0 := cell_regrown c0
    have y1 := cell_regrown c1
    have y2 := cell_regrown c2
    have y3 := cell_regrown c3
    have y4 := cell_regrown c4
    go_enter Try.func132, Try.ntmps132
    go_wp2_with fail
    clear hW1
    refine wp_region_quiet_below (by kernel_rfl) (by kernel_rfl) ?_
    repeat (go_big_quiet_step (first | (go_at_call 82; exact Calls.regrown_of (changeBefore_any ⟨k0, false, s1, true, s2⟩ _)) | (go_at_call 81; exact Calls.regrown_of (changeAfter_any ⟨k0, false, s1, true, s2⟩ _))))
    refine wpQuiet_nil ?_
    intro _ hw'
    obtain ⟨⟨dq, osq⟩, hw''⟩ := hw'
    subst hw''
    go_wp2_with fail
    go_ret
    exact ⟨ret_bool (by simp [chgB, hS]), B1.trans ((below_regrown _ _ _).mono (Nat.le_of_lt z1))⟩
  · obtain ⟨W1, hW1⟩ : ∃ W1, w.alloc (.cells #[.string k0, .bool true, .string s1, .bool false, .string s2] 115) = W1 := ⟨_, rfl⟩
    have B1 : Below w.heap.size w W1 := by rw [← hW1]; exact (Below.refl _ _).alloc (Nat.le_refl _) _
    have z1 : w.heap.size < W1.heap.size := by rw [← hW1]; simp
    have c0 : W1.cell? ⟨w.heap.size, 0, none⟩ = some (.string k0) := by rw [← hW1]; simp [go_sem]
    have c1 : W1.cell? ⟨w.heap.size, 1, none⟩ = some (.bool true) := by rw [← hW1]; simp [go_sem]
    have c2 : W1.cell? ⟨w.heap.size, 2, none⟩ = some (.string s1) := by rw [← hW1]; simp [go_sem]
    have c3 : W1.cell? ⟨w.heap.size, 3, none⟩ = some (.bool false) := by rw [← hW1]; simp [go_sem]
    have c4 : W1.cell? ⟨w.heap.size, 4, none⟩ = some (.string s2) := by rw [← hW1]; simp [go_sem]
    have y0 := cell_regrown c0
    have y1 := cell_regrown c1
    have y2 := cell_regrown c2
    have y3 := cell_regrown c3
    have y4 := cell_regrown c4
    go_enter Try.func132, Try.ntmps132
    go_wp2_with fail
    clear hW1
    refine wp_region_quiet_below (by kernel_rfl) (by kernel_rfl) ?_
    repeat (go_big_quiet_step (first | (go_at_call 82; exact Calls.regrown_of (changeBefore_any ⟨k0, true, s1, false, s2⟩ _)) | (go_at_call 81; exact Calls.regrown_of (changeAfter_any ⟨k0, true, s1, false, s2⟩ _))))
    refine wpQuiet_nil ?_
    intro _ hw'
    obtain ⟨⟨dq, osq⟩, hw''⟩ := hw'
    subst hw''
    go_wp2_with fail
    go_ret
    exact ⟨ret_bool (by simp [chgB, hS]), B1.trans ((below_regrown _ _ _).mono (Nat.le_of_lt z1))⟩
  · obtain ⟨W1, hW1⟩ : ∃ W1, w.alloc (.cells #[.string k0, .bool true, .string s1, .bool false, .string s2] 115) = W1 := ⟨_, rfl⟩
    have B1 : Below w.heap.size w W1 := by rw [← hW1]; exact (Below.refl _ _).alloc (Nat.le_refl _) _
    have z1 : w.heap.size < W1.heap.size := by rw [← hW1]; simp
    have c0 : W1.cell? ⟨w.heap.size, 0, none⟩ = some (.string k0) := by rw [← hW1]; simp [go_sem]
    have c1 : W1.cell? ⟨w.heap.size, 1, none⟩ = some (.bool true) := by rw [← hW1]; simp [go_sem]
    have c2 : W1.cell? ⟨w.heap.size, 2, none⟩ = some (.string s1) := by rw [← hW1]; simp [go_sem]
    have c3 : W1.cell? ⟨w.heap.size, 3, none⟩ = some (.bool false) := by rw [← hW1]; simp [go_sem]
    have c4 : W1.cell? ⟨w.heap.size, 4, none⟩ = some (.string s2) := by rw [← hW1]; simp [go_sem]
    have y0 := cell_regrown c0
    have y1 := cell_regrown c1
    have y2 := cell_regrown c2
    have y3 := cell_regrown c3
    have y4 := cell_regrown c4
    go_enter Try.func132, Try.ntmps132
    go_wp2_with fail
    clear hW1
    refine wp_region_quiet_below (by kernel_rfl) (by kernel_rfl) ?_
    repeat (go_big_quiet_step (first | (go_at_call 82; exact Calls.regrown_of (changeBefore_any ⟨k0, true, s1, false, s2⟩ _)) | (go_at_call 81; exact Calls.regrown_of (changeAfter_any ⟨k0, true, s1, false, s2⟩ _))))
    refine wpQuiet_nil ?_
    intro _ hw'
    obtain ⟨⟨dq, osq⟩, hw''⟩ := hw'
    subst hw''
    go_wp2_with fail
    go_ret
    exact ⟨ret_bool (by simp [chgB, hS]), B1.trans ((below_regrown _ _ _).mono (Nat.le_of_lt z1))⟩
  · obtain ⟨W1, hW1⟩ : ∃ W1, w.alloc (.cells #[.string k0, .bool true, .string s1, .bool true, .string s2] 115) = W1 := ⟨_, rfl⟩
    have B1 : Below w.heap.size w W1 := by rw [← hW1]; exact (Below.refl _ _).alloc (Nat.le_refl _) _
    have z1 : w.heap.size < W1.heap.size := by rw [← hW1]; simp
    have c0 : W1.cell? ⟨w.heap.size, 0, none⟩ = some (.string k0) := by rw [← hW1]; simp [go_sem]
    have c1 : W1.cell? ⟨w.heap.size, 1, none⟩ = some (.bool true) := by rw [← hW1]; simp [go_sem]
    have c2 : W1.cell? ⟨w.heap.size, 2, none⟩ = some (.string s1) := by rw [← hW1]; simp [go_sem]
    have c3 : W1.cell? ⟨w.heap.size, 3, none⟩ = some (.bool true) := by rw [← hW1]; simp [go_sem]
    have c4 : W1.cell? ⟨w.heap.size, 4, none⟩ = some (.string s2) := by rw [← hW1]; simp [go_sem]
    have y0 := cell_regrown c0
    have y1 := cell_regrown c1
    have y2 := cell_regrown c2
    have y3 := cell_regrown c3
    have y4 := cell_regrown c4
    go_enter Try.func132, Try.ntmps132
    go_wp2_with fail
    clear hW1
    refine wp_region_quiet_below (by kernel_rfl) (by kernel_rfl) ?_
    repeat (go_big_quiet_step (first | (go_at_call 82; exact Calls.regrown_of (changeBefore_any ⟨k0, true, s1, true, s2⟩ _)) | (go_at_call 81; exact Calls.regrown_of (changeAfter_any ⟨k0, true, s1, true, s2⟩ _))))
    refine wpQuiet_nil ?_
    intro _ hw'
    obtain ⟨⟨dq, osq⟩, hw''⟩ := hw'
    subst hw''
    go_wp2_with fail
    go_ret
    exact ⟨ret_bool (by simp [chgB, hS]), B1.trans ((below_regrown _ _ _).mono (Nat.le_of_lt z1))⟩
  · obtain ⟨W1, hW1⟩ : ∃ W1, w.alloc (.cells #[.string k0, .bool true, .string s1, .bool true, .string s2] 115) = W1 := ⟨_, rfl⟩
    have B1 : Below w.heap.size w W1 := by rw [← hW1]; exact (Below.refl _ _).alloc (Nat.le_refl _) _
    have z1 : w.heap.size < W1.heap.size := by rw [← hW1]; simp
    have c0 : W1.cell? ⟨w.heap.size, 0, none⟩ = some (.string k0) := by rw [← hW1]; simp [go_sem]
    have c1 : W1.cell? ⟨w.heap.size, 1, none⟩ = some (.bool true) := by rw [← hW1]; simp [go_sem]
    have c2 : W1.cell? ⟨w.heap.size, 2, none⟩ = some (.string s1) := by rw [← hW1]; simp [go_sem]
    have c3 : W1.cell? ⟨w.heap.size, 3, none⟩ = some (.bool true) := by rw [← hW1]; simp [go_sem]
    have c4 : W1.cell? ⟨w.heap.size, 4, none⟩ = some (.string s2) := by rw [← hW1]; simp [go_sem]
    have y0 := cell_regrown c0
    have y1 := cell_regrown c1
    have y2 := cell_regrown c2
    have y3 := cell_regrown c3
    have y4 := cell_regrown c4
    go_enter Try.func132, Try.ntmps132
    go_wp2_with fail
    clear hW1
    refine wp_region_quiet_below (by kernel_rfl) (by kernel_rfl) ?_
    repeat (go_big_quiet_step (first | (go_at_call 82; exact Calls.regrown_of (changeBefore_any ⟨k0, true, s1, true, s2⟩ _)) | (go_at_call 81; exact Calls.regrown_of (changeAfter_any ⟨k0, true, s1, true, s2⟩ _))))
    refine wpQuiet_nil ?_
    intro _ hw'
    obtain ⟨⟨dq, osq⟩, hw''⟩ := hw'
    subst hw''
    go_wp2_with fail
    go_ret
    exact ⟨ret_bool (by simp [chgB, hS]), B1.trans ((below_regrown _ _ _).mono (Nat.le_of_lt z1))⟩

set_option maxRecDepth 100000 in
set_option maxHeartbeats 2000000 in
theorem changeValid_any (v : ChangeD) (w : World) (hf : v.fits) :
    Calls Try.prog 225 #[.agg #[.string v.f0, .bool v.f1, .string v.f2, .bool v.f3, .string v.f4]] w fun e w' => e = .returned (.bool (changeOkB v)) ∧ Below w.heap.size w w' := by
  obtain ⟨hs0, hs2, hs4⟩ := hf
  obtain ⟨W1, hW1⟩ : ∃ W1, w.alloc (.cells #[.string v.f0, .bool v.f1, .string v.f2, .bool v.f3, .string v.f4] 115) = W1 := ⟨_, rfl⟩
  have B1 : Below w.heap.size w W1 := by rw [← hW1]; exact (Below.refl _ _).alloc (Nat.le_refl _) _
  have z1 : w.heap.size < W1.heap.size := by rw [← hW1]; simp
  have c0 : W1.cell? ⟨w.heap.size, 0, none⟩ = some (.string v.f0) := by rw [← hW1]; simp [go_sem]
  have c1 : W1.cell? ⟨w.heap.size, 1, none⟩ = some (.bool v.f1) := by rw [← hW1]; simp [go_sem]
  have c2 : W1.cell? ⟨w.heap.size, 2, none⟩ = some (.string v.f2) := by rw [← hW1]; simp [go_sem]
  have c3 : W1.cell? ⟨w.heap.size, 3, none⟩ = some (.bool v.f3) := by rw [← hW1]; simp [go_sem]
  have c4 : W1.cell? ⟨w.heap.size, 4, none⟩ = some (.string v.f4) := by rw [← hW1]; simp [go_sem]
  have BB := Lib.hid B1
  clear B1
  cases hK : keyOkB v.f0
  · go_enter Try.func225, Try.ntmps225
    go_wp2_with (go_at_call 149; refine (keyOk_any _ _ hs0).mono ?_; rintro e w' ⟨rfl, rfl⟩; rw [hK])
    go_ret
    exact ⟨ret_bool (by simp [changeOkB, hK]), BB.out⟩
  cases hC : contB v.f1 v.f2 <;> cases hD : contB v.f3 v.f4
  all_goals
    go_enter Try.func225, Try.ntmps225
    go_wp2_with (go_at_call 149; refine (keyOk_any _ _ hs0).mono ?_; rintro e w' ⟨rfl, rfl⟩; rw [hK])
    clear hW1
    refine (changeBefore_any v _).mono ?_
    rintro e w2 ⟨rfl, hb2⟩
    replace c0 := (hb2.cell (p := ⟨w.heap.size, 0, none⟩) z1).trans c0; replace c1 := (hb2.cell (p := ⟨w.heap.size, 1, none⟩) z1).trans c1; replace c2 := (hb2.cell (p := ⟨w.heap.size, 2, none⟩) z1).trans c2; replace c3 := (hb2.cell (p := ⟨w.heap.size, 3, none⟩) z1).trans c3; replace c4 := (hb2.cell (p := ⟨w.heap.size, 4, none⟩) z1).trans c4
    replace z1 : w.heap.size < w2.heap.size := Nat.lt_of_lt_of_le z1 hb2.size
    replace BB := Lib.hid (BB.out.trans (hb2.mono BB.out.size))
    clear hb2
    go_wp2_with fail
    refine (contValid_any _ _ _ hs2).mono ?_
    rintro e w3 ⟨rfl, hb3⟩
    replace c0 := (hb3.cell (p := ⟨w.heap.size, 0, none⟩) z1).trans c0; replace c1 := (hb3.cell (p := ⟨w.heap.size, 1, none⟩) z1).trans c1; replace c2 := (hb3.cell (p := ⟨w.heap.size, 2, none⟩) z1).trans c2; replace c3 := (hb3.cell (p := ⟨w.heap.size, 3, none⟩) z1).trans c3; replace c4 := (hb3.cell (p := ⟨w.heap.size, 4, none⟩) z1).trans c4
    replace z1 : w.heap.size < w3.heap.size := Nat.lt_of_lt_of_le z1 hb3.size
    replace BB := Lib.hid (BB.out.trans (hb3.mono BB.out.size))
    clear hb3
    rw [hC]
    go_wp2_with fail
    try
      go_ret
      exact ⟨ret_bool (by simp [changeOkB, hK, hC]), BB.out⟩
  all_goals
    refine (changeAfter_any v _).mono ?_
    rintro e w4 ⟨rfl, hb4⟩
    replace c0 := (hb4.cell (p := ⟨w.heap.size, 0, none⟩) z1).trans c0; replace c1 := (hb4.cell (p := ⟨w.heap.size, 1, none⟩) z1).trans c1; replace c2 := (hb4.cell (p := ⟨w.heap.size, 2, none⟩) z1).trans c2; replace c3 := (hb4.cell (p := ⟨w.heap.size, 3, none⟩) z1).trans c3; replace c4 := (hb4.cell (p := ⟨w.heap.size, 4, none⟩) z1).trans c4
    replace z1 : w.heap.size < w4.heap.size := Nat.lt_of_lt_of_le z1 hb4.size
    replace BB := Lib.hid (BB.out.trans (hb4.mono BB.out.size))
    clear hb4
    go_wp2_with fail
    refine (contValid_any _ _ _ hs4).mono ?_
    rintro e w5 ⟨rfl, hb5⟩
    replace c0 := (hb5.cell (p := ⟨w.heap.size, 0, none⟩) z1).trans c0; replace c1 := (hb5.cell (p := ⟨w.heap.size, 1, none⟩) z1).trans c1; replace c2 := (hb5.cell (p := ⟨w.heap.size, 2, none⟩) z1).trans c2; replace c3 := (hb5.cell (p := ⟨w.heap.size, 3, none⟩) z1).trans c3; replace c4 := (hb5.cell (p := ⟨w.heap.size, 4, none⟩) z1).trans c4
    replace z1 : w.heap.size < w5.heap.size := Nat.lt_of_lt_of_le z1 hb5.size
    replace BB := Lib.hid (BB.out.trans (hb5.mono BB.out.size))
    clear hb5
    rw [hD]
    go_wp2_with fail
  · go_ret
    exact ⟨ret_bool (by simp [changeOkB, hK, hC, hD]), BB.out⟩
  · refine (changeChanges_any v _).mono ?_
    rintro e w6 ⟨rfl, hb6⟩
    replace BB := Lib.hid (BB.out.trans (hb6.mono BB.out.size))
    clear hb6
    go_wp2_with fail
    go_ret
    exact ⟨ret_bool (by simp [changeOkB, hK, hC, hD]), BB.out⟩

set_option maxHeartbeats 1000000 in
theorem changeInv_any (v : ChangeD) (w : World) (hf : v.fits) :
    Calls Try.prog 140 #[.agg #[.string v.f0, .bool v.f1, .string v.f2, .bool v.f3, .string v.f4]] w fun e w' => e = .returned (.bool (!changeOkB v)) ∧ Below w.heap.size w w' := by
  have mv := meth_valid_change v
  have hb0 : Below w.heap.size w (w.alloc (.cells #[.string v.f0, .bool v.f1, .string v.f2, .bool v.f3, .string v.f4] 115)) := (Below.refl _ _).alloc (Nat.le_refl _) _
  have HB := Lib.hid hb0
  clear hb0
  go_enter Try.func140, Try.ntmps140
  go_wp2_with fail
  refine (changeValid_any v _ hf).mono ?_
  rintro e w2 ⟨rfl, hb2⟩
  have HB2 := Lib.hid (HB.out.trans (hb2.mono HB.out.size))
  clear hb2
  go_wp2_with fail
  go_ret
  exact ⟨rfl, HB2.out⟩

set_option maxHeartbeats 1000000 in
theorem changeIdx_any (a : Option Addr) (vs : List ChangeD) (cap : Nat) (w : World) (hv : ChangesIn w a vs) (hf : ∀ v ∈ vs, v.fits) (hn : vs.length ≤ maxLen) :
    Calls Try.prog 178 #[.slice a vs.length cap, .func (.func 140) #[] #[]] w fun e w' => ((e = .returned (.int .i64 (-1)) ∧ OkBy changeOkB vs vs.length) ∨ (∃ k : Nat, e = .returned (.int .i64 (k : Int)) ∧ ¬ OkBy changeOkB vs vs.length)) ∧ Below w.heap.size w w' := by
  unfold maxLen at hn
  have HV := Lib.hid hv
  have HF := Lib.hid hf
  clear hv hf
  go_enter Try.func178, Try.ntmps178
  go_wp2_with fail
  go_loopw [8] (fun i wr => ∃ k : Nat, k ≤ vs.length ∧ i = .int .i64 k ∧ Below w.heap.size w wr ∧ OkBy changeOkB vs k) (fun i _ => vs.length - (intOf i).toNat)
  case atStart => exact ⟨0, Nat.zero_le _, rfl, Below.refl _ _, OkBy.zero _ _⟩
  case round =>
    obtain ⟨k, hk, rfl, hB, hO⟩ := hrel
    have HW := Lib.hid hB
    have HO := Lib.hid hO
    clear hB hO
    by_cases hlt : k < vs.length
    · rcases HV.out.below HW.out with hnil | ⟨b1, o1, rfl, hb1, hc1⟩
      · rw [hnil] at hlt; simp at hlt
      obtain ⟨c0, c1, c2, c3, c4⟩ := hc1 k hlt
      clear hc1
      go_wp2_with fail
      refine (changeInv_any vs[k] _ (HF.out _ (List.getElem_mem hlt))).mono ?_
      rintro e w2 ⟨rfl, hb2⟩
      have HW2 := Lib.hid (HW.out.trans (hb2.mono HW.out.size))
      clear hb2
      cases hK : changeOkB vs[k]
      · go_wp2_with fail
        go_ret
        exact ⟨.inr ⟨k, rfl, OkBy.not hlt hK⟩, HW2.out⟩
      · go_wp2_with fail
        go_roundw
        case rel => exact ⟨k + 1, by omega, by go_num, HW2.out, HO.out.succ hlt hK⟩
        case measure => simp [intOf]; omega
    · obtain rfl : k = vs.length := by omega
      go_wp2_with fail
      go_ret
      exact ⟨.inl ⟨rfl, HO.out⟩, HW.out⟩

set_option maxHeartbeats 1000000 in
theorem changeHas_any (a : Option Addr) (vs : List ChangeD) (cap : Nat) (w : World) (hv : ChangesIn w a vs) (hf : ∀ v ∈ vs, v.fits) (hn : vs.length ≤ maxLen) :
    Calls Try.prog 141 #[.slice a vs.length cap, .func (.func 140) #[] #[]] w fun e w' => ∃ b : Bool, e = .returned (.bool b) ∧ (b = false ↔ OkBy changeOkB vs vs.length) ∧ Below w.heap.size w w' := by
  have HV := Lib.hid hv
  have HF := Lib.hid hf
  clear hv hf
  go_enter Try.func141, Try.ntmps141
  go_wp2_with fail
  refine (changeIdx_any a vs cap _ HV.out HF.out hn).mono ?_
  rintro e w2 ⟨⟨rfl, ho⟩ | ⟨k, rfl, ho⟩, hb2⟩
  · have HO := Lib.hid ho
    have HB := Lib.hid hb2
    clear ho hb2
    go_wp2_with fail
    go_ret
    exact ⟨false, rfl, by simpa using HO.out, HB.out⟩
  · have HO := Lib.hid ho
    have HB := Lib.hid hb2
    clear ho hb2
    go_wp2_with fail
    go_ret
    exact ⟨true, ret_bool (by simp), by simpa using HO.out, HB.out⟩

set_option maxHeartbeats 1000000 in
theorem changeAscends_any (a : Option Addr) (os : List ChangeD) (cap : Nat) (w : World) (hv : ChangesIn w a os) (hn : os.length ≤ maxLen) :
    Calls Try.prog 142 #[.slice a os.length cap] w (BoolPost (UpBy ChangeD.f0 os os.length) w) := by
  unfold maxLen at hn
  have HV := Lib.hid hv
  clear hv
  go_enter Try.func142, Try.ntmps142
  go_wp2_with fail
  go_loopw [3] (fun i wr => ∃ k : Nat, k ≤ os.length ∧ i = .int .i64 (↑k + 1) ∧ Below w.heap.size w wr ∧ UpBy ChangeD.f0 os (k + 1)) (fun i _ => os.length + 1 - (intOf i).toNat)
  case atStart => exact ⟨0, Nat.zero_le _, rfl, Below.refl _ _, UpBy.one _ _⟩
  case round =>
    obtain ⟨k, hk, rfl, hB, hU⟩ := hrel
    have HW := Lib.hid hB
    have HU := Lib.hid hU
    clear hB hU
    by_cases hlt : k + 1 < os.length
    · rcases HV.out.below HW.out with hnil | ⟨b1, o1, rfl, hb1, hc1⟩
      · rw [hnil] at hlt; simp at hlt
      obtain ⟨c0, c1, c2, c3, c4⟩ := hc1 (k + 1) hlt
      obtain ⟨d0, d1, d2, d3, d4⟩ := hc1 k (by omega)
      have y0 := cell_regrown c0
      have y1 := cell_regrown c1
      have y2 := cell_regrown c2
      have y3 := cell_regrown c3
      have y4 := cell_regrown c4
      have x0 := cell_regrown d0
      have x1 := cell_regrown d1
      have x2 := cell_regrown d2
      have x3 := cell_regrown d3
      have x4 := cell_regrown d4
      clear hc1
      have hwk : IntKind.i64.wrap (k : Int) = (k : Int) := by rw [IntKind.wrap_i64]; omega
      have m1 := meth_rank_change os[k + 1]
      have m2 := meth_rank_change os[k]
      have HO := Lib.hid (bytesLess_le os[k + 1].f0.toList os[k].f0.toList)
      cases hO : Op.bytesLess os[k].f0.toList os[k + 1].f0.toList
      all_goals
        go_wp2_with fail
        refine wp_region_quiet_below (by kernel_rfl) (by kernel_rfl) ?_
        repeat (go_big_quiet_step ((go_at_call 224; exact Calls.regrown_of (changeRank_any _ _))))
        refine wpQuiet_nil ?_
        intro _ hw'
        obtain ⟨⟨dq, osq⟩, hw''⟩ := hw'
        subst hw''
        clear m1 m2
        go_wp2_with fail
      · go_ret
        exact ⟨false, rfl, by simp only [Bool.false_eq_true, false_iff]; intro h; have := h (k + 1) hlt hlt k (by omega) rfl; rw [HO.out, hO] at this; exact absurd this (by decide), HW.out.trans ((below_regrown _ _ _).mono HW.out.size)⟩
      · go_roundw
        case rel => exact ⟨k + 1, by omega, by go_num, HW.out.trans ((below_regrown _ _ _).mono HW.out.size), HU.out.succ hlt (by rw [HO.out, hO]; rfl)⟩
        case measure => simp [intOf]; omega
    · go_wp2_with fail
      go_ret
      exact ⟨true, rfl, by simp only [true_iff]; exact fun i h hk' j hj e => HU.out i h (by omega) j hj e, HW.out⟩

set_option maxHeartbeats 1000000 in
theorem changeListed_any (a : Option Addr) (vs : List ChangeD) (cap : Nat) (w : World) (hv : ChangesIn w a vs) (hf : ∀ v ∈ vs, v.fits) (hn : vs.length ≤ maxLen) :
    Calls Try.prog 78 #[.slice a vs.length cap] w (BoolPost (LstOk changeOkB ChangeD.f0 vs vs.length) w) := by
  have HV := Lib.hid hv
  have HF := Lib.hid hf
  clear hv hf
  go_enter Try.func78, Try.ntmps78
  go_wp2_with fail
  refine (changeHas_any a vs cap _ HV.out HF.out hn).mono ?_
  rintro e w2 ⟨b, rfl, hb, hb2⟩
  have HI := Lib.hid hb
  have HB := Lib.hid hb2
  clear hb hb2
  cases b
  · go_wp2_with fail
    refine (changeAscends_any a vs cap _ (HV.out.below HB.out) hn).mono ?_
    rintro e w3 ⟨b, rfl, hb, hb3⟩
    have HI3 := Lib.hid hb
    have HB3 := Lib.hid (HB.out.trans (hb3.mono HB.out.size))
    clear hb hb3
    go_wp2_with fail
    go_ret
    exact ⟨b, rfl, ⟨fun h => ⟨HI.out.1 (by simp), HI3.out.1 h⟩, fun h => HI3.out.2 h.2⟩, HB3.out⟩
  · go_wp2_with fail
    go_ret
    exact ⟨false, rfl, by simp only [Bool.false_eq_true, false_iff]; exact fun h => absurd (HI.out.2 h.1) (by decide), HB.out⟩

set_option maxHeartbeats 1000000 in
theorem changeListOk_any (a : Option Addr) (vs : List ChangeD) (cap : Nat) (w : World) (hv : ChangesIn w a vs) (hf : ∀ v ∈ vs, v.fits) (hn : vs.length ≤ maxLen) :
    Calls Try.prog 23 #[.slice a vs.length cap] w (BoolPost (LstOk changeOkB ChangeD.f0 vs vs.length) w) := by
  have HV := Lib.hid hv
  have HF := Lib.hid hf
  clear hv hf
  go_enter Try.func23, Try.ntmps23
  go_wp2_with fail
  refine (changeListed_any a vs cap _ HV.out HF.out hn).mono ?_
  rintro e w2 ⟨b, rfl, hb, hb2⟩
  have HI := Lib.hid hb
  have HB := Lib.hid hb2
  clear hb hb2
  go_wp2_with fail
  go_ret
  exact ⟨b, rfl, HI.out, HB.out⟩
end Go.Proofs.Ythjikcfpoomioaa
