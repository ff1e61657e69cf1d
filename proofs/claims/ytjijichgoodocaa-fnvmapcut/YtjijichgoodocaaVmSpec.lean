/- Contracts of the byte checks: each returns just what the plain Lean function of the same bytes says, and leaves the world as it was. -/
import Derived.Test.YtjijichgoodocaaRows
import Derived.WalkKit
import Derived.WalkSpells
import Derived.WalkLawsBesides
import Derived.Lib.Hide
import Derived.Test.YtjijichgoodocaaVm
namespace Go.Proofs.Ytjijichgoodocaa
open Go.RowKit

def textB (c : UInt8) : Bool := decide (33 ≤ (c.toNat : Int)) && decide ((c.toNat : Int) ≤ 126)
def keyB (c : UInt8) : Bool := decide (97 ≤ (c.toNat : Int)) && decide ((c.toNat : Int) ≤ 122) || decide (48 ≤ (c.toNat : Int)) && decide ((c.toNat : Int) ≤ 57) || ((c.toNat : Int) == 47)
def allTo (p : UInt8 → Bool) (s : ByteArray) (k : Nat) : Prop := ∀ j (h : j < s.size), j < k → p s[j] = true
def okB (p : UInt8 → Bool) (m : Nat) (s : ByteArray) : Bool := decide (s.size ≤ m) && s.data.toList.all p

theorem all_mem {p : UInt8 → Bool} {s : ByteArray} (h : ∀ j (h : j < s.size), p s[j] = true) : s.data.toList.all p = true := by
  rw [List.all_eq_true]
  intro x hx
  obtain ⟨j, hj, rfl⟩ := List.getElem_of_mem hx
  exact h j (by simpa using hj)
theorem okB_done {p : UInt8 → Bool} {m : Nat} {s : ByteArray} (h : allTo p s s.size) : okB p m s = decide (s.size ≤ m) := by
  unfold okB; rw [all_mem fun j hj => h j hj hj]; simp
theorem okB_bad {p : UInt8 → Bool} {m k : Nat} {s : ByteArray} (hk : k < s.size) (h : p s[k] = false) : okB p m s = false := by
  unfold okB
  have : s.data.toList.all p = false := by
    rw [List.all_eq_false]
    refine ⟨s[k], ?_, by simp [h]⟩
    exact List.getElem_mem (l := s.data.toList) (by simpa using hk)
  rw [this]; simp
theorem okB_long {p : UInt8 → Bool} {m : Nat} {s : ByteArray} (h : m < s.size) : okB p m s = false := by
  unfold okB; rw [decide_eq_false (by omega)]; simp
theorem allTo_zero (p : UInt8 → Bool) (s : ByteArray) : allTo p s 0 := fun _ _ h => absurd h (by omega)
theorem allTo_succ {p : UInt8 → Bool} {s : ByteArray} {k : Nat} (h : allTo p s k) (hk : k < s.size) (hp : p s[k] = true) : allTo p s (k + 1) := by
  intro j hj hjk
  by_cases e : j = k
  · subst e; exact hp
  · exact h j hj (by omega)
theorem allTo_all {p : UInt8 → Bool} {s : ByteArray} {k : Nat} (h : allTo p s k) (hk : ¬ k < s.size) : allTo p s s.size := fun j hj _ => h j hj (by omega)
theorem ret_bool {a b : Bool} (h : a = b) : Ending.returned (.bool a) = .returned (.bool b) := by rw [h]

theorem textB_yes {c : UInt8} (h1 : 33 ≤ (c.toNat : Int)) (h2 : (c.toNat : Int) ≤ 126) : textB c = true := by simp [textB]; omega
theorem textB_no {c : UInt8} (h : (c.toNat : Int) < 33 ∨ 126 < (c.toNat : Int)) : textB c = false := by
  unfold textB; rcases h with h | h
  · rw [decide_eq_false (by omega)]; rfl
  · rw [decide_eq_false (p := (c.toNat : Int) ≤ 126) (by omega)]; simp

set_option maxHeartbeats 400000 in
theorem l1Text_any (s : ByteArray) (w : World) (hs : s.size ≤ maxLen) :
    Calls Try.prog 139 #[.string s] w fun e w' => e = .returned (.bool (okB textB 8 s)) ∧ w = w' := by
  unfold maxLen at hs
  go_enter Try.func139, Try.ntmps139
  go_wp2
  go_loop [3] (fun i => ∃ k : Nat, k ≤ s.size ∧ i = .int .i64 k ∧ allTo textB s k) (fun i => s.size - (intOf i).toNat)
  case atStart => exact ⟨0, Nat.zero_le _, rfl, allTo_zero _ _⟩
  case round =>
    obtain ⟨k, hk, rfl, hall⟩ := hrel
    by_cases hlt : k < s.size
    · go_wp2
      all_goals first
        | (go_ret; exact ⟨ret_bool (okB_bad hlt (textB_no (by omega))).symm, rfl⟩)
        | exact ⟨⟨k + 1, by omega, by go_num, allTo_succ hall hlt (textB_yes (by omega) (by omega))⟩, by simp [intOf]; omega⟩
    · go_wp2
      go_ret
      exact ⟨ret_bool (by rw [okB_done (allTo_all hall hlt)]; simp; omega), rfl⟩

theorem keyB_yes {c : UInt8} (h : 97 ≤ (c.toNat : Int) ∧ (c.toNat : Int) ≤ 122 ∨ 48 ≤ (c.toNat : Int) ∧ (c.toNat : Int) ≤ 57 ∨ (c.toNat : Int) = 47) : keyB c = true := by
  simp [keyB]; omega
theorem keyB_no {c : UInt8} (h : ¬ (97 ≤ (c.toNat : Int) ∧ (c.toNat : Int) ≤ 122 ∨ 48 ≤ (c.toNat : Int) ∧ (c.toNat : Int) ≤ 57 ∨ (c.toNat : Int) = 47)) : keyB c = false := by
  rw [Bool.eq_false_iff]; intro k; apply h; simp [keyB] at k; omega

set_option maxHeartbeats 400000 in
theorem l1Part_any (s : ByteArray) (w : World) (hs : s.size ≤ maxLen) :
    Calls Try.prog 137 #[.string s] w fun e w' => e = .returned (.bool (okB keyB 6 s)) ∧ w = w' := by
  unfold maxLen at hs
  go_enter Try.func137, Try.ntmps137
  go_wp2
  go_loop [3] (fun i => ∃ k : Nat, k ≤ s.size ∧ i = .int .i64 k ∧ allTo keyB s k) (fun i => s.size - (intOf i).toNat)
  case atStart => exact ⟨0, Nat.zero_le _, rfl, allTo_zero _ _⟩
  case round =>
    obtain ⟨k, hk, rfl, hall⟩ := hrel
    by_cases hlt : k < s.size
    · have h47 : ((s[k].toNat : Int) != 47) = true ∧ (s[k].toNat : Int) ≠ 47 ∨ ((s[k].toNat : Int) != 47) = false ∧ 47 ≤ (s[k].toNat : Int) ∧ (s[k].toNat : Int) ≤ 47 := by
        by_cases e : (s[k].toNat : Int) = 47
        · exact Or.inr ⟨by simp [e], by omega, by omega⟩
        · exact Or.inl ⟨by simp; omega, e⟩
      rcases h47 with ⟨hb, hne⟩ | ⟨hb, hl, hu⟩
      all_goals
        go_wp2
        all_goals first
          | (go_ret; exact ⟨ret_bool (okB_bad hlt (keyB_no (by omega))).symm, rfl⟩)
          | exact ⟨⟨k + 1, by omega, by go_num, allTo_succ hall hlt (keyB_yes (by omega))⟩, by simp [intOf]; omega⟩
    · go_wp2
      go_ret
      exact ⟨ret_bool (by rw [okB_done (allTo_all hall hlt)]; simp; omega), rfl⟩

set_option maxHeartbeats 400000 in
theorem textByte_any (c : UInt8) (w : World) :
    Calls Try.prog 193 #[.int .u8 c.toNat] w fun e w' => e = .returned (.bool (textB c)) ∧ w = w' := by
  go_enter Try.func193, Try.ntmps193
  go_wp2
  all_goals
    go_ret
    exact ⟨ret_bool (by rw [Bool.eq_iff_iff]; simp [textB]; omega), rfl⟩

set_option maxHeartbeats 400000 in
theorem keyByte_any (c : UInt8) (w : World) :
    Calls Try.prog 146 #[.int .u8 c.toNat] w fun e w' => e = .returned (.bool (keyB c)) ∧ w = w' := by
  go_enter Try.func146, Try.ntmps146
  go_wp2
  all_goals
    go_ret
    exact ⟨ret_bool (by rw [Bool.eq_iff_iff]; simp [keyB]; omega), rfl⟩

set_option maxHeartbeats 400000 in
theorem bytesOk_text (s : ByteArray) (w : World) (hs : s.size ≤ maxLen) :
    Calls Try.prog 145 #[.string s, .int .i64 8, .func (.func 193) #[] #[]] w fun e w' => e = .returned (.bool (okB textB 8 s)) ∧ w = w' := by
  unfold maxLen at hs
  by_cases hlong : 8 < s.size
  · go_enter Try.func145, Try.ntmps145
    go_wp2
    go_ret
    exact ⟨ret_bool (okB_long hlong).symm, rfl⟩
  · go_enter Try.func145, Try.ntmps145
    go_wp2
    go_loop [14] (fun i => ∃ k : Nat, k ≤ s.size ∧ i = .int .i64 k ∧ allTo textB s k) (fun i => s.size - (intOf i).toNat)
    case atStart => exact ⟨0, Nat.zero_le _, rfl, allTo_zero _ _⟩
    case round =>
      obtain ⟨k, hk, rfl, hall⟩ := hrel
      by_cases hlt : k < s.size
      · cases hp : textB s[k]
        all_goals
          go_wp2_with (go_at_call 193; refine (textByte_any _ _).mono ?_; rintro e w' ⟨rfl, rfl⟩)
          first
          | (go_ret; exact ⟨ret_bool (okB_bad hlt hp).symm, rfl⟩)
          | exact ⟨⟨k + 1, by omega, by go_num, allTo_succ hall hlt hp⟩, by simp [intOf]; omega⟩
      · go_wp2
        go_ret
        exact ⟨ret_bool (by rw [okB_done (allTo_all hall hlt)]; simp; omega), rfl⟩

set_option maxHeartbeats 400000 in
theorem bytesOk_key (s : ByteArray) (w : World) (hs : s.size ≤ maxLen) :
    Calls Try.prog 145 #[.string s, .int .i64 6, .func (.func 146) #[] #[]] w fun e w' => e = .returned (.bool (okB keyB 6 s)) ∧ w = w' := by
  unfold maxLen at hs
  by_cases hlong : 6 < s.size
  · go_enter Try.func145, Try.ntmps145
    go_wp2
    go_ret
    exact ⟨ret_bool (okB_long hlong).symm, rfl⟩
  · go_enter Try.func145, Try.ntmps145
    go_wp2
    go_loop [14] (fun i => ∃ k : Nat, k ≤ s.size ∧ i = .int .i64 k ∧ allTo keyB s k) (fun i => s.size - (intOf i).toNat)
    case atStart => exact ⟨0, Nat.zero_le _, rfl, allTo_zero _ _⟩
    case round =>
      obtain ⟨k, hk, rfl, hall⟩ := hrel
      by_cases hlt : k < s.size
      · cases hp : keyB s[k]
        all_goals
          go_wp2_with (go_at_call 146; refine (keyByte_any _ _).mono ?_; rintro e w' ⟨rfl, rfl⟩)
          first
          | (go_ret; exact ⟨ret_bool (okB_bad hlt hp).symm, rfl⟩)
          | exact ⟨⟨k + 1, by omega, by go_num, allTo_succ hall hlt hp⟩, by simp [intOf]; omega⟩
      · go_wp2
        go_ret
        exact ⟨ret_bool (by rw [okB_done (allTo_all hall hlt)]; simp; omega), rfl⟩

set_option maxHeartbeats 400000 in
theorem textOk_any (s : ByteArray) (w : World) (hs : s.size ≤ maxLen) :
    Calls Try.prog 176 #[.string s] w fun e w' => e = .returned (.bool (okB textB 8 s)) ∧ w = w' := by
  go_enter Try.func176, Try.ntmps176
  go_wp2_with (go_at_call 145; refine (bytesOk_text _ _ hs).mono ?_; rintro e w' ⟨rfl, rfl⟩)
  go_ret
  exact ⟨rfl, rfl⟩

set_option maxHeartbeats 400000 in
theorem prefixOk_any (s : ByteArray) (w : World) (hs : s.size ≤ maxLen) :
    Calls Try.prog 96 #[.string s] w fun e w' => e = .returned (.bool (okB keyB 6 s)) ∧ w = w' := by
  go_enter Try.func96, Try.ntmps96
  go_wp2_with (go_at_call 145; refine (bytesOk_key _ _ hs).mono ?_; rintro e w' ⟨rfl, rfl⟩)
  go_ret
  exact ⟨rfl, rfl⟩

def keyOkB (s : ByteArray) : Bool := !(s.toList.isEmpty) && okB keyB 6 s

theorem keyOkB_empty {s : ByteArray} (h : s.toList.isEmpty = true) : keyOkB s = false := by unfold keyOkB; rw [h]; rfl
theorem keyOkB_full {s : ByteArray} (h : s.toList.isEmpty = false) : keyOkB s = okB keyB 6 s := by unfold keyOkB; rw [h]; rfl

set_option maxHeartbeats 400000 in
theorem l1Key_any (s : ByteArray) (w : World) (hs : s.size ≤ maxLen) :
    Calls Try.prog 79 #[.string s] w fun e w' => e = .returned (.bool (keyOkB s)) ∧ w = w' := by
  cases hz : s.toList.isEmpty
  all_goals
    go_enter Try.func79, Try.ntmps79
    go_wp2_with (go_at_call 137; refine (l1Part_any _ _ hs).mono ?_; rintro e w' ⟨rfl, rfl⟩)
    go_ret
    first
    | exact ⟨ret_bool (keyOkB_empty hz).symm, rfl⟩
    | exact ⟨ret_bool (keyOkB_full hz).symm, rfl⟩

set_option maxHeartbeats 400000 in
theorem keyOk_any (s : ByteArray) (w : World) (hs : s.size ≤ maxLen) :
    Calls Try.prog 60 #[.string s] w fun e w' => e = .returned (.bool (keyOkB s)) ∧ w = w' := by
  cases hz : s.toList.isEmpty
  all_goals
    go_enter Try.func60, Try.ntmps60
    go_wp2_with (go_at_call 96; refine (prefixOk_any _ _ hs).mono ?_; rintro e w' ⟨rfl, rfl⟩)
    go_ret
    first
    | exact ⟨ret_bool (keyOkB_empty hz).symm, rfl⟩
    | exact ⟨ret_bool (keyOkB_full hz).symm, rfl⟩
end Go.Proofs.Ytjijichgoodocaa

/- When a map is ok, as the model says it. -/
namespace Go.Proofs.Ytjijichgoodocaa
open Go.RowKit

def inB (n lo hi : Int) : Bool := decide (lo ≤ n) && decide (n ≤ hi)
def verOkB (i : Int) (s : ByteArray) (g : Bool) : Bool := inB i 1 9999 && (okB textB 8 s && (!g || s.toList.isEmpty))

set_option maxHeartbeats 400000 in
theorem l1In_any (n lo hi : Int) (w : World) :
    Calls Try.prog 138 #[.int .i64 n, .int .i64 lo, .int .i64 hi] w fun e w' => e = .returned (.bool (inB n lo hi)) ∧ w = w' := by
  by_cases h1 : lo ≤ n <;> by_cases h2 : n ≤ hi
  all_goals
    go_enter Try.func138, Try.ntmps138
    go_wp2
    go_ret
    exact ⟨ret_bool (by simp [inB, h1, h2]), rfl⟩

set_option maxHeartbeats 1000000 in
theorem l2VerOk_any (i : Int) (s : ByteArray) (g : Bool) (w : World) (hs : s.size ≤ maxLen) :
    Calls Try.prog 80 #[.agg #[.int .i64 i, .string s, .bool g]] w fun e w' => e = .returned (.bool (verOkB i s g)) ∧ Below w.heap.size w w' := by
  cases hI : inB i 1 9999 <;> cases hT : okB textB 8 s <;> cases g <;> cases hz : s.toList.isEmpty
  all_goals
    go_enter Try.func80, Try.ntmps80
    go_wp2_with first
      | (go_at_call 138; refine (l1In_any _ _ _ _).mono ?_; rintro e w' ⟨rfl, rfl⟩; rw [hI])
      | (go_at_call 139; refine (l1Text_any _ _ hs).mono ?_; rintro e w' ⟨rfl, rfl⟩; rw [hT])
    go_ret
    exact ⟨ret_bool (by simp [verOkB, hI, hT, hz]), (Below.refl _ _).alloc (Nat.le_refl _) _⟩
end Go.Proofs.Ytjijichgoodocaa
