/- The new world: the law's helpers at slices of no element, at one part, at three bools. -/
import Derived.Test.YtncipibjlpfkhaaPmAt
import Derived.Test.YtncipibjlpfkhaaSpanB
namespace Go.Proofs.Ytncipibjlpfkhaa
open Go.RowKit

theorem below_drewN' {B : Nat} {a w : World} (h : Below B a w) (n : Nat) : Below B a (w.drewN n) := ⟨h.os, h.tape, h.output, h.size, h.block⟩

theorem eq0_StateS (w : World) : Calls Try.prog 74 #[.slice none 0 0, .slice none 0 0] w fun e w' => e = .returned (.bool true) ∧ w = w' := by
  go_enter Try.func74, Try.ntmps74
  go_wp2_with fail
  go_loop [5] (fun i => i = .int .i64 0) (fun _ => 0)
  case atStart => rfl
  case round =>
    obtain rfl := hrel
    go_wp2_with fail
    go_ret
    exact ⟨rfl, rfl⟩

theorem mark0_StateS (K : Int) (w : World) : Calls Try.prog 79 #[.slice none 0 0, .int .i64 K] w fun e w' => e = .returned (.int .i64 K) ∧ w = w' := by
  go_enter Try.func79, Try.ntmps79
  go_wp2_with fail
  go_loop [1, 5] (fun k i => k = .int .i64 K ∧ i = .int .i64 0) (fun _ _ => 0)
  case atStart => exact ⟨rfl, rfl⟩
  case round =>
    obtain ⟨rfl, rfl⟩ := hrel
    go_wp2_with fail
    go_ret
    exact ⟨rfl, rfl⟩

theorem held0_StateS (K : Int) (w : World) : Calls Try.prog 85 #[.slice none 0 0, .int .i64 K] w fun e w' => e = .returned (.int .i64 K) ∧ w = w' := by
  go_enter Try.func85, Try.ntmps85
  go_wp2_with fail
  go_loop [1, 5] (fun k i => k = .int .i64 K ∧ i = .int .i64 0) (fun _ _ => 0)
  case atStart => exact ⟨rfl, rfl⟩
  case round =>
    obtain ⟨rfl, rfl⟩ := hrel
    go_wp2_with fail
    go_ret
    exact ⟨rfl, rfl⟩

theorem eq0_LetterS (w : World) : Calls Try.prog 75 #[.slice none 0 0, .slice none 0 0] w fun e w' => e = .returned (.bool true) ∧ w = w' := by
  go_enter Try.func75, Try.ntmps75
  go_wp2_with fail
  go_loop [5] (fun i => i = .int .i64 0) (fun _ => 0)
  case atStart => rfl
  case round =>
    obtain rfl := hrel
    go_wp2_with fail
    go_ret
    exact ⟨rfl, rfl⟩

theorem mark0_LetterS (K : Int) (w : World) : Calls Try.prog 80 #[.slice none 0 0, .int .i64 K] w fun e w' => e = .returned (.int .i64 K) ∧ w = w' := by
  go_enter Try.func80, Try.ntmps80
  go_wp2_with fail
  go_loop [1, 5] (fun k i => k = .int .i64 K ∧ i = .int .i64 0) (fun _ _ => 0)
  case atStart => exact ⟨rfl, rfl⟩
  case round =>
    obtain ⟨rfl, rfl⟩ := hrel
    go_wp2_with fail
    go_ret
    exact ⟨rfl, rfl⟩

theorem held0_LetterS (K : Int) (w : World) : Calls Try.prog 86 #[.slice none 0 0, .int .i64 K] w fun e w' => e = .returned (.int .i64 K) ∧ w = w' := by
  go_enter Try.func86, Try.ntmps86
  go_wp2_with fail
  go_loop [1, 5] (fun k i => k = .int .i64 K ∧ i = .int .i64 0) (fun _ _ => 0)
  case atStart => exact ⟨rfl, rfl⟩
  case round =>
    obtain ⟨rfl, rfl⟩ := hrel
    go_wp2_with fail
    go_ret
    exact ⟨rfl, rfl⟩

theorem eq0_EntryS (w : World) : Calls Try.prog 31 #[.slice none 0 0, .slice none 0 0] w fun e w' => e = .returned (.bool true) ∧ w = w' := by
  go_enter Try.func31, Try.ntmps31
  go_wp2_with fail
  go_loop [5] (fun i => i = .int .i64 0) (fun _ => 0)
  case atStart => rfl
  case round =>
    obtain rfl := hrel
    go_wp2_with fail
    go_ret
    exact ⟨rfl, rfl⟩

theorem mark0_EntryS (K : Int) (w : World) : Calls Try.prog 81 #[.slice none 0 0, .int .i64 K] w fun e w' => e = .returned (.int .i64 K) ∧ w = w' := by
  go_enter Try.func81, Try.ntmps81
  go_wp2_with fail
  go_loop [1, 5] (fun k i => k = .int .i64 K ∧ i = .int .i64 0) (fun _ _ => 0)
  case atStart => exact ⟨rfl, rfl⟩
  case round =>
    obtain ⟨rfl, rfl⟩ := hrel
    go_wp2_with fail
    go_ret
    exact ⟨rfl, rfl⟩

theorem held0_EntryS (K : Int) (w : World) : Calls Try.prog 87 #[.slice none 0 0, .int .i64 K] w fun e w' => e = .returned (.int .i64 K) ∧ w = w' := by
  go_enter Try.func87, Try.ntmps87
  go_wp2_with fail
  go_loop [1, 5] (fun k i => k = .int .i64 K ∧ i = .int .i64 0) (fun _ _ => 0)
  case atStart => exact ⟨rfl, rfl⟩
  case round =>
    obtain ⟨rfl, rfl⟩ := hrel
    go_wp2_with fail
    go_ret
    exact ⟨rfl, rfl⟩

theorem eq0_ReadS (w : World) : Calls Try.prog 77 #[.slice none 0 0, .slice none 0 0] w fun e w' => e = .returned (.bool true) ∧ w = w' := by
  go_enter Try.func77, Try.ntmps77
  go_wp2_with fail
  go_loop [5] (fun i => i = .int .i64 0) (fun _ => 0)
  case atStart => rfl
  case round =>
    obtain rfl := hrel
    go_wp2_with fail
    go_ret
    exact ⟨rfl, rfl⟩

theorem mark0_ReadS (K : Int) (w : World) : Calls Try.prog 83 #[.slice none 0 0, .int .i64 K] w fun e w' => e = .returned (.int .i64 K) ∧ w = w' := by
  go_enter Try.func83, Try.ntmps83
  go_wp2_with fail
  go_loop [1, 5] (fun k i => k = .int .i64 K ∧ i = .int .i64 0) (fun _ _ => 0)
  case atStart => exact ⟨rfl, rfl⟩
  case round =>
    obtain ⟨rfl, rfl⟩ := hrel
    go_wp2_with fail
    go_ret
    exact ⟨rfl, rfl⟩

theorem held0_ReadS (K : Int) (w : World) : Calls Try.prog 89 #[.slice none 0 0, .int .i64 K] w fun e w' => e = .returned (.int .i64 K) ∧ w = w' := by
  go_enter Try.func89, Try.ntmps89
  go_wp2_with fail
  go_loop [1, 5] (fun k i => k = .int .i64 K ∧ i = .int .i64 0) (fun _ _ => 0)
  case atStart => exact ⟨rfl, rfl⟩
  case round =>
    obtain ⟨rfl, rfl⟩ := hrel
    go_wp2_with fail
    go_ret
    exact ⟨rfl, rfl⟩

theorem eq0_ObjS (w : World) : Calls Try.prog 218 #[.slice none 0 0, .slice none 0 0] w fun e w' => e = .returned (.bool true) ∧ w = w' := by
  go_enter Try.func218, Try.ntmps218
  go_wp2_with fail
  go_loop [5] (fun i => i = .int .i64 0) (fun _ => 0)
  case atStart => rfl
  case round =>
    obtain rfl := hrel
    go_wp2_with fail
    go_ret
    exact ⟨rfl, rfl⟩

theorem mark0_ObjS (K : Int) (w : World) : Calls Try.prog 160 #[.slice none 0 0, .int .i64 K] w fun e w' => e = .returned (.int .i64 K) ∧ w = w' := by
  go_enter Try.func160, Try.ntmps160
  go_wp2_with fail
  go_loop [1, 5] (fun k i => k = .int .i64 K ∧ i = .int .i64 0) (fun _ _ => 0)
  case atStart => exact ⟨rfl, rfl⟩
  case round =>
    obtain ⟨rfl, rfl⟩ := hrel
    go_wp2_with fail
    go_ret
    exact ⟨rfl, rfl⟩

theorem held0_ObjS (K : Int) (w : World) : Calls Try.prog 162 #[.slice none 0 0, .int .i64 K] w fun e w' => e = .returned (.int .i64 K) ∧ w = w' := by
  go_enter Try.func162, Try.ntmps162
  go_wp2_with fail
  go_loop [1, 5] (fun k i => k = .int .i64 K ∧ i = .int .i64 0) (fun _ _ => 0)
  case atStart => exact ⟨rfl, rfl⟩
  case round =>
    obtain ⟨rfl, rfl⟩ := hrel
    go_wp2_with fail
    go_ret
    exact ⟨rfl, rfl⟩

theorem eq0_TxnS (w : World) : Calls Try.prog 206 #[.slice none 0 0, .slice none 0 0] w fun e w' => e = .returned (.bool true) ∧ w = w' := by
  go_enter Try.func206, Try.ntmps206
  go_wp2_with fail
  go_loop [5] (fun i => i = .int .i64 0) (fun _ => 0)
  case atStart => rfl
  case round =>
    obtain rfl := hrel
    go_wp2_with fail
    go_ret
    exact ⟨rfl, rfl⟩

theorem mark0_TxnS (K : Int) (w : World) : Calls Try.prog 161 #[.slice none 0 0, .int .i64 K] w fun e w' => e = .returned (.int .i64 K) ∧ w = w' := by
  go_enter Try.func161, Try.ntmps161
  go_wp2_with fail
  go_loop [1, 5] (fun k i => k = .int .i64 K ∧ i = .int .i64 0) (fun _ _ => 0)
  case atStart => exact ⟨rfl, rfl⟩
  case round =>
    obtain ⟨rfl, rfl⟩ := hrel
    go_wp2_with fail
    go_ret
    exact ⟨rfl, rfl⟩

theorem held0_TxnS (K : Int) (w : World) : Calls Try.prog 163 #[.slice none 0 0, .int .i64 K] w fun e w' => e = .returned (.int .i64 K) ∧ w = w' := by
  go_enter Try.func163, Try.ntmps163
  go_wp2_with fail
  go_loop [1, 5] (fun k i => k = .int .i64 K ∧ i = .int .i64 0) (fun _ _ => 0)
  case atStart => exact ⟨rfl, rfl⟩
  case round =>
    obtain ⟨rfl, rfl⟩ := hrel
    go_wp2_with fail
    go_ret
    exact ⟨rfl, rfl⟩

set_option maxHeartbeats 1000000 in
theorem eqBool3 (b1 b2 : Nat) (x0 x1 x2 : Bool) (w : World) (c0 : w.cell? ⟨b1, 0, none⟩ = some (.bool x0)) (c1 : w.cell? ⟨b1, 1, none⟩ = some (.bool x1)) (c2 : w.cell? ⟨b1, 2, none⟩ = some (.bool x2)) (d0 : w.cell? ⟨b2, 0, none⟩ = some (.bool x0)) (d1 : w.cell? ⟨b2, 1, none⟩ = some (.bool x1)) (d2 : w.cell? ⟨b2, 2, none⟩ = some (.bool x2)) :
    Calls Try.prog 76 #[.slice (some ⟨b1, 0, none⟩) 3 3, .slice (some ⟨b2, 0, none⟩) 3 3] w fun e w' => e = .returned (.bool true) ∧ Below w.heap.size w w' := by
  have HC := Lib.hid (show ∀ k, k < 3 → ∃ x, w.cell? ⟨b1, k, none⟩ = some (.bool x) ∧ w.cell? ⟨b2, k, none⟩ = some (.bool x) by
    intro k hk
    have : k = 0 ∨ k = 1 ∨ k = 2 := by omega
    rcases this with rfl | rfl | rfl
    · exact ⟨x0, c0, d0⟩
    · exact ⟨x1, c1, d1⟩
    · exact ⟨x2, c2, d2⟩)
  clear c0 c1 c2 d0 d1 d2
  go_enter Try.func76, Try.ntmps76
  go_wp2_with fail
  go_loopw [5] (fun i wr => ∃ k : Nat, k ≤ 3 ∧ i = .int .i64 (k : Int) ∧ Below w.heap.size w wr ∧ (∀ j, wr.cell? ⟨b1, j, none⟩ = w.cell? ⟨b1, j, none⟩) ∧ (∀ j, wr.cell? ⟨b2, j, none⟩ = w.cell? ⟨b2, j, none⟩)) (fun i _ => 3 - (intOf i).toNat)
  case atStart => exact ⟨0, by omega, rfl, Below.refl _ _, fun _ => rfl, fun _ => rfl⟩
  case round =>
    obtain ⟨k, hk, rfl, hB, h1, h2⟩ := hrel
    have HB := Lib.hid hB
    have H1 := Lib.hid h1
    have H2 := Lib.hid h2
    clear hB h1 h2
    by_cases hlt : k < 3
    · obtain ⟨x, e1, e2⟩ := HC.out k hlt
      have q1 : (0 : Int) ≤ (k : Int) := by omega
      have q2 : (k : Int) < 3 := by omega
      have f1 := (H1.out k).trans e1
      have f2 := (H2.out k).trans e2
      clear e1 e2
      go_wp2_with fail
      go_quiet (fail)
      go_wp2_with fail
      all_goals
        go_roundw
        case rel => exact ⟨k + 1, by omega, by go_num, below_drewN' HB.out _, fun j => H1.out j, fun j => H2.out j⟩
        case measure => simp [intOf]; omega
    · obtain rfl : k = 3 := by omega
      go_wp2_with fail
      go_ret
      exact ⟨rfl, HB.out⟩

/-- The marks of three bools from k on. -/
def mb (k : Nat) : Bool := decide (k % 3 = 0)

set_option maxHeartbeats 1000000 in
theorem markBool3 (b k : Nat) (v0 v1 v2 : Value) (w : World) (c0 : w.cell? ⟨b, 0, none⟩ = some v0) (c1 : w.cell? ⟨b, 1, none⟩ = some v1) (c2 : w.cell? ⟨b, 2, none⟩ = some v2) (f0 : w.frozen? ⟨b, 0, none⟩ = false) (f1 : w.frozen? ⟨b, 1, none⟩ = false) (f2 : w.frozen? ⟨b, 2, none⟩ = false) (hk : k ≤ 1000) :
    Calls Try.prog 82 #[.slice (some ⟨b, 0, none⟩) 3 3, .int .i64 (k : Int)] w fun e w' => e = .returned (.int .i64 ((k + 3 : Nat) : Int)) ∧ w'.cell? ⟨b, 0, none⟩ = some (.bool (mb k)) ∧ w'.cell? ⟨b, 1, none⟩ = some (.bool (mb (k + 1))) ∧ w'.cell? ⟨b, 2, none⟩ = some (.bool (mb (k + 2))) ∧ Turned (fun x => x = b) w w' := by
  have HC := Lib.hid (show ∀ i, i < 3 → (∃ v, w.cell? ⟨b, i, none⟩ = some v) ∧ w.frozen? ⟨b, i, none⟩ = false by
    intro i hi
    have : i = 0 ∨ i = 1 ∨ i = 2 := by omega
    rcases this with rfl | rfl | rfl
    · exact ⟨⟨v0, c0⟩, f0⟩
    · exact ⟨⟨v1, c1⟩, f1⟩
    · exact ⟨⟨v2, c2⟩, f2⟩)
  clear c0 c1 c2 f0 f1 f2
  go_enter Try.func82, Try.ntmps82
  go_wp2_with fail
  go_loopw [1, 5] (fun l i wr => ∃ j : Nat, j ≤ 3 ∧ i = .int .i64 (j : Int) ∧ l = .int .i64 ((k + j : Nat) : Int) ∧ Turned (fun x => x = b) w wr ∧ (∀ i, i < 3 → (∃ v, wr.cell? ⟨b, i, none⟩ = some v) ∧ wr.frozen? ⟨b, i, none⟩ = false) ∧ (∀ i, i < j → wr.cell? ⟨b, i, none⟩ = some (.bool (mb (k + i))))) (fun _ i _ => 3 - (intOf i).toNat)
  case atStart => exact ⟨0, by omega, rfl, rfl, Turned.refl _ _, HC.out, fun i h => absurd h (by omega)⟩
  case round =>
    obtain ⟨j, hj, rfl, rfl, hT, hO, hM⟩ := hrel
    have HT := Lib.hid hT
    have HO := Lib.hid hO
    have HM := Lib.hid hM
    clear hT hO hM
    by_cases hlt : j < 3
    · obtain ⟨⟨v, e1⟩, e2⟩ := HO.out j hlt
      have q1 : (0 : Int) ≤ (j : Int) := by omega
      have q2 : (j : Int) < 3 := by omega
      have hm : (((k + j : Nat) : Int) % 3 == 0) = mb (k + j) := by unfold mb; rw [Bool.eq_iff_iff]; simp; omega
      have hlt2 : b < wr.heap.size := World.block_lt_of_cell? wr _ e1
      obtain ⟨M, hMM⟩ : ∃ M : Int, ((k + j : Nat) : Int) = M := ⟨_, rfl⟩
      have HMM := Lib.hid hMM
      have m1 : 0 ≤ M := by omega
      have m2 : M ≤ 1003 := by omega
      rw [hMM] at hm
      rw [hMM]
      clear hMM
      go_wp2_with fail
      refine ⟨⟨j + 1, by omega, by go_num, congrArg (Value.int IntKind.i64) (by rw [← HMM.out]; omega), HT.out.setCell (p := ⟨b, j, none⟩) rfl _, fun i hi => ?_, fun i hi => ?_⟩, by simp [intOf]; omega⟩
      · by_cases e : i = j
        · subst e; exact ⟨⟨.bool (mb (k + i)), by simp [go_sem, e1, hlt2]⟩, by simp [go_sem, e2]⟩
        · obtain ⟨⟨u, hu⟩, hfu⟩ := HO.out i hi
          exact ⟨⟨u, (World.cell?_setCell_other _ _ _ _ (by intro h; cases h; exact e rfl)).trans hu⟩, by simp [go_sem]; exact hfu⟩
      · by_cases e : i = j
        · subst e; simp [go_sem, e1, hlt2]
        · exact (World.cell?_setCell_other _ _ _ _ (by intro h; cases h; exact e rfl)).trans (HM.out i (by omega))
    · obtain rfl : j = 3 := by omega
      go_wp2_with fail
      go_ret
      exact ⟨rfl, HM.out 0 (by omega), HM.out 1 (by omega), HM.out 2 (by omega), HT.out⟩

set_option maxHeartbeats 1000000 in
theorem heldBool3 (b k : Nat) (w : World) (c0 : w.cell? ⟨b, 0, none⟩ = some (.bool (mb k))) (c1 : w.cell? ⟨b, 1, none⟩ = some (.bool (mb (k + 1)))) (c2 : w.cell? ⟨b, 2, none⟩ = some (.bool (mb (k + 2)))) (hk : k ≤ 1000) :
    Calls Try.prog 88 #[.slice (some ⟨b, 0, none⟩) 3 3, .int .i64 (k : Int)] w fun e w' => e = .returned (.int .i64 ((k + 3 : Nat) : Int)) ∧ Below w.heap.size w w' := by
  have HC := Lib.hid (show ∀ i, i < 3 → w.cell? ⟨b, i, none⟩ = some (.bool (mb (k + i))) by
    intro i hi
    have : i = 0 ∨ i = 1 ∨ i = 2 := by omega
    rcases this with rfl | rfl | rfl
    · exact c0
    · exact c1
    · exact c2)
  clear c0 c1 c2
  go_enter Try.func88, Try.ntmps88
  go_wp2_with fail
  go_loopw [1, 5] (fun l i wr => ∃ j : Nat, j ≤ 3 ∧ i = .int .i64 (j : Int) ∧ l = .int .i64 ((k + j : Nat) : Int) ∧ Below w.heap.size w wr ∧ (∀ i, wr.cell? ⟨b, i, none⟩ = w.cell? ⟨b, i, none⟩)) (fun _ i _ => 3 - (intOf i).toNat)
  case atStart => exact ⟨0, by omega, rfl, rfl, Below.refl _ _, fun _ => rfl⟩
  case round =>
    obtain ⟨j, hj, rfl, rfl, hT, hO⟩ := hrel
    have HT := Lib.hid hT
    have HO := Lib.hid hO
    clear hT hO
    by_cases hlt : j < 3
    · have e1 := (HO.out j).trans (HC.out j hlt)
      have q1 : (0 : Int) ≤ (j : Int) := by omega
      have q2 : (j : Int) < 3 := by omega
      have hm : (((k + j : Nat) : Int) % 3 == 0) = mb (k + j) := by unfold mb; rw [Bool.eq_iff_iff]; simp; omega
      have hm2 : (mb (k + j) != mb (k + j)) = false := by simp
      obtain ⟨M, hMM⟩ : ∃ M : Int, ((k + j : Nat) : Int) = M := ⟨_, rfl⟩
      have HMM := Lib.hid hMM
      have m1 : 0 ≤ M := by omega
      have m2 : M ≤ 1003 := by omega
      rw [hMM] at hm
      rw [hMM]
      clear hMM
      have hr : M.tmod 3 = M % 3 := Int.tmod_eq_emod_of_nonneg m1
      go_wp2_with fail
      (try go_quiet (fail))
      all_goals
        (try go_wp2_with fail)
        refine ⟨⟨j + 1, by omega, by go_num, congrArg (Value.int IntKind.i64) (by rw [← HMM.out]; omega), ?_, fun i => HO.out i⟩, by simp [intOf]; omega⟩
        first | exact below_drewN' HT.out _ | exact HT.out
    · obtain rfl : j = 3 := by omega
      go_wp2_with fail
      go_ret
      exact ⟨rfl, HT.out⟩

theorem eqVmap0 (w : World) : Calls Try.prog 205 #[.agg #[.slice none 0 0], .agg #[.slice none 0 0]] w fun e w' => e = .returned (.bool true) ∧ Below w.heap.size w w' := by
  go_enter Try.func205, Try.ntmps205
  go_wp2_with (go_at_call 218; refine (eq0_ObjS _).mono ?_; rintro e w4 ⟨rfl, rfl⟩)
  go_ret
  exact ⟨rfl, ((Below.refl _ _).alloc (Nat.le_refl _) _).alloc (by simp) _⟩

set_option maxHeartbeats 1000000 in
theorem eqPart0 (w : World) : Calls Try.prog 156 #[.agg #[.string ⟨#[]⟩, .string ⟨#[]⟩, .slice none 0 0, .slice none 0 0], .agg #[.string ⟨#[]⟩, .string ⟨#[]⟩, .slice none 0 0, .slice none 0 0]] w fun e w' => e = .returned (.bool true) ∧ Below w.heap.size w w' := by
  obtain ⟨W1, hW1⟩ : ∃ W1, (w.alloc (.cells #[.string ⟨#[]⟩, .string ⟨#[]⟩, .slice none 0 0, .slice none 0 0] 126)).alloc (.cells #[.string ⟨#[]⟩, .string ⟨#[]⟩, .slice none 0 0, .slice none 0 0] 126) = W1 := ⟨_, rfl⟩
  have HB : Below w.heap.size w W1 := by rw [← hW1]; exact ((Below.refl _ _).alloc (Nat.le_refl _) _).alloc (by simp) _
  have z1 : w.heap.size + 1 < W1.heap.size := by rw [← hW1]; simp
  have z0 : w.heap.size < W1.heap.size := by omega
  have a2 : W1.cell? ⟨w.heap.size, 2, none⟩ = some (.slice none 0 0) := by rw [← hW1]; simp [go_sem]
  have a3 : W1.cell? ⟨w.heap.size, 3, none⟩ = some (.slice none 0 0) := by rw [← hW1]; simp [go_sem]
  have b2 : W1.cell? ⟨w.heap.size + 1, 2, none⟩ = some (.slice none 0 0) := by rw [← hW1]; simp [go_sem]
  have b3 : W1.cell? ⟨w.heap.size + 1, 3, none⟩ = some (.slice none 0 0) := by rw [← hW1]; simp [go_sem]
  have a0 : W1.cell? ⟨w.heap.size, 0, none⟩ = some (.string ⟨#[]⟩) := by rw [← hW1]; simp [go_sem]
  have a1 : W1.cell? ⟨w.heap.size, 1, none⟩ = some (.string ⟨#[]⟩) := by rw [← hW1]; simp [go_sem]
  have b0 : W1.cell? ⟨w.heap.size + 1, 0, none⟩ = some (.string ⟨#[]⟩) := by rw [← hW1]; simp [go_sem]
  have b1 : W1.cell? ⟨w.heap.size + 1, 1, none⟩ = some (.string ⟨#[]⟩) := by rw [← hW1]; simp [go_sem]
  go_enter Try.func156, Try.ntmps156
  go_wp2_with fail
  clear hW1
  refine (eqSpan_same _ _ _).mono ?_
  rintro e w2 ⟨rfl, hb⟩
  have c2 := (hb.cell (p := ⟨w.heap.size, 2, none⟩) z0).trans a2
  have c3 := (hb.cell (p := ⟨w.heap.size, 3, none⟩) z0).trans a3
  have d2 := (hb.cell (p := ⟨w.heap.size + 1, 2, none⟩) z1).trans b2
  have d3 := (hb.cell (p := ⟨w.heap.size + 1, 3, none⟩) z1).trans b3
  have y0 : w.heap.size < w2.heap.size := Nat.lt_of_lt_of_le z0 hb.size
  have y1 : w.heap.size + 1 < w2.heap.size := Nat.lt_of_lt_of_le z1 hb.size
  have HB2 := Lib.hid (HB.trans (hb.mono HB.size))
  clear hb a0 a1 a2 a3 b0 b1 b2 b3 HB
  go_wp2_with fail
  refine (eqVmap0 _).mono ?_
  rintro e w3 ⟨rfl, hb⟩
  have e3 := (hb.cell (p := ⟨w.heap.size, 3, none⟩) y0).trans c3
  have f3 := (hb.cell (p := ⟨w.heap.size + 1, 3, none⟩) y1).trans d3
  have HB3 := Lib.hid (HB2.out.trans (hb.mono HB2.out.size))
  clear hb c2 c3 d2 d3
  go_wp2_with (go_at_call 206; refine (eq0_TxnS _).mono ?_; rintro e w4 ⟨rfl, rfl⟩)
  go_ret
  exact ⟨rfl, HB3.out⟩
end Go.Proofs.Ytncipibjlpfkhaa
