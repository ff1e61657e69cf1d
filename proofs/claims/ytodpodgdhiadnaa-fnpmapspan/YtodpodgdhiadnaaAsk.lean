/- When a question of a listing is ok: the model and the program say the same; its size and its copy. -/
import Derived.Test.YtodpodgdhiadnaaVmSpec
namespace Go.Proofs.Ytodpodgdhiadnaa
open Go.RowKit

theorem bcell {W w1 : World} (hb : Below W.heap.size W w1) : (∀ b o, b < W.heap.size → w1.cell? ⟨b, o, none⟩ = W.cell? ⟨b, o, none⟩) ∧ (∀ b o, b < W.heap.size → w1.frozen? ⟨b, o, none⟩ = W.frozen? ⟨b, o, none⟩) :=
  ⟨fun b o h => hb.cell (p := ⟨b, o, none⟩) h, fun b o h => hb.frozen (p := ⟨b, o, none⟩) h⟩
def askOkB (h a : ByteArray) (m : Int) : Bool := okB keyB 6 h && (okB keyB 6 a && inB m 1 5)

set_option maxHeartbeats 1000000 in
theorem l3AskOk_any (h a : ByteArray) (g : Bool) (m : Int) (w : World) (hs : h.size ≤ maxLen) (ha : a.size ≤ maxLen) :
    Calls Try.prog 105 #[.agg #[.string h, .string a, .bool g, .int .i64 m]] w fun e w' => e = .returned (.bool (askOkB h a m)) ∧ Below w.heap.size w w' := by
  cases hH : okB keyB 6 h <;> cases hA : okB keyB 6 a <;> cases hI : inB m 1 5
  all_goals
    go_enter Try.func105, Try.ntmps105
    go_wp2_with first
      | (go_at_call 136; refine (l1In_any _ _ _ _).mono ?_; rintro e w' ⟨rfl, rfl⟩; rw [hI])
      | (go_at_call 121; refine (l1Part_any _ _ (by assumption)).mono ?_; rintro e w' ⟨rfl, rfl⟩; first | rw [hH] | rw [hA])
    go_ret
    exact ⟨ret_bool (by first | (simp [askOkB, hH, hA, hI]; done) | (simp [askOkB, hH, hA, hI]; omega)), (Below.refl _ _).alloc (Nat.le_refl _) _⟩

set_option maxHeartbeats 1000000 in
theorem askOk_any (h a : ByteArray) (g : Bool) (m : Int) (w : World) (hs : h.size ≤ maxLen) (ha : a.size ≤ maxLen) :
    Calls Try.prog 108 #[.agg #[.string h, .string a, .bool g, .int .i64 m]] w fun e w' => e = .returned (.bool (askOkB h a m)) ∧ Below w.heap.size w w' := by
  have hm : (m < 1 ∧ inB m 1 5 = false) ∨ (1 ≤ m ∧ m ≤ 5 ∧ inB m 1 5 = true) ∨ (5 < m ∧ inB m 1 5 = false) := by
    by_cases h1 : m < 1
    · exact .inl ⟨h1, by simp [inB]; omega⟩
    · by_cases h2 : m ≤ 5
      · exact .inr (.inl ⟨by omega, h2, by simp [inB]; omega⟩)
      · exact .inr (.inr ⟨by omega, by simp [inB]; omega⟩)
  cases hH : okB keyB 6 h <;> cases hA : okB keyB 6 a <;> rcases hm with ⟨h1, hI⟩ | ⟨h1, h2, hI⟩ | ⟨h1, hI⟩
  all_goals
    go_enter Try.func108, Try.ntmps108
    go_wp2_with
      (go_at_call 123; refine (prefixOk_any _ _ (by assumption)).mono ?_; rintro e w' ⟨rfl, rfl⟩; first | rw [hH] | rw [hA])
    go_ret
    exact ⟨ret_bool (by first | (simp [askOkB, hH, hA, hI]; done) | (simp [askOkB, hH, hA, hI]; omega)), (Below.refl _ _).alloc (Nat.le_refl _) _⟩

set_option maxHeartbeats 1000000 in
theorem szAsk_any (h a : ByteArray) (g : Bool) (m : Int) (left : Int) (w : World) (hs : h.size ≤ maxLen) (ha : a.size ≤ maxLen) (h0 : 0 ≤ left) (hl : left ≤ 1048576) :
    Calls Try.prog 33 #[.agg #[.string h, .string a, .bool g, .int .i64 m], .int .i64 left] w (SzPost left (h.size + a.size) w) := by
  unfold maxLen at hs ha
  by_cases h1 : left < h.size
  · go_enter Try.func33, Try.ntmps33
    go_wp2
    go_ret
    exact ⟨-1, rfl, .inl rfl, (Below.refl _ _).alloc (Nat.le_refl _) _⟩
  · by_cases h2 : left - h.size < a.size
    · go_enter Try.func33, Try.ntmps33
      go_wp2
      go_ret
      exact ⟨-1, rfl, .inl rfl, (Below.refl _ _).alloc (Nat.le_refl _) _⟩
    · go_enter Try.func33, Try.ntmps33
      go_wp2
      go_ret
      exact ⟨left - h.size - a.size, rfl, .inr ⟨by omega, by omega⟩, (Below.refl _ _).alloc (Nat.le_refl _) _⟩

set_option maxHeartbeats 1000000 in
theorem toAsk_any (h a : ByteArray) (g : Bool) (m : Int) (w : World) :
    Calls Try.prog 36 #[.agg #[.string h, .string a, .bool g, .int .i64 m]] w fun e w' => e = .returned (.agg #[.string h, .string a, .bool g, .int .i64 m]) ∧ Below w.heap.size w w' := by
  go_enter Try.func36, Try.ntmps36
  go_wp2
  exact bodyPost_ret (v := .agg #[.string h, .string a, .bool g, .int .i64 m]) (by simp [results, Try.results36, go_sem]) rfl ⟨rfl, (((Below.refl _ _).alloc (Nat.le_refl _) _).alloc (by simp) _).alloc (by simp; omega) _⟩
end Go.Proofs.Ytodpodgdhiadnaa
