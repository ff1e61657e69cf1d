/- Contracts of the functions on spans, the second part: whether a key is in a span; sizes, copies and comparisons of spans. -/
import Derived.Test.YtmabffdocofijaaSpan
import Derived.Test.YtmabffdocofijaaValid
namespace Go.Proofs.Ytmabffdocofijaa
open Go.RowKit

theorem spanOk_is {lo hi : ByteArray} {b : Bool} (h : spanOkB lo hi = b) (hlo : lo.size ≤ maxLen) (hhi : hi.size ≤ maxLen) (w : World) :
    Calls Try.prog 63 #[.agg #[.string lo, .string hi]] w fun e w' => e = .returned (.bool b) ∧ Below w.heap.size w w' := by rw [← h]; exact spanOk_any lo hi w hlo hhi

theorem l1SpanOk_is {lo hi : ByteArray} {b : Bool} (h : spanOkB lo hi = b) (hlo : lo.size ≤ maxLen) (hhi : hi.size ≤ maxLen) (w : World) :
    Calls Try.prog 76 #[.agg #[.string lo, .string hi]] w fun e w' => e = .returned (.bool b) ∧ Below w.heap.size w w' := by rw [← h]; exact l1SpanOk_any lo hi w hlo hhi

def spanHasB (lo hi key : ByteArray) : Bool := spanOkB lo hi && keyOkB key && hasB lo hi key

theorem bsize {B : Nat} {W w1 : World} (hb : Below B W w1) : W.heap.size ≤ w1.heap.size := hb.size

set_option maxHeartbeats 1000000 in
theorem spanHas_any (lo hi key : ByteArray) (w : World) (hlo : lo.size ≤ maxLen) (hhi : hi.size ≤ maxLen) (hkey : key.size ≤ maxLen) :
    Calls Try.prog 69 #[.agg #[.string lo, .string hi], .string key] w fun e w' => e = .returned (.bool (spanHasB lo hi key)) ∧ Below w.heap.size w w' := by
  cases h1 : spanOkB lo hi
  · have hfin : Hid (spanHasB lo hi key = false) := by show _ = _; simp [spanHasB, h1]
    go_enter Try.func69, Try.ntmps69
    go_wp2_with (go_at_call 63; refine (spanOk_is h1 hlo hhi _).mono ?_; rintro e w' ⟨rfl, hb⟩)
    go_ret
    exact ⟨ret_bool (by rw [hfin.out]), ((Below.refl _ _).alloc (Nat.le_refl _) _).trans (hb.mono (by simp))⟩
  · cases h2 : keyOkB key
    · have hfin : Hid (spanHasB lo hi key = false) := by show _ = _; simp [spanHasB, h2]
      go_enter Try.func69, Try.ntmps69
      go_wp2_with (first | (go_at_call 63; refine (spanOk_is h1 hlo hhi _).mono ?_; rintro e w' ⟨rfl, hb⟩) | (go_at_call 101; refine (keyOk_is h2 hkey _).mono ?_; rintro e w' ⟨rfl, rfl⟩))
      go_ret
      exact ⟨ret_bool (by rw [hfin.out]), ((Below.refl _ _).alloc (Nat.le_refl _) _).trans (hb.mono (by simp))⟩
    · have hfin : Hid (spanHasB lo hi key = hasB lo hi key) := by show _ = _; simp [spanHasB, h1, h2]
      go_enter Try.func69, Try.ntmps69
      go_wp2_with (first | (go_at_call 63; refine (spanOk_is h1 hlo hhi _).mono ?_; rintro e w' ⟨rfl, hb⟩; obtain ⟨hc, hf⟩ := bcell hb) | (go_at_call 101; refine (keyOk_is h2 hkey _).mono ?_; rintro e w' ⟨rfl, rfl⟩) | (go_at_call 140; refine (has_any _ _ _ _).mono ?_; rintro e w'' ⟨rfl, hb2⟩))
      go_ret
      exact ⟨ret_bool (by rw [hfin.out]), (((Below.refl _ _).alloc (Nat.le_refl _) _).trans (hb.mono (by simp))).trans (hb2.mono (by have := hb.size; simp at this; omega))⟩

theorem ret_int {k : IntKind} {a b : Int} (h : a = b) : Ending.returned (.int k a) = .returned (.int k b) := by rw [h]
def szSpanZ (lo hi : ByteArray) (left : Int) : Int := if left < lo.size then -1 else if left < lo.size + hi.size then -1 else left - lo.size - hi.size

set_option maxHeartbeats 1000000 in
theorem szSpan_any (lo hi : ByteArray) (left : Int) (w : World) (hlo : lo.size ≤ maxLen) (hhi : hi.size ≤ maxLen) (h0 : 0 ≤ left) (hl : left ≤ 1048576) :
    Calls Try.prog 16 #[.agg #[.string lo, .string hi], .int .i64 left] w fun e w' => e = .returned (.int .i64 (szSpanZ lo hi left)) ∧ Below w.heap.size w w' := by
  unfold maxLen at hlo hhi
  by_cases h1 : left < lo.size
  · have hfin : Hid (szSpanZ lo hi left = -1) := by show _ = _; simp [szSpanZ, h1]
    go_enter Try.func16, Try.ntmps16
    go_wp2
    go_ret
    exact ⟨ret_int hfin.out.symm, (Below.refl _ _).alloc (Nat.le_refl _) _⟩
  · by_cases h2 : left < lo.size + hi.size
    · have hfin : Hid (szSpanZ lo hi left = -1) := by show _ = _; simp [szSpanZ, h1, h2]
      go_enter Try.func16, Try.ntmps16
      go_wp2
      go_ret
      exact ⟨ret_int hfin.out.symm, (Below.refl _ _).alloc (Nat.le_refl _) _⟩
    · have hfin : Hid (szSpanZ lo hi left = left - lo.size - hi.size) := by show _ = _; simp [szSpanZ, h1, h2]
      go_enter Try.func16, Try.ntmps16
      go_wp2
      go_ret
      exact ⟨ret_int hfin.out.symm, (Below.refl _ _).alloc (Nat.le_refl _) _⟩

set_option maxHeartbeats 1000000 in
theorem toSpan_any (lo hi : ByteArray) (w : World) :
    Calls Try.prog 19 #[.agg #[.string lo, .string hi]] w fun e w' => e = .returned (.agg #[.string lo, .string hi]) ∧ Below w.heap.size w w' := by
  go_enter Try.func19, Try.ntmps19
  go_wp2
  exact bodyPost_ret (v := .agg #[.string lo, .string hi]) (by simp [results, Try.results19, go_sem]) rfl ⟨rfl, (((Below.refl _ _).alloc (Nat.le_refl _) _).alloc (by simp) _).alloc (by simp; omega) _⟩
end Go.Proofs.Ytmabffdocofijaa
