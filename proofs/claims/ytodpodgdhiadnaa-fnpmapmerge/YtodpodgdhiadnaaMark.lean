/- The text of a mark. -/
import Derived.Test.YtodpodgdhiadnaaVmToB
import Derived.Laws.BytesArg
namespace Go.Proofs.Ytodpodgdhiadnaa
open Go.RowKit

def mtLoop (k : Nat) (s : ByteArray) : ByteArray := if k = 0 then s else mtLoop (k / 10) (strOfNums [48 + (k : Int) % 10] ++ s)
termination_by k
def mtext (k : Nat) : ByteArray := ⟨#[109]⟩ ++ mtLoop k ⟨#[]⟩
theorem mtLoop_zero (s : ByteArray) : mtLoop 0 s = s := by rw [mtLoop]; simp
theorem mtLoop_pos {k : Nat} (h : 0 < k) (s : ByteArray) : mtLoop k s = mtLoop (k / 10) (strOfNums [48 + (k : Int) % 10] ++ s) := by
  conv => lhs; rw [mtLoop]
  rw [if_neg (by omega)]

theorem run_digit (z : Int) (u : World) : (convert 77 9 (.slice (some ⟨u.heap.size, 0, none⟩) 1 1)).run Try.prog (u.alloc (.cells #[.int .u8 z] 5)) = .ok (.string (strOfNums [z])) (u.alloc (.cells #[.int .u8 z] 5)) :=
  run_convert_bytes_arg _ 77 5 Try.underlying77 Try.underlying5 u.heap.size 0 1 1 [z] rfl (fun i hi => by
    obtain rfl : i = 0 := by omega
    simp) 9 Try.underlying9

set_option maxRecDepth 100000 in
set_option maxHeartbeats 1000000 in
theorem markText_any (k : Nat) (w : World) (h1 : 1 ≤ k) (h2 : k ≤ 100000000) :
    Calls Try.prog 185 #[.int .i64 (k : Int)] w fun e w' => e = .returned (.string (mtext k)) ∧ Below w.heap.size w w' := by
  go_enter Try.func185, Try.ntmps185
  go_wp2_with fail
  go_loopw [0, 3] (fun a o wr => ∃ (j : Nat) (s : ByteArray), s.size + j ≤ k ∧ a = .int .i64 j ∧ o = .string s ∧ mtLoop k ⟨#[]⟩ = mtLoop j s ∧ Below w.heap.size w wr) (fun a _ _ => (intOf a).toNat)
  case atStart => exact ⟨k, ⟨#[]⟩, by show 0 + k ≤ k; omega, rfl, rfl, rfl, Below.refl _ _⟩
  case round =>
    obtain ⟨j, s, hj, rfl, rfl, hE, hB⟩ := hrel
    have HB := Lib.hid hB
    have HE := Lib.hid hE
    clear hB hE
    by_cases hlt : 0 < j
    · have hcv := run_digit (48 + (j : Int) % 10)
      have hsz : (strOfNums [48 + (j : Int) % 10]).size = 1 := rfl
      go_wp2_with fail
      go_roundw
      case rel => exact ⟨j / 10, strOfNums [48 + (j : Int) % 10] ++ s, by rw [ByteArray.size_append, hsz]; omega, by go_num, rfl, by rw [HE.out, mtLoop_pos hlt], HB.out.alloc HB.out.size _⟩
      case measure => simp [intOf]; omega
    · obtain rfl : j = 0 := by omega
      go_wp2_with fail
      go_ret
      exact ⟨by rw [mtext, HE.out, mtLoop_zero]; rfl, HB.out⟩
end Go.Proofs.Ytodpodgdhiadnaa
