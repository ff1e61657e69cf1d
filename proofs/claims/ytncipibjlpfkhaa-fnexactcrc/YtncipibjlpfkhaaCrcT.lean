/- The checksum's table, built by a deferred function; the program's checksum. -/
import Derived.Test.YtncipibjlpfkhaaCrcW
namespace Go.Proofs.Ytncipibjlpfkhaa
open Go.RowKit

def tblAt (k j : Nat) : Value := .int .u32 (if j < k then (crcN 8 j : Int) else 0)
def tbl (k : Nat) : Array Value := Array.ofFn (n := 256) (fun j => tblAt k j.val)
theorem tbl_size (k : Nat) : (tbl k).size = 256 := by simp [tbl]
theorem tbl_at {k j : Nat} (h : j < 256) : (tbl k)[j]? = some (tblAt k j) := by simp [tbl, h]
theorem tbl_set {k : Nat} (h : k < 256) : (tbl k).setIfInBounds k (.int .u32 (crcN 8 k : Int)) = tbl (k + 1) := by
  apply Array.ext_getElem?
  intro i
  rw [Array.getElem?_setIfInBounds, tbl_size]
  by_cases e : k = i
  · subst e; rw [if_pos rfl, if_pos h, tbl_at h, tblAt, if_pos (by omega)]
  · rw [if_neg e]
    by_cases hi : i < 256
    · rw [tbl_at hi, tbl_at hi, tblAt, tblAt]
      by_cases hk : i < k
      · rw [if_pos hk, if_pos (by omega)]
      · rw [if_neg hk, if_neg (by omega)]
    · rw [Array.getElem?_eq_none (by rw [tbl_size]; omega), Array.getElem?_eq_none (by rw [tbl_size]; omega)]
theorem tbl_one (k : Nat) : (tbl k).all (·.oneCell') = true := by
  rw [Array.all_eq_true]
  intro i hi
  simp [tbl, tblAt, Value.oneCell']
theorem setCell_new (w : World) (c : Array Value) (t : TypeId) (j : Nat) (v : Value) : (w.alloc (.cells c t)).setCell ⟨w.heap.size, j, none⟩ v = w.alloc (.cells (c.setIfInBounds j v) t) := by
  rw [setCell_eq_setRow _ _ _ c t (0, 0) v (heap_alloc_last w _), World.setRow_alloc_new]

set_option maxHeartbeats 1000000 in
theorem fill_deferred (w : World) (u : FrameMode) :
    CallsD Try.prog 149 #[.pointer (some ⟨w.heap.size, 0, none⟩)] u (w.alloc (.cells (tbl 0) 112)) fun e u' w' => u' = u ∧ (e = .returned (.tuple #[]) ∧ w' = w.alloc (.cells (tbl 256) 112)) := by
  go_enter_d Try.func149, Try.ntmps149
  go_wp2
  go_loopw [2] (fun s wr => ∃ k : Nat, k ≤ 256 ∧ s = .int .i64 (k : Int) ∧ wr = w.alloc (.cells (tbl k) 112)) (fun s _ => 256 - (intOf s).toNat)
  case atStart => exact ⟨0, Nat.zero_le _, rfl, rfl⟩
  case round =>
    obtain ⟨k, hk, rfl, rfl⟩ := hrel
    by_cases hlt : k < 256
    · have hlt' : (k : Int) < 256 := by omega
      have hu : IntKind.u32.wrap (k : Int) = (k : Int) := by rw [IntKind.wrap_u32]; omega
      have hcell := tbl_at (k := k) hlt
      go_wp2_with (go_at_call 150; refine (crcOfByte_any k (by omega) _).mono ?_; rintro e w' ⟨rfl, rfl⟩)
      exact ⟨⟨k + 1, by omega, by go_num, by rw [tbl_set hlt]⟩, by simp [intOf]; omega⟩
    · obtain rfl : k = 256 := by omega
      go_wp2
      go_end0
      first | exact ⟨rfl, rfl⟩ | exact rfl | simp
end Go.Proofs.Ytncipibjlpfkhaa
