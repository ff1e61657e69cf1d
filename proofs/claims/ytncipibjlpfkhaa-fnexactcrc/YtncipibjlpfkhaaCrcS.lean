/- The program's checksum over the table. -/
import Derived.Test.YtncipibjlpfkhaaCrcU
namespace Go.Proofs.Ytncipibjlpfkhaa
open Go.RowKit

theorem crcTo_table (s : ByteArray) (k : Nat) : crcTo s (k + 1) = crcN 8 ((crcTo s k % 256) ^^^ byteAt s k) ^^^ (crcTo s k / 256) := crcN_table _ _

theorem below_drewN {B : Nat} {a w : World} (h : Below B a w) (n : Nat) : Below B a (w.drewN n) := ⟨h.os, h.tape, h.output, h.size, h.block⟩
theorem ret_int' {k : IntKind} {a b : Int} (h : a = b) : Ending.returned (.int k a) = .returned (.int k b) := by rw [h]
theorem crc_end (s : ByteArray) : wrap64 (bits .xor .u32 IntKind.u32.max (crcTo s s.size : Int)) = (crcOf s : Int) := by
  have h := u32_xor_nat 4294967295 (crcTo s s.size) (by omega) (crcTo_lt s _)
  have h2 : crcOf s < 4294967296 := Nat.xor_lt_two_pow (n := 32) (crcTo_lt s _) (by omega)
  rw [show bits .xor .u32 IntKind.u32.max (crcTo s s.size : Int) = _ from h, Nat.xor_comm]
  exact wrap64_small h2

set_option maxHeartbeats 1000000 in
theorem crcSum_any (g : Nat) (s : ByteArray) (w : World) (hs : s.size ≤ maxLen) (hc : ∀ j, j < 256 → w.cell? ⟨g, j, none⟩ = some (tblAt 256 j)) :
    Calls Try.prog 68 #[.pointer (some ⟨g, 0, none⟩), .string s] w fun e w' => e = .returned (.int .i64 (crcOf s : Int)) ∧ Below w.heap.size w w' := by
  unfold maxLen at hs
  have HC := Lib.hid hc
  clear hc
  go_enter Try.func68, Try.ntmps68
  go_wp2
  go_loopw [5, 9] (fun c i wr => ∃ k : Nat, k ≤ s.size ∧ i = .int .i64 (k : Int) ∧ c = .int .u32 (crcTo s k : Int) ∧ Below w.heap.size w wr ∧ ∀ j, wr.cell? ⟨g, j, none⟩ = w.cell? ⟨g, j, none⟩) (fun _ i _ => s.size - (intOf i).toNat)
  case atStart => exact ⟨0, Nat.zero_le _, rfl, rfl, Below.refl _ _, fun _ => rfl⟩
  case round =>
    obtain ⟨k, hk, rfl, rfl, hB, hE⟩ := hrel
    by_cases hlt : k < s.size
    · have HN := Lib.hid (crcTo_table s k)
      have hC := crcTo_lt s k
      have hb := byteAt_lt s k
      have hbi := byteAt_is hlt
      obtain ⟨b, hbe⟩ : ∃ b, byteAt s k = b := ⟨_, rfl⟩
      rw [hbe] at hb hbi HN
      obtain ⟨C, hCe⟩ : ∃ C, crcTo s k = C := ⟨_, rfl⟩
      rw [hCe] at hC HN
      rw [hCe]
      clear hbe hCe
      have hg : (s[k].toNat : Int) = (b : Int) := by rw [hbi]
      obtain ⟨J, hJ⟩ : ∃ J, (C % 256) ^^^ b = J := ⟨_, rfl⟩
      have hJ1 : J < 256 := by rw [← hJ]; exact Nat.xor_lt_two_pow (n := 8) (by omega) (by omega)
      have hx8 : bits .xor .u8 ((C : Int) % 256) (b : Int) = (J : Int) := by rw [← hJ, show (C : Int) % 256 = ((C % 256 : Nat) : Int) by omega]; exact u8_xor_nat _ _ (by omega) (by omega)
      have hcell : wr.cell? ⟨g, J, none⟩ = some (.int .u32 (crcN 8 J : Int)) := by rw [hE, HC.out J hJ1, tblAt, if_pos hJ1]
      have hJ2 : (J : Int) < 256 := by omega
      have HB := Lib.hid hB
      have HE := Lib.hid hE
      have HJ := Lib.hid hJ
      clear hB hE hbi hJ
      go_wp2
      go_quiet (fail)
      go_wp2
      exact ⟨⟨k + 1, by omega, by go_num, congrArg (Value.int IntKind.u32) (by rw [HN.out, HJ.out, show (C : Int) / 256 = ((C / 256 : Nat) : Int) by omega]; exact u32_xor_nat _ _ (crcN_lt (by omega) 8) (by omega)), (below_drewN HB.out _), fun j => HE.out j⟩, by simp [intOf]; omega⟩
    · obtain rfl : k = s.size := by omega
      go_wp2
      go_ret
      exact ⟨ret_int' (crc_end s), hB⟩

set_option maxRecDepth 100000 in
set_option maxHeartbeats 2000000 in
theorem crc_any (s : ByteArray) (w : World) (hs : s.size ≤ maxLen) :
    Calls Try.prog 15 #[.string s] w fun e w' => e = .returned (.int .i64 (crcOf s : Int)) ∧ Below w.heap.size w w' := by
  have hz : ∀ w, (zeroValue 112).run Try.prog w = .ok (.agg (tbl 0)) w := by
    intro w
    kernel_rfl
  go_enter Try.func15, Try.ntmps15
  have hst := run_storeCells_new (P := Try.prog) (w.alloc (.cells (tbl 256) 112)) 112 (tbl 0) (tbl 256) (by rw [tbl_size]; kernel_rfl) (by rw [tbl_size, tbl_size]) (tbl_one 256)
  rw [show (w.alloc (.cells (tbl 256) 112)).heap.size = w.heap.size + 1 by simp] at hst
  go_wp2_with (go_at_call 67; refine (newCrcTable_any _).mono ?_; rintro e w' ⟨rfl, rfl⟩)
  refine (crcSum_any (w.heap.size + 1) s _ hs ?hc).mono ?_
  case hc =>
    intro j hj
    have h9 := heap_alloc_last (w.alloc (.cells (tbl 256) 112)) (.cells (tbl 256) 112)
    rw [show (w.alloc (.cells (tbl 256) 112)).heap.size = w.heap.size + 1 by simp] at h9
    rw [cell_of_row _ _ j (tbl 256) 112 (0, 0) h9]
    exact tbl_at hj
  rintro e w2 ⟨rfl, hb⟩
  go_wp2_with fail
  go_ret
  exact ⟨rfl, (((Below.refl _ _).alloc (Nat.le_refl _) _).alloc (by simp) _).trans (hb.mono (by simp; omega))⟩

theorem l9Crc_is {s : ByteArray} (w : World) (hs : s.size ≤ maxLen) :
    Calls Try.prog 66 #[.string s] w fun e w' => e = .returned (.int .i64 (crcOf s : Int)) ∧ w' = w := (l9Crc_any s w hs).mono fun _ _ ⟨a, b⟩ => ⟨a, b.symm⟩

theorem specCrc_any (s : ByteArray) (w : World) (hs : s.size ≤ maxLen) :
    Calls Try.prog 14 #[.string s] w fun e w' => e = .returned (.int .i64 (crcOf s : Int)) ∧ w = w' := by
  go_enter Try.func14, Try.ntmps14
  go_wp2_with (go_at_call 66; refine (l9Crc_any s _ hs).mono ?_; rintro e w' ⟨rfl, rfl⟩)
  go_ret
  exact ⟨rfl, rfl⟩
end Go.Proofs.Ytncipibjlpfkhaa
