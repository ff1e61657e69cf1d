/- The checksum: the program's and the model's. -/
import Derived.Test.YtncipibjlpfkhaaCrcN
import Derived.BigQuiet
import Derived.Defers
import Derived.Deep.WholeRow
namespace Go.Proofs.Ytncipibjlpfkhaa
open Go.RowKit

theorem i64_xor_nat (a b : Nat) (ha : a < 4294967296) (hb : b < 4294967296) : bits .xor .i64 (a : Int) (b : Int) = ((a ^^^ b : Nat) : Int) := by
  have hx : a ^^^ b < 2 ^ 32 := Nat.xor_lt_two_pow (by omega) (by omega)
  have o1 : ∀ a : Nat, a < 4294967296 → (BitVec.ofInt 64 (a : Int)).toNat = a := fun a ha => by
    rw [BitVec.ofInt_natCast, BitVec.toNat_ofNat]; exact Nat.mod_eq_of_lt (by omega)
  show IntKind.i64.wrap ((BitVec.ofInt 64 (a : Int) ^^^ BitVec.ofInt 64 (b : Int)).toNat : Int) = _
  rw [BitVec.toNat_xor, o1 a ha, o1 b hb]
  exact IntWalk.i64_in _ (by omega)

theorem wrap64_small {n : Nat} (h : n < 4294967296) : wrap64 (n : Int) = (n : Int) := by
  unfold wrap64; omega

set_option maxHeartbeats 1000000 in
theorem l9Crc_any (s : ByteArray) (w : World) (hs : s.size ≤ maxLen) :
    Calls Try.prog 66 #[.string s] w fun e w' => e = .returned (.int .i64 (crcOf s : Int)) ∧ w = w' := by
  unfold maxLen at hs
  go_enter Try.func66, Try.ntmps66
  go_wp2
  go_loop [3, 4] (fun c i => ∃ k : Nat, k ≤ s.size ∧ i = .int .i64 k ∧ c = .int .i64 (crcTo s k : Int)) (fun _ i => s.size - (intOf i).toNat)
  case atStart => exact ⟨0, Nat.zero_le _, rfl, rfl⟩
  case round =>
    obtain ⟨k, hk, rfl, rfl⟩ := hrel
    by_cases hlt : k < s.size
    · have hx := i64_xor_nat (crcTo s k) (byteAt s k) (crcTo_lt s k) (by have := byteAt_lt s k; omega)
      rw [byteAt_is hlt] at hx
      have hw : wrap64 (s[k].toNat : Int) = (s[k].toNat : Int) := wrap64_small (by have := UInt8.toNat_lt s[k]; omega)
      obtain ⟨C, hC⟩ : ∃ C, crcTo s k ^^^ s[k].toNat = C := ⟨_, rfl⟩
      have hC1 : C < 4294967296 := by rw [← hC, ← byteAt_is hlt]; exact xor_byte_lt (crcTo_lt s k) (byteAt_lt s k)
      have HC := Lib.hid (show crcTo s (k + 1) = crcN 8 C by rw [← hC, ← byteAt_is hlt]; rfl)
      rw [hC] at hx
      clear hC
      go_wp2
      clear hx hw
      go_loop [3, 5] (fun c i => ∃ j : Nat, j ≤ 8 ∧ i = .int .i64 j ∧ c = .int .i64 (crcN j C : Int)) (fun _ i => 8 - (intOf i).toNat)
      case atStart => exact ⟨0, Nat.zero_le _, rfl, rfl⟩
      case round =>
        obtain ⟨j, hj, rfl, rfl⟩ := hrel
        have hlt2 := crcN_lt hC1 j
        by_cases hl8 : j < 8
        · have hS : crcN (j + 1) C = crc1 (crcN j C) := rfl
          obtain ⟨D, hD⟩ : ∃ D, crcN j C = D := ⟨_, rfl⟩
          rw [hD] at hlt2 hS
          have HS := Lib.hid hS
          rw [hD]
          clear hD hS
          rcases Nat.mod_two_eq_zero_or_one D with hm | hm
          · go_wp2
            exact ⟨⟨j + 1, by omega, by go_num, congrArg (Value.int IntKind.i64) (by rw [HS.out]; unfold crc1; rw [if_neg (by omega)]; omega)⟩, by simp [intOf]; omega⟩
          · have hx := i64_xor_nat (D / 2) 3988292384 (by omega) (by omega)
            go_wp2
            exact ⟨⟨j + 1, by omega, by go_num, congrArg (Value.int IntKind.i64) (by rw [HS.out]; unfold crc1; rw [if_pos hm, ← hx]; rfl)⟩, by simp [intOf]; omega⟩
        · obtain rfl : j = 8 := by omega
          go_wp2
          exact ⟨⟨k + 1, by omega, by go_num, by rw [HC.out]⟩, by simp [intOf]; omega⟩
    · obtain rfl : k = s.size := by omega
      have hx := i64_xor_nat (crcTo s s.size) 4294967295 (crcTo_lt s _) (by omega)
      go_wp2
      go_ret
      exact ⟨by rw [show bits BinOp.xor IntKind.i64 (crcTo s s.size : Int) 4294967295 = _ from hx]; rfl, rfl⟩

set_option maxHeartbeats 1000000 in
theorem crcOfByte_any (b : Nat) (hb : b < 4294967296) (w : World) :
    Calls Try.prog 150 #[.int .u32 b] w fun e w' => e = .returned (.int .u32 (crcN 8 b : Int)) ∧ w = w' := by
  go_enter Try.func150, Try.ntmps150
  go_wp2
  go_loop [0, 4] (fun c i => ∃ k : Nat, k ≤ 8 ∧ i = .int .i64 k ∧ c = .int .u32 (crcN k b : Int)) (fun _ i => 8 - (intOf i).toNat)
  case atStart => exact ⟨0, Nat.zero_le _, rfl, rfl⟩
  case round =>
    obtain ⟨k, hk, rfl, rfl⟩ := hrel
    have hlt2 := crcN_lt hb k
    by_cases hlt : k < 8
    · have hS : crcN (k + 1) b = crc1 (crcN k b) := rfl
      obtain ⟨D, hD⟩ : ∃ D, crcN k b = D := ⟨_, rfl⟩
      rw [hD] at hlt2 hS
      have HS := Lib.hid hS
      rw [hD]
      clear hD hS
      go_wp2
      have hA : bits .and .u32 (D : Int) 1 = ((D % 2 : Nat) : Int) := by rw [← Nat.and_one_is_mod]; exact u32_and_nat D 1 hlt2 (by omega)
      have hM : ((D % 2 : Nat) : Int) * 3988292384 % 4294967296 = ((D % 2 * 3988292384 : Nat) : Int) := by omega
      have hX : bits .xor .u32 ((D : Int) / 2) ((D % 2 * 3988292384 : Nat) : Int) = ((D / 2 ^^^ D % 2 * 3988292384 : Nat) : Int) := u32_xor_nat (D / 2) _ (by omega) (by omega)
      exact ⟨⟨k + 1, by omega, by go_num, congrArg (Value.int IntKind.u32) (by rw [HS.out, crc1_mul, hA, hM, hX])⟩, by simp [intOf]; omega⟩
    · obtain rfl : k = 8 := by omega
      go_wp2
      go_ret
      exact ⟨rfl, rfl⟩
end Go.Proofs.Ytncipibjlpfkhaa
