/- The checksum, as a function of numbers. -/
import Derived.Test.YtncipibjlpfkhaaText
namespace Go.Proofs.Ytncipibjlpfkhaa
open Go.RowKit

def crc1 (c : Nat) : Nat := if c % 2 = 1 then (c / 2) ^^^ 3988292384 else c / 2
def crcN : Nat → Nat → Nat
  | 0, c => c
  | n + 1, c => crc1 (crcN n c)
def byteAt (s : ByteArray) (k : Nat) : Nat := if h : k < s.size then s[k].toNat else 0
def crcTo (s : ByteArray) : Nat → Nat
  | 0 => 4294967295
  | k + 1 => crcN 8 (crcTo s k ^^^ byteAt s k)
def crcOf (s : ByteArray) : Nat := crcTo s s.size ^^^ 4294967295

theorem byteAt_lt (s : ByteArray) (k : Nat) : byteAt s k < 256 := by
  unfold byteAt; split
  · exact UInt8.toNat_lt _
  · omega
theorem byteAt_is {s : ByteArray} {k : Nat} (h : k < s.size) : byteAt s k = s[k].toNat := by unfold byteAt; rw [dif_pos h]
theorem crc1_lt {c : Nat} (h : c < 4294967296) : crc1 c < 4294967296 := by
  unfold crc1; split
  · exact Nat.xor_lt_two_pow (n := 32) (by omega) (by omega)
  · omega
theorem crcN_lt {c : Nat} (h : c < 4294967296) : ∀ n, crcN n c < 4294967296
  | 0 => h
  | n + 1 => crc1_lt (crcN_lt h n)
theorem xor_byte_lt {c b : Nat} (h : c < 4294967296) (hb : b < 256) : c ^^^ b < 4294967296 := Nat.xor_lt_two_pow (n := 32) h (by omega)
theorem crcTo_lt (s : ByteArray) : ∀ k, crcTo s k < 4294967296
  | 0 => by unfold crcTo; omega
  | k + 1 => crcN_lt (xor_byte_lt (crcTo_lt s k) (byteAt_lt s k)) 8
theorem crc1_xor (x y : Nat) : crc1 (x ^^^ y) = crc1 x ^^^ crc1 y := by
  have h2 : (x ^^^ y) % 2 = (x + y) % 2 := by
    have h := Nat.testBit_xor x y 0
    simp only [Nat.testBit_zero] at h
    rcases Nat.mod_two_eq_zero_or_one x with a | a <;> rcases Nat.mod_two_eq_zero_or_one y with b | b <;> rcases Nat.mod_two_eq_zero_or_one (x ^^^ y) with c | c <;> simp [a, b, c] at h <;> omega
  have h3 : (x ^^^ y) / 2 = x / 2 ^^^ y / 2 := Nat.xor_div_two
  unfold crc1
  rw [h2, h3]
  rcases Nat.mod_two_eq_zero_or_one x with a | a <;> rcases Nat.mod_two_eq_zero_or_one y with b | b
  · rw [if_neg (by omega), if_neg (by omega), if_neg (by omega)]
  · rw [if_pos (by omega), if_neg (by omega), if_pos (by omega), Nat.xor_assoc]
  · rw [if_pos (by omega), if_pos (by omega), if_neg (by omega), Nat.xor_assoc, Nat.xor_assoc, Nat.xor_comm (y / 2)]
  · rw [if_neg (by omega), if_pos (by omega), if_pos (by omega), Nat.xor_assoc, Nat.xor_comm 3988292384 (y / 2 ^^^ 3988292384), Nat.xor_assoc (y / 2), Nat.xor_self, Nat.xor_zero]
theorem crcN_xor (x y : Nat) : ∀ n, crcN n (x ^^^ y) = crcN n x ^^^ crcN n y
  | 0 => rfl
  | n + 1 => by unfold crcN; rw [crcN_xor x y n, crc1_xor]
theorem crc1_even (k : Nat) : crc1 (k * 2) = k := by unfold crc1; rw [if_neg (by omega)]; omega
theorem crcN_shift (k : Nat) : crcN 8 (k * 256) = k := by
  show crc1 (crc1 (crc1 (crc1 (crc1 (crc1 (crc1 (crc1 (k * 256)))))))) = k
  rw [show k * 256 = k * 128 * 2 by omega, crc1_even, show k * 128 = k * 64 * 2 by omega, crc1_even, show k * 64 = k * 32 * 2 by omega, crc1_even, show k * 32 = k * 16 * 2 by omega, crc1_even, show k * 16 = k * 8 * 2 by omega, crc1_even, show k * 8 = k * 4 * 2 by omega, crc1_even, show k * 4 = k * 2 * 2 by omega, crc1_even, crc1_even]
theorem split_byte (c : Nat) : c = (c % 256) ^^^ (c / 256 * 256) := by
  apply Nat.eq_of_testBit_eq
  intro i
  rw [Nat.testBit_xor, show (256 : Nat) = 2 ^ 8 from rfl, Nat.testBit_mod_two_pow, Nat.testBit_mul_two_pow, Nat.testBit_div_two_pow]
  by_cases h : i < 8
  · have h8 : ¬ 8 ≤ i := by omega
    simp [h, h8]
  · have h8 : 8 ≤ i := by omega
    simp [h, h8]
theorem crcN_table (c b : Nat) : crcN 8 (c ^^^ b) = crcN 8 ((c % 256) ^^^ b) ^^^ (c / 256) := by
  conv => lhs; rw [split_byte c, Nat.xor_assoc, Nat.xor_comm (c / 256 * 256), ← Nat.xor_assoc, crcN_xor, crcN_shift]
theorem crc1_mul (c : Nat) : crc1 c = (c / 2) ^^^ (c % 2 * 3988292384) := by
  unfold crc1
  rcases Nat.mod_two_eq_zero_or_one c with a | a
  · rw [if_neg (by omega), a]; simp
  · rw [if_pos a, a]
theorem xor_ones {x : Nat} (h : x < 4294967296) : x ^^^ 4294967295 = 4294967295 - x := by
  apply Nat.eq_of_testBit_eq
  intro i
  have h1 := Nat.testBit_two_pow_sub_succ (n := 32) (x := x) h i
  have h2 := Nat.testBit_two_pow_sub_one 32 i
  rw [show 4294967295 - x = 2 ^ 32 - (x + 1) by omega, h1, Nat.testBit_xor, show (4294967295 : Nat) = 2 ^ 32 - 1 from rfl, h2]
  by_cases hi : i < 32
  · simp [hi]
  · have : x.testBit i = false := Nat.testBit_lt_two_pow (Nat.lt_of_lt_of_le h (by rw [show (4294967296 : Nat) = 2 ^ 32 from rfl]; exact Nat.pow_le_pow_right (by omega) (by omega)))
    simp [hi, this]
theorem xor_zero_eq {x y : Nat} (h : x ^^^ y = 0) : x = y := by
  have : (x ^^^ y) ^^^ y = y := by rw [h, Nat.zero_xor]
  rwa [Nat.xor_assoc, Nat.xor_self, Nat.xor_zero] at this
/-- One bit step loses nothing. -/
theorem crc1_inj {x y : Nat} (hx : x < 4294967296) (hy : y < 4294967296) (h : crc1 x = crc1 y) : x = y := by
  have hz : crc1 (x ^^^ y) = 0 := by rw [crc1_xor, h, Nat.xor_self]
  have hl : (x ^^^ y) / 2 < 2147483648 := by have := Nat.xor_lt_two_pow (n := 32) hx hy; omega
  unfold crc1 at hz
  split at hz
  · have := xor_zero_eq hz
    omega
  · have h0 : x ^^^ y = 0 := by omega
    exact xor_zero_eq h0
end Go.Proofs.Ytncipibjlpfkhaa
