/- Opening the reader over the bytes of a code. -/
import Derived.Test.YtpiopcimcefjmaaDrawOf
namespace Go.Proofs.Ytpiopcimcefjmaa
open Go.RowKit

/-- The bytes of a code: none, or a row of cells that were there. -/
def BytesIn (w : World) (a : Option Addr) (len cap : Nat) : Prop :=
  len ≤ cap ∧ cap ≤ maxLen ∧ (len = 0 ∨ ∃ (b off : Nat) (zs : List Int), a = some ⟨b, off, none⟩ ∧ b < w.heap.size ∧ ∀ i, i < len → w.cell? ⟨b, off + i, none⟩ = some (.int .u8 (zs.getD i 0)) ∧ 0 ≤ zs.getD i 0 ∧ zs.getD i 0 ≤ 255)

def Opened (rb : Nat) (w : World) (e : Ending) (w' : World) : Prop := e = .returned (.pointer (some ⟨rb, 0, none⟩)) ∧ RdAt rb 0 w' ∧ Below w.heap.size w w'

theorem opened_mk {w : World} {b off len cap : Nat} {zs : List Int} {t : TypeId} (hb : b < w.heap.size) (hl : len ≤ 2000) (hc : ∀ i, i < len → w.cell? ⟨b, off + i, none⟩ = some (.int .u8 (zs.getD i 0)) ∧ 0 ≤ zs.getD i 0 ∧ zs.getD i 0 ≤ 255) :
    RdAt w.heap.size 0 (w.alloc (.cells #[.slice (some ⟨b, off, none⟩) len cap, .int .i64 0] t)) := by
  refine ⟨some ⟨b, off, none⟩, len, cap, zs, by simp, by simp, by simp, by simp, hl, .inr ⟨b, off, rfl, hb, fun i hi => ?_⟩⟩
  have hw : Below w.heap.size w (w.alloc (.cells #[.slice (some ⟨b, off, none⟩) len cap, .int .i64 0] t)) := (Below.refl _ _).alloc (Nat.le_refl _) _
  rw [hw.cell (p := ⟨b, off + i, none⟩) hb]
  exact hc i hi
theorem opened_mk0 {w : World} {a : Option Addr} {cap : Nat} {t : TypeId} : RdAt w.heap.size 0 (w.alloc (.cells #[.slice a 0 cap, .int .i64 0] t)) :=
  ⟨a, 0, cap, [], by simp, by simp, by simp, by simp, by omega, .inl rfl⟩

set_option maxHeartbeats 1000000 in
theorem l20Open_any (a : Option Addr) (len cap rb : Nat) (w : World) (hrb : w.heap.size = rb) (h : BytesIn w a len cap) :
    Calls Try.prog 40 #[.slice a len cap] w (Opened rb w) := by
  subst hrb
  obtain ⟨hlc, hcm, h⟩ := h
  unfold maxLen at hcm
  rcases h with rfl | ⟨b, off, zs, rfl, hb, hc⟩
  · go_enter Try.func40, Try.ntmps40
    go_wp2
    go_ret
    exact ⟨rfl, opened_mk0, (Below.refl _ _).alloc (Nat.le_refl _) _⟩
  · have HC := Lib.hid hc
    clear hc
    by_cases hl : 2000 < len
    · have h2 : (2000 : Int) ≤ (cap : Int) := by omega
      go_enter Try.func40, Try.ntmps40
      go_wp2
      go_ret
      exact ⟨rfl, opened_mk hb (by omega) (fun i hi => HC.out i (by omega)), (Below.refl _ _).alloc (Nat.le_refl _) _⟩
    · go_enter Try.func40, Try.ntmps40
      go_wp2
      go_ret
      exact ⟨rfl, opened_mk hb (by omega) HC.out, (Below.refl _ _).alloc (Nat.le_refl _) _⟩

theorem BytesIn.below {w w' : World} {a : Option Addr} {len cap : Nat} (h : BytesIn w a len cap) (hb : Below w.heap.size w w') : BytesIn w' a len cap := by
  obtain ⟨h1, h2, h3⟩ := h
  refine ⟨h1, h2, ?_⟩
  rcases h3 with h3 | ⟨b, off, zs, e, hlt, hc⟩
  · exact .inl h3
  · refine .inr ⟨b, off, zs, e, Nat.lt_of_lt_of_le hlt hb.size, fun i hi => ?_⟩
    rw [hb.cell (p := ⟨b, off + i, none⟩) hlt]
    exact hc i hi
theorem BytesIn.alloc {w : World} {a : Option Addr} {len cap : Nat} (h : BytesIn w a len cap) (o : Obj) : BytesIn (w.alloc o) a len cap := h.below ((Below.refl _ _).alloc (Nat.le_refl _) _)

end Go.Proofs.Ytpiopcimcefjmaa
