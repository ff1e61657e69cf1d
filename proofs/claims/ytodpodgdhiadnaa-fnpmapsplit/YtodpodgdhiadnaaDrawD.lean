/- The reader is opened on a code. -/
import Derived.Test.YtodpodgdhiadnaaDrawB
import Derived.OpenShut
import Derived.WalkKit
import Derived.ProofKit
import Derived.Lib.SmallJoins
import Derived.ChangeSame
namespace Go.Proofs.Ytodpodgdhiadnaa
open Go.RowKit

/-- The bytes of a code: none, or a row of cells that were there. -/
def BytesIn (w : World) (a : Option Addr) (len cap : Nat) : Prop :=
  len ≤ cap ∧ cap ≤ maxLen ∧ (len = 0 ∨ ∃ (b off : Nat) (zs : List Int), a = some ⟨b, off, none⟩ ∧ b < w.heap.size ∧ ∀ i, i < len → w.cell? ⟨b, off + i, none⟩ = some (.int .u8 (zs.getD i 0)) ∧ 0 ≤ zs.getD i 0 ∧ zs.getD i 0 ≤ 255)

def Opened (rb : Nat) (w : World) (e : Ending) (w' : World) : Prop := e = .returned (.pointer (some ⟨rb, 0, none⟩)) ∧ RdAt rb 0 w' ∧ Below w.heap.size w w'

theorem opened_mk {w : World} {b off len cap : Nat} {zs : List Int} {t : TypeId} (hb : b < w.heap.size) (hl : len ≤ 2000) (hc : ∀ i, i < len → w.cell? ⟨b, off + i, none⟩ = some (.int .u8 (zs.getD i 0)) ∧ 0 ≤ zs.getD i 0 ∧ zs.getD i 0 ≤ 255) :
    RdAt w.heap.size 0 (w.alloc (.cells #[.slice (some ⟨b, off, none⟩) len cap, .int .i64 0] t)) := by
  refine ⟨some ⟨b, off, none⟩, len, cap, zs, by simp, by simp, by simp, by simp, hl, .inr ⟨b, off, rfl, hb, fun i hi => ?_⟩⟩
  have hw : Below w.heap.size w (w.alloc (.cells #[.slice (some ⟨b, off, none⟩) len cap, .int .i64 0] t)) := (Below.refl _ _).alloc (Nat.le_refl _) _
  rw [hw.cell (p := ⟨b, off + i, none⟩) hb]
  exact hc i hi
theorem opened_mk0 {w : World} {a : Option Addr} {cap : Nat} {t : TypeId} : RdAt w.heap.size 0 (w.alloc (.cells #[.slice a 0 cap, .int .i64 0] t)) :=
  ⟨a, 0, cap, [], by simp, by simp, by simp, by simp, by omega, .inl rfl⟩

set_option maxHeartbeats 1000000 in
theorem l20Open_any (a : Option Addr) (len cap rb : Nat) (w : World) (hrb : w.heap.size = rb) (h : BytesIn w a len cap) :
    Calls Try.prog 131 #[.slice a len cap] w (Opened rb w) := by
  subst hrb
  obtain ⟨hlc, hcm, h⟩ := h
  unfold maxLen at hcm
  rcases h with rfl | ⟨b, off, zs, rfl, hb, hc⟩
  · go_enter Try.func131, Try.ntmps131
    go_wp2
    go_ret
    exact ⟨rfl, opened_mk0, (Below.refl _ _).alloc (Nat.le_refl _) _⟩
  · have HC := Lib.hid hc
    clear hc
    by_cases hl : 2000 < len
    · have h2 : (2000 : Int) ≤ (cap : Int) := by omega
      go_enter Try.func131, Try.ntmps131
      go_wp2
      go_ret
      exact ⟨rfl, opened_mk hb (by omega) (fun i hi => HC.out i (by omega)), (Below.refl _ _).alloc (Nat.le_refl _) _⟩
    · go_enter Try.func131, Try.ntmps131
      go_wp2
      go_ret
      exact ⟨rfl, opened_mk hb (by omega) HC.out, (Below.refl _ _).alloc (Nat.le_refl _) _⟩

theorem BytesIn.below {w w' : World} {a : Option Addr} {len cap : Nat} (h : BytesIn w a len cap) (hb : Below w.heap.size w w') : BytesIn w' a len cap := by
  obtain ⟨h1, h2, h3⟩ := h
  refine ⟨h1, h2, ?_⟩
  rcases h3 with h3 | ⟨b, off, zs, e, hlt, hc⟩
  · exact .inl h3
  · refine .inr ⟨b, off, zs, e, Nat.lt_of_lt_of_le hlt hb.size, fun i hi => ?_⟩
    rw [hb.cell (p := ⟨b, off + i, none⟩) hlt]
    exact hc i hi
theorem BytesIn.alloc {w : World} {a : Option Addr} {len cap : Nat} (h : BytesIn w a len cap) (o : Obj) : BytesIn (w.alloc o) a len cap := h.below ((Below.refl _ _).alloc (Nat.le_refl _) _)

end Go.Proofs.Ytodpodgdhiadnaa

/- What a slice of bytes that came in is to the walk of a law. -/
namespace Go.Proofs.Ytodpodgdhiadnaa
open Go.ChangeShapes Go.WideShapes Go.ChangeAt Go.RowKit Go.Joins

theorem bytesIn_of {w : World} {a : Option Addr} {len cap : Nat} {zs : List Int}
    (h : (a = none ∧ len = 0 ∧ cap = 0 ∧ zs = []) ∨ ∃ x, a = some x ∧ len ≤ cap ∧ cap ≤ maxLen ∧ zs.length = cap ∧ (∀ i, i < zs.length → w.cell? (x.add i) = some (.int .u8 (zs.getD i 0))) ∧ ∀ n ∈ zs, (Lit.int .u8 n).wf = true) :
    BytesIn w a len cap := by
  rcases h with ⟨rfl, rfl, rfl, rfl⟩ | ⟨x, rfl, hl, hc, hz, hcell, hw⟩
  · exact ⟨Nat.le_refl _, Nat.zero_le _, .inl rfl⟩
  · refine ⟨hl, hc, ?_⟩
    by_cases h0 : len = 0
    · exact .inl h0
    · obtain ⟨b, off, rfl, hb⟩ := ints_at hcell (by omega)
      have hlt := World.block_lt_of_cell? w _ (hb 0 (by omega))
      refine .inr ⟨b, off, zs, rfl, hlt, fun i hi => ⟨hb i (by omega), ?_⟩⟩
      have := range_u8 hw i
      simpa using this
end Go.Proofs.Ytodpodgdhiadnaa

/- Drawing: a number of a list. -/
namespace Go.Proofs.Ytodpodgdhiadnaa
open Go.RowKit

def SomeInt (P : Int → Prop) (rb p : Nat) (w : World) (e : Ending) (w' : World) : Prop := ∃ s : Int, P s ∧ e = .returned (.int .i64 s) ∧ RdAt rb p w' ∧ Only rb w w'

set_option maxHeartbeats 1000000 in
theorem one_any (P : Int → Prop) (rb p lb L : Nat) (w : World) (h : RdAt rb p w) (hp : p < 1000000) (hne : lb ≠ rb) (hlb : lb < w.heap.size) (hL : 1 ≤ L) (hL2 : L ≤ 1000)
    (hc : ∀ i, i < L → ∃ s : Int, w.cell? ⟨lb, i, none⟩ = some (.int .i64 s) ∧ P s) :
    Calls Try.prog 153 #[.pointer (some ⟨rb, 0, none⟩), .slice (some ⟨lb, 0, none⟩) L L] w (SomeInt P rb (p + 1) w) := by
  have HC := Lib.hid hc
  clear hc
  have H := Lib.hid h
  clear h
  go_enter Try.func153, Try.ntmps153
  go_wp2_with fail
  refine (pick_any rb p (L : Int) _ H.out hp (by omega) (by omega)).mono ?_
  rintro e w1 ⟨n, hn0, hn1, rfl, hr, ho⟩
  obtain ⟨k, rfl⟩ := Int.eq_ofNat_of_zero_le hn0
  obtain ⟨s, hs, hsz⟩ := HC.out k (by omega)
  have hs1 : w1.cell? ⟨lb, k, none⟩ = some (.int .i64 s) := (ho.cell (p := ⟨lb, k, none⟩) hlb hne).trans hs
  have hk : k < L := by omega
  have HR := Lib.hid hr
  have HO := Lib.hid ho
  clear hr ho hs
  go_wp2_with fail
  go_ret
  exact ⟨s, hsz, rfl, HR.out, HO.out⟩
end Go.Proofs.Ytodpodgdhiadnaa
