/- Contracts of 'of': what it hands back is one of its list; only the reader's own place moves on. -/
import Derived.Test.YtpiopcimcefjmaaDraw
namespace Go.Proofs.Ytpiopcimcefjmaa
open Go.RowKit

def SomeStr (rb p : Nat) (w : World) (e : Ending) (w' : World) : Prop := ∃ s : ByteArray, s.size ≤ maxLen ∧ e = .returned (.string s) ∧ RdAt rb p w' ∧ Only rb w w'

set_option maxHeartbeats 1000000 in
theorem of_any (rb p lb L : Nat) (w : World) (h : RdAt rb p w) (hp : p < 1000000) (hne : lb ≠ rb) (hlb : lb < w.heap.size) (hL : 1 ≤ L) (hL2 : L ≤ 1000)
    (hc : ∀ i, i < L → ∃ s : ByteArray, w.cell? ⟨lb, i, none⟩ = some (.string s) ∧ s.size ≤ maxLen) :
    Calls Try.prog 41 #[.pointer (some ⟨rb, 0, none⟩), .slice (some ⟨lb, 0, none⟩) L L] w (SomeStr rb (p + 1) w) := by
  have HC := Lib.hid hc
  clear hc
  have H := Lib.hid h
  clear h
  go_enter Try.func41, Try.ntmps41
  go_wp2_with fail
  refine (pick_any rb p (L : Int) _ H.out hp (by omega) (by omega)).mono ?_
  rintro e w1 ⟨n, hn0, hn1, rfl, hr, ho⟩
  obtain ⟨k, rfl⟩ := Int.eq_ofNat_of_zero_le hn0
  obtain ⟨s, hs, hsz⟩ := HC.out k (by omega)
  have hs1 : w1.cell? ⟨lb, k, none⟩ = some (.string s) := (ho.cell (p := ⟨lb, k, none⟩) hlb hne).trans hs
  have hk : k < L := by omega
  have HR := Lib.hid hr
  have HO := Lib.hid ho
  clear hr ho hs
  go_wp2_with fail
  go_ret
  exact ⟨s, hsz, rfl, HR.out, HO.out⟩

def strsOk (l : List Value) : Bool := l.all fun v => match v with | .string s => decide (s.size ≤ 1000) | _ => false

theorem strs_at {l : List Value} (h : strsOk l = true) (i : Nat) (hi : i < l.length) : ∃ s : ByteArray, l[i]? = some (.string s) ∧ s.size ≤ maxLen := by
  unfold strsOk at h
  rw [List.all_eq_true] at h
  have hm := h l[i] (List.getElem_mem hi)
  have e : l[i]? = some l[i] := List.getElem?_eq_getElem hi
  split at hm
  · rename_i s hs
    refine ⟨s, by rw [e, hs], ?_⟩
    have : s.size ≤ 1000 := by simpa using hm
    unfold maxLen; omega
  · simp at hm

theorem ofNew_any (rb p L : Nat) (w : World) (g : Nat) (arr : Array Value) (hg : w.heap.size = g) (h : RdAt rb p w) (hp : p < 1000000) (hs : strsOk arr.toList = true) (hL : arr.size = L) (h1 : 1 ≤ L) (h2 : L ≤ 1000) :
    Calls Try.prog 41 #[.pointer (some ⟨rb, 0, none⟩), .slice (some ⟨g, 0, none⟩) L L] (w.alloc (.cells arr 9)) (SomeStr rb (p + 1) w) := by
  subst hg
  have hb : Below w.heap.size w (w.alloc (.cells arr 9)) := (Below.refl _ _).alloc (Nat.le_refl _) _
  refine (of_any rb p w.heap.size L _ (h.below hb) hp (by have := h.lt; omega) (by simp) h1 h2 fun i hi => ?_).mono ?_
  · obtain ⟨s, e, hz⟩ := strs_at hs i (by simpa [hL] using hi)
    refine ⟨s, ?_, hz⟩
    rw [World.cell?_alloc_new]
    simpa using e
  · rintro e w1 ⟨s, hz, rfl, hr, ho⟩
    exact ⟨s, hz, rfl, hr, (Only.of_below hb).trans ho⟩

end Go.Proofs.Ytpiopcimcefjmaa
