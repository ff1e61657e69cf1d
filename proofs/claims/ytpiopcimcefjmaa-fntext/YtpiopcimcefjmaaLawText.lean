/- The walk of the law FnText: a text and a key are of bytes that can be seen. -/
import Derived.Test.YtpiopcimcefjmaaText
import Derived.Test.YtpiopcimcefjmaaDrawOpen
namespace Go.Proofs.Ytpiopcimcefjmaa
open Go.RowKit

theorem key_text {c : UInt8} (h : keyB c = true) : textB c = true := by
  simp [keyB] at h
  exact textB_yes (by omega) (by omega)
theorem keyOk_text {s : ByteArray} (h : keyOkB s = true) : okB textB 8 s = true ∧ 1 ≤ s.size := by
  unfold keyOkB at h
  simp only [Bool.and_eq_true, Bool.not_eq_true'] at h
  obtain ⟨h1, h2⟩ := h
  unfold okB at h2
  simp only [Bool.and_eq_true, decide_eq_true_eq] at h2
  obtain ⟨h3, h4⟩ := h2
  refine ⟨?_, ?_⟩
  · unfold okB
    simp only [Bool.and_eq_true, decide_eq_true_eq]
    refine ⟨by omega, ?_⟩
    rw [List.all_eq_true] at h4 ⊢
    exact fun x hx => key_text (h4 x hx)
  · rw [ByteArray.toList_eq] at h1
    have : s.data.toList ≠ [] := by simpa using h1
    have h5 : 0 < s.data.toList.length := List.length_pos_iff.2 this
    have h6 : s.data.toList.length = s.size := by simp
    omega

set_option maxHeartbeats 1000000 in
theorem l20Text_any (rb p : Nat) (w : World) (h : RdAt rb p w) (hp : p < 1000000) :
    Calls Try.prog 42 #[.pointer (some ⟨rb, 0, none⟩)] w (SomeStr rb (p + 1) w) := by
  have H := Lib.hid h
  clear h
  go_enter Try.func42, Try.ntmps42
  go_wp2_with fail
  with_reducible refine (ofNew_any rb p 6 w _ _ rfl H.out hp ?hs ?hL (by omega) (by omega)).mono ?_
  case hs => rfl
  case hL => rfl
  rintro e w1 ⟨s, hsz, rfl, hr, ho⟩
  have HR := Lib.hid hr
  have HO := Lib.hid ho
  clear hr ho
  go_wp2_with fail
  go_ret
  exact ⟨s, hsz, rfl, HR.out, HO.out⟩

def SomeText (w : World) (e : Ending) (w' : World) : Prop := ∃ s : ByteArray, s.size ≤ maxLen ∧ e = .returned (.string s) ∧ Below w.heap.size w w'

theorem four {w : World} {g : Nat} {a b c d : ByteArray} {t : TypeId} (hg : w.heap.size = g) (ha : a.size ≤ maxLen) (hb : b.size ≤ maxLen) (hc : c.size ≤ maxLen) (hd : d.size ≤ maxLen) :
    ∀ i, i < 4 → ∃ s : ByteArray, (w.alloc (.cells #[.string a, .string b, .string c, .string d] t)).cell? ⟨g, i, none⟩ = some (.string s) ∧ s.size ≤ maxLen := by
  subst hg
  intro i hi
  match i, hi with
  | 0, _ => exact ⟨a, by simp, ha⟩
  | 1, _ => exact ⟨b, by simp, hb⟩
  | 2, _ => exact ⟨c, by simp, hc⟩
  | 3, _ => exact ⟨d, by simp, hd⟩

set_option maxHeartbeats 1000000 in
theorem drawTextOk_any (a : Option Addr) (len cap : Nat) (w : World) (h : BytesIn w a len cap) :
    Calls Try.prog 11 #[.slice a len cap] w (SomeText w) := by
  have H := Lib.hid h
  clear h
  go_enter Try.func11, Try.ntmps11
  go_wp2_with fail
  with_reducible refine (l20Open_any a len cap w.heap.size w rfl H.out).mono ?_
  rintro e w1 ⟨rfl, hr, hb1⟩
  have E1 := Lib.hid hb1
  have HR := Lib.hid hr
  have z1 := hr.lt
  clear hr hb1 H
  go_wp2_with fail
  with_reducible refine (l20Text_any w.heap.size 0 w1 HR.out (by omega)).mono ?_
  rintro e w2 ⟨s, hs, rfl, hr, ho⟩
  have E2 := Lib.hid (E1.out.trans (ho.below (B := w.heap.size) (Nat.le_refl _) (Nat.le_of_lt z1)))
  have HR2 := Lib.hid hr
  have z2 := hr.lt
  clear hr ho E1 HR
  go_wp2_with fail
  with_reducible refine (of_any w.heap.size (0 + 1) w2.heap.size 4 _ ?hr (by omega) ?hne ?hlt (by omega) (by omega) ?hc).mono ?_
  case hr => exact HR2.out.alloc _
  case hne => omega
  case hlt => simp
  case hc => exact four rfl hs (by unfold maxLen; decide) (by unfold maxLen; decide) (by unfold maxLen; decide)
  rintro e w3 ⟨s3, hs3, rfl, hr, ho⟩
  have E3 := Lib.hid ((E2.out.alloc (Nat.le_of_lt z2) _).trans (ho.below (B := w.heap.size) (Nat.le_refl _) (by simp; omega)))
  clear hr ho E2 HR2
  go_wp2_with fail
  go_ret
  exact ⟨s3, hs3, rfl, E3.out⟩

theorem textOk_is {s : ByteArray} {b : Bool} (h : okB textB 8 s = b) (hs : s.size ≤ maxLen) (w : World) :
    Calls Try.prog 12 #[.string s] w fun e w' => e = .returned (.bool b) ∧ w = w' := by rw [← h]; exact textOk_any s w hs
theorem specTextOk_is {s : ByteArray} {b : Bool} (h : okB textB 8 s = b) (hs : s.size ≤ maxLen) (w : World) :
    Calls Try.prog 13 #[.string s] w fun e w' => e = .returned (.bool b) ∧ w = w' := by rw [← h]; exact specTextOk_any s w hs
theorem keyOk_is {s : ByteArray} {b : Bool} (h : keyOkB s = b) (hs : s.size ≤ maxLen) (w : World) :
    Calls Try.prog 14 #[.string s] w fun e w' => e = .returned (.bool b) ∧ w = w' := by rw [← h]; exact keyOk_any s w hs
theorem specKeyOk_is {s : ByteArray} {b : Bool} (h : keyOkB s = b) (hs : s.size ≤ maxLen) (w : World) :
    Calls Try.prog 15 #[.string s] w fun e w' => e = .returned (.bool b) ∧ w = w' := by rw [← h]; exact specKeyOk_any s w hs

set_option maxHeartbeats 2000000 in
theorem textLaw (a : Option Addr) (len cap : Nat) (w : World) (h : BytesIn w a len cap) (hl : ¬ 1048576 < len) :
    Calls Try.prog 3 #[.slice a len cap] w fun e w' => e = .returned (.bool true) ∧ Below w.heap.size w w' := by
  have H := Lib.hid h
  clear h
  go_enter Try.func3, Try.ntmps3
  go_wp2_with fail
  with_reducible refine (drawTextOk_any a len cap _ H.out).mono ?_
  rintro e w1 ⟨s, hs, rfl, hb1⟩
  have E1 := Lib.hid hb1
  clear hb1
  obtain ⟨b1, k1⟩ : ∃ b, okB textB 8 s = b := ⟨_, rfl⟩
  cases k2 : keyOkB s
  · have K1 := Lib.hid k1
    clear k1
    go_wp2_with (first
      | (go_at_call 12; (with_reducible refine (textOk_is K1.out hs _).mono ?_); rintro e w' ⟨rfl, rfl⟩)
      | (go_at_call 13; (with_reducible refine (specTextOk_is K1.out hs _).mono ?_); rintro e w' ⟨rfl, rfl⟩)
      | (go_at_call 14; (with_reducible refine (keyOk_is k2 hs _).mono ?_); rintro e w' ⟨rfl, rfl⟩)
      | (go_at_call 15; (with_reducible refine (specKeyOk_is k2 hs _).mono ?_); rintro e w' ⟨rfl, rfl⟩))
    go_ret
    exact ⟨rfl, E1.out⟩
  · obtain ⟨t1, t2⟩ := keyOk_text k2
    rw [t1] at k1
    subst k1
    have t3 : (1 : Int) ≤ (s.size : Int) := by omega
    have hs2 := hs
    unfold maxLen at hs2
    go_wp2_with (first
      | (go_at_call 12; (with_reducible refine (textOk_is t1 hs _).mono ?_); rintro e w' ⟨rfl, rfl⟩)
      | (go_at_call 13; (with_reducible refine (specTextOk_is t1 hs _).mono ?_); rintro e w' ⟨rfl, rfl⟩)
      | (go_at_call 14; (with_reducible refine (keyOk_is k2 hs _).mono ?_); rintro e w' ⟨rfl, rfl⟩)
      | (go_at_call 15; (with_reducible refine (specKeyOk_is k2 hs _).mono ?_); rintro e w' ⟨rfl, rfl⟩))
    go_ret
    exact ⟨by simp, E1.out⟩
end Go.Proofs.Ytpiopcimcefjmaa
