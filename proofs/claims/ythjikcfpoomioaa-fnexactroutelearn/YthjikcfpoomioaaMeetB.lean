/- SpanMeet: the program's function and the model's return one and the same. -/
import Derived.Test.YthjikcfpoomioaaMeet
namespace Go.Proofs.Ythjikcfpoomioaa
open Go.RowKit

theorem call_69 (xs : Array Value) (w : World) : (callFunc 232 xs).run Try.prog w = .ok (.enter 232 xs) w := by kernel_rfl
theorem call_70 (xs : Array Value) (w : World) : (callFunc 233 xs).run Try.prog w = .ok (.enter 233 xs) w := by kernel_rfl
theorem call_72 (xs : Array Value) (w : World) : (callFunc 235 xs).run Try.prog w = .ok (.enter 235 xs) w := by kernel_rfl
theorem call_73 (xs : Array Value) (w : World) : (callFunc 236 xs).run Try.prog w = .ok (.enter 236 xs) w := by kernel_rfl

theorem empty_is {s : ByteArray} (h : s.toList.isEmpty = true) : s = ⟨#[]⟩ := bytes_eq (by rw [ByteArray.toList_eq ⟨#[]⟩]; simpa using h)
theorem same_of {x y : ByteArray} (h : Op.bytesLess x.toList y.toList = false) (k : Op.bytesLess y.toList x.toList = false) : x = y := by
  have e := bytesLess_le x.toList y.toList
  rw [h, k] at e
  exact bytes_eq (by simpa using e)

theorem meet_high (a1 a2 b1 b2 : ByteArray) (w : World) (ha1 : a1.size ≤ maxLen) (ha2 : a2.size ≤ maxLen) (hb1 : b1.size ≤ maxLen) (hb2 : b2.size ≤ maxLen) (h1 : spanOkB a1 a2 = true) (h2 : spanOkB b1 b2 = true)
    (lo : ByteArray) (hlo : lo.size ≤ maxLen) (hmx : ∀ (ts : Array TypeId) (t : TypeId) (w : World), (Builtin.max_ ts t #[.string a1, .string b1]).run Try.prog w = .ok (.string lo) w) :
    Calls Try.prog 100 #[.agg #[.string a1, .string a2], .agg #[.string b1, .string b2]] w (MeetPost lo (highM a2 b2) w) := by
  have hsz : (⟨#[]⟩ : ByteArray).size ≤ maxLen := by unfold maxLen; exact Nat.zero_le _
  cases h3 : a2.toList.isEmpty
  · cases h4 : b2.toList.isEmpty
    · cases h5 : Op.bytesLess a2.toList b2.toList
      · have e : highM a2 b2 = b2 := by
          unfold highM; rw [h3, h4]; simp only [Bool.false_eq_true, if_false]
          split
          · rfl
          · rename_i k; exact same_of h5 (by simpa using k)
        rw [e]
        exact meet_gen a1 a2 b1 b2 w ha1 ha2 hb1 hb2 h1 h2 lo b2 hlo hb2 hmx 198 198 (.string a2) (.string b2) (.iface 198 (.string b2)) (.string a2) (.string b2) 235 236
          (fun w => end_key _ _ w h3) (fun w => end_key _ _ w h4) (nil_first_key a2) (meth_first_key a2) call_72 (fun w => key_first_other _ _ w h5) (meth_high_key b2) call_73 (key_high b2)
      · have e : highM a2 b2 = a2 := by
          unfold highM; rw [h3, h4]; simp only [Bool.false_eq_true, if_false]
          split
          · rename_i k; have := less_trans h5 k; rw [less_irrefl] at this; cases this
          · rfl
        rw [e]
        exact meet_gen a1 a2 b1 b2 w ha1 ha2 hb1 hb2 h1 h2 lo a2 hlo ha2 hmx 198 198 (.string a2) (.string a2) (.iface 198 (.string b2)) (.string a2) (.string a2) 235 236
          (fun w => end_key _ _ w h3) (fun w => end_key _ _ w h4) (nil_first_key a2) (meth_first_key a2) call_72 (fun w => key_first_mine _ _ w h5) (meth_high_key a2) call_73 (key_high a2)
    · have e : highM a2 b2 = a2 := by unfold highM; rw [h3, h4]; simp
      rw [e]
      exact meet_gen a1 a2 b1 b2 w ha1 ha2 hb1 hb2 h1 h2 lo a2 hlo ha2 hmx 198 198 (.string a2) (.string a2) (.iface 197 (.agg #[])) (.string a2) (.string a2) 235 236
        (fun w => end_key _ _ w h3) (fun w => end_open _ _ w h4) (nil_first_key a2) (meth_first_key a2) call_72 (fun w => key_first_open _ w) (meth_high_key a2) call_73 (key_high a2)
  · have e : highM a2 b2 = b2 := by unfold highM; rw [h3]; simp
    rw [e]
    cases h4 : b2.toList.isEmpty
    · exact meet_gen a1 a2 b1 b2 w ha1 ha2 hb1 hb2 h1 h2 lo b2 hlo hb2 hmx 197 198 (.agg #[]) (.string b2) (.iface 198 (.string b2)) (.agg #[]) (.string b2) 232 236
        (fun w => end_open _ _ w h3) (fun w => end_key _ _ w h4) nil_first_open meth_first_open call_69 (fun w => open_first _ w) (meth_high_key b2) call_73 (key_high b2)
    · have e2 := empty_is h4
      subst e2
      exact meet_gen a1 a2 b1 ⟨#[]⟩ w ha1 ha2 hb1 hb2 h1 h2 lo ⟨#[]⟩ hlo hsz hmx 197 197 (.agg #[]) (.agg #[]) (.iface 197 (.agg #[])) (.agg #[]) (.agg #[]) 232 233
        (fun w => end_open _ _ w h3) (fun w => end_open _ _ w h4) nil_first_open meth_first_open call_69 (fun w => open_first _ w) meth_high_open call_70 open_high

theorem lowM_size {x y : ByteArray} (hx : x.size ≤ maxLen) (hy : y.size ≤ maxLen) : (lowM x y).size ≤ maxLen := by unfold lowM; split <;> assumption
theorem highM_size {x y : ByteArray} (hx : x.size ≤ maxLen) (hy : y.size ≤ maxLen) : (highM x y).size ≤ maxLen := by unfold highM; split <;> (try split) <;> (try split) <;> assumption

theorem meet_any (a1 a2 b1 b2 : ByteArray) (w : World) (ha1 : a1.size ≤ maxLen) (ha2 : a2.size ≤ maxLen) (hb1 : b1.size ≤ maxLen) (hb2 : b2.size ≤ maxLen) (h1 : spanOkB a1 a2 = true) (h2 : spanOkB b1 b2 = true) :
    Calls Try.prog 100 #[.agg #[.string a1, .string a2], .agg #[.string b1, .string b2]] w (MeetPost (lowM a1 b1) (highM a2 b2) w) := by
  refine meet_high a1 a2 b1 b2 w ha1 ha2 hb1 hb2 h1 h2 (lowM a1 b1) (lowM_size ha1 hb1) (fun ts t w => ?_)
  cases h : Op.bytesLess a1.toList b1.toList
  · have e : lowM a1 b1 = a1 := by unfold lowM; rw [h]; simp
    rw [e]; exact run_max_keep ts t a1 b1 h w
  · have e : lowM a1 b1 = b1 := by unfold lowM; rw [h]; simp
    rw [e]; exact run_max_turn ts t a1 b1 h w

set_option maxHeartbeats 1000000 in
theorem meet_bad (a1 a2 b1 b2 : ByteArray) (w : World) (ha1 : a1.size ≤ maxLen) (ha2 : a2.size ≤ maxLen) (hb1 : b1.size ≤ maxLen) (hb2 : b2.size ≤ maxLen) (hn : (spanOkB a1 a2 && spanOkB b1 b2) = false) :
    Calls Try.prog 100 #[.agg #[.string a1, .string a2], .agg #[.string b1, .string b2]] w fun e w' => e = .returned (.tuple #[.agg #[.string ⟨#[]⟩, .string ⟨#[]⟩], .bool false]) ∧ Below w.heap.size w w' := by
  cases h1 : spanOkB a1 a2
  · clear hn
    go_enter Try.func100, Try.ntmps100
    go_wp2_with (go_at_call 145; refine (spanOk_is h1 ha1 ha2 _).mono ?_; rintro e w1 ⟨rfl, hw1⟩; obtain ⟨hc1, hf1⟩ := bcell hw1)
    refine bodyPost_ret (v := .tuple #[.agg #[.string ⟨#[]⟩, .string ⟨#[]⟩], .bool false]) (by simp [results, Try.results100, go_sem, hc1]) rfl ⟨rfl, ?_⟩
    refine Below.setCell (Below.setCell ?_ (zle2 _) _) (zle2 _) _
    exact ((((Below.refl _ _).alloc (Nat.le_refl _) _).alloc (by simp) _).alloc (by simp; omega) _).trans (hw1.mono (by simp; omega))
  · rw [h1] at hn
    have h2 : spanOkB b1 b2 = false := by simpa using hn
    clear hn
    go_enter Try.func100, Try.ntmps100
    go_wp2_with fail
    refine (spanOk_is h1 ha1 ha2 _).mono ?_; rintro e w1 ⟨rfl, hw1⟩; obtain ⟨hc1, hf1⟩ := bcell hw1
    have za : w.heap.size + 1 + 1 < w1.heap.size := by have := hw1.size; simp at this; omega
    have zb : w.heap.size + 1 < w1.heap.size := by omega
    go_wp2_with fail
    refine (spanOk_is h2 hb1 hb2 _).mono ?_; rintro e w2 ⟨rfl, hw2⟩; obtain ⟨hc2, hf2⟩ := bcell hw2
    go_wp2_with fail
    refine bodyPost_ret (v := .tuple #[.agg #[.string ⟨#[]⟩, .string ⟨#[]⟩], .bool false]) (by simp [results, Try.results100, go_sem, hc1, hc2, za]) rfl ⟨rfl, ?_⟩
    refine Below.setCell (Below.setCell ?_ (zle2 _) _) (zle2 _) _
    exact (((((Below.refl _ _).alloc (Nat.le_refl _) _).alloc (by simp) _).alloc (by simp; omega) _).trans (hw1.mono (by simp; omega))).trans (hw2.mono (by omega))

set_option maxHeartbeats 1000000 in
theorem specMeet_bad (a1 a2 b1 b2 : ByteArray) (w : World) (ha1 : a1.size ≤ maxLen) (ha2 : a2.size ≤ maxLen) (hb1 : b1.size ≤ maxLen) (hb2 : b2.size ≤ maxLen) (hn : (spanOkB a1 a2 && spanOkB b1 b2) = false) :
    Calls Try.prog 99 #[.agg #[.string a1, .string a2], .agg #[.string b1, .string b2]] w fun e w' => e = .returned (.tuple #[.agg #[.string ⟨#[]⟩, .string ⟨#[]⟩], .bool false]) ∧ Below w.heap.size w w' := by
  cases h1 : spanOkB a1 a2
  · clear hn
    go_enter Try.func99, Try.ntmps99
    go_wp2_with (go_at_call 143; refine (l1SpanOk_is h1 ha1 ha2 _).mono ?_; rintro e w1 ⟨rfl, hw1⟩; obtain ⟨hc1, hf1⟩ := bcell hw1)
    refine bodyPost_ret (v := .tuple #[.agg #[.string ⟨#[]⟩, .string ⟨#[]⟩], .bool false]) (by simp [results, Try.results99, go_sem, hc1]) rfl ⟨rfl, ?_⟩
    refine Below.setCell (Below.setCell ?_ (zle2 _) _) (zle2 _) _
    exact ((((Below.refl _ _).alloc (Nat.le_refl _) _).alloc (by simp) _).alloc (by simp; omega) _).trans (hw1.mono (by simp; omega))
  · rw [h1] at hn
    have h2 : spanOkB b1 b2 = false := by simpa using hn
    clear hn
    go_enter Try.func99, Try.ntmps99
    go_wp2_with fail
    refine (l1SpanOk_is h1 ha1 ha2 _).mono ?_; rintro e w1 ⟨rfl, hw1⟩; obtain ⟨hc1, hf1⟩ := bcell hw1
    have za : w.heap.size + 1 + 1 < w1.heap.size := by have := hw1.size; simp at this; omega
    have zb : w.heap.size + 1 < w1.heap.size := by omega
    go_wp2_with fail
    refine (l1SpanOk_is h2 hb1 hb2 _).mono ?_; rintro e w2 ⟨rfl, hw2⟩; obtain ⟨hc2, hf2⟩ := bcell hw2
    go_wp2_with fail
    refine bodyPost_ret (v := .tuple #[.agg #[.string ⟨#[]⟩, .string ⟨#[]⟩], .bool false]) (by simp [results, Try.results99, go_sem, hc1, hc2, za]) rfl ⟨rfl, ?_⟩
    refine Below.setCell (Below.setCell ?_ (zle2 _) _) (zle2 _) _
    exact (((((Below.refl _ _).alloc (Nat.le_refl _) _).alloc (by simp) _).alloc (by simp; omega) _).trans (hw1.mono (by simp; omega))).trans (hw2.mono (by omega))

end Go.Proofs.Ythjikcfpoomioaa
