/- SpanMeet: the program's function and the model's return one and the same. -/
import Derived.Test.YtjijichgoodocaaMeet
namespace Go.Proofs.Ytjijichgoodocaa
open Go.RowKit

theorem call_69 (xs : Array Value) (w : World) : (callFunc 247 xs).run Try.prog w = .ok (.enter 247 xs) w := by kernel_rfl
theorem call_70 (xs : Array Value) (w : World) : (callFunc 248 xs).run Try.prog w = .ok (.enter 248 xs) w := by kernel_rfl
theorem call_72 (xs : Array Value) (w : World) : (callFunc 250 xs).run Try.prog w = .ok (.enter 250 xs) w := by kernel_rfl
theorem call_73 (xs : Array Value) (w : World) : (callFunc 251 xs).run Try.prog w = .ok (.enter 251 xs) w := by kernel_rfl

theorem empty_is {s : ByteArray} (h : s.toList.isEmpty = true) : s = ⟨#[]⟩ := bytes_eq (by rw [ByteArray.toList_eq ⟨#[]⟩]; simpa using h)
theorem same_of {x y : ByteArray} (h : Op.bytesLess x.toList y.toList = false) (k : Op.bytesLess y.toList x.toList = false) : x = y := by
  have e := bytesLess_le x.toList y.toList
  rw [h, k] at e
  exact bytes_eq (by simpa using e)

theorem meet_high (a1 a2 b1 b2 : ByteArray) (w : World) (ha1 : a1.size ≤ maxLen) (ha2 : a2.size ≤ maxLen) (hb1 : b1.size ≤ maxLen) (hb2 : b2.size ≤ maxLen) (h1 : spanOkB a1 a2 = true) (h2 : spanOkB b1 b2 = true)
    (lo : ByteArray) (hlo : lo.size ≤ maxLen) (hmx : ∀ (ts : Array TypeId) (t : TypeId) (w : World), (Builtin.max_ ts t #[.string a1, .string b1]).run Try.prog w = .ok (.string lo) w) :
    Calls Try.prog 124 #[.agg #[.string a1, .string a2], .agg #[.string b1, .string b2]] w (MeetPost lo (highM a2 b2) w) := by
  have hsz : (⟨#[]⟩ : ByteArray).size ≤ maxLen := by unfold maxLen; exact Nat.zero_le _
  cases h3 : a2.toList.isEmpty
  · cases h4 : b2.toList.isEmpty
    · cases h5 : Op.bytesLess a2.toList b2.toList
      · have e : highM a2 b2 = b2 := by
          unfold highM; rw [h3, h4]; simp only [Bool.false_eq_true, if_false]
          split
          · rfl
          · rename_i k; exact same_of h5 (by simpa using k)
        rw [e]
        exact meet_gen a1 a2 b1 b2 w ha1 ha2 hb1 hb2 h1 h2 lo b2 hlo hb2 hmx 183 183 (.string a2) (.string b2) (.iface 183 (.string b2)) (.string a2) (.string b2) 250 251
          (fun w => end_key _ _ w h3) (fun w => end_key _ _ w h4) (nil_first_key a2) (meth_first_key a2) call_72 (fun w => key_first_other _ _ w h5) (meth_high_key b2) call_73 (key_high b2)
      · have e : highM a2 b2 = a2 := by
          unfold highM; rw [h3, h4]; simp only [Bool.false_eq_true, if_false]
          split
          · rename_i k; have := less_trans h5 k; rw [less_irrefl] at this; cases this
          · rfl
        rw [e]
        exact meet_gen a1 a2 b1 b2 w ha1 ha2 hb1 hb2 h1 h2 lo a2 hlo ha2 hmx 183 183 (.string a2) (.string a2) (.iface 183 (.string b2)) (.string a2) (.string a2) 250 251
          (fun w => end_key _ _ w h3) (fun w => end_key _ _ w h4) (nil_first_key a2) (meth_first_key a2) call_72 (fun w => key_first_mine _ _ w h5) (meth_high_key a2) call_73 (key_high a2)
    · have e : highM a2 b2 = a2 := by unfold highM; rw [h3, h4]; simp
      rw [e]
      exact meet_gen a1 a2 b1 b2 w ha1 ha2 hb1 hb2 h1 h2 lo a2 hlo ha2 hmx 183 183 (.string a2) (.string a2) (.iface 182 (.agg #[])) (.string a2) (.string a2) 250 251
        (fun w => end_key _ _ w h3) (fun w => end_open _ _ w h4) (nil_first_key a2) (meth_first_key a2) call_72 (fun w => key_first_open _ w) (meth_high_key a2) call_73 (key_high a2)
  · have e : highM a2 b2 = b2 := by unfold highM; rw [h3]; simp
    rw [e]
    cases h4 : b2.toList.isEmpty
    · exact meet_gen a1 a2 b1 b2 w ha1 ha2 hb1 hb2 h1 h2 lo b2 hlo hb2 hmx 182 183 (.agg #[]) (.string b2) (.iface 183 (.string b2)) (.agg #[]) (.string b2) 247 251
        (fun w => end_open _ _ w h3) (fun w => end_key _ _ w h4) nil_first_open meth_first_open call_69 (fun w => open_first _ w) (meth_high_key b2) call_73 (key_high b2)
    · have e2 := empty_is h4
      subst e2
      exact meet_gen a1 a2 b1 ⟨#[]⟩ w ha1 ha2 hb1 hb2 h1 h2 lo ⟨#[]⟩ hlo hsz hmx 182 182 (.agg #[]) (.agg #[]) (.iface 182 (.agg #[])) (.agg #[]) (.agg #[]) 247 248
        (fun w => end_open _ _ w h3) (fun w => end_open _ _ w h4) nil_first_open meth_first_open call_69 (fun w => open_first _ w) meth_high_open call_70 open_high

theorem lowM_size {x y : ByteArray} (hx : x.size ≤ maxLen) (hy : y.size ≤ maxLen) : (lowM x y).size ≤ maxLen := by unfold lowM; split <;> assumption
theorem highM_size {x y : ByteArray} (hx : x.size ≤ maxLen) (hy : y.size ≤ maxLen) : (highM x y).size ≤ maxLen := by unfold highM; split <;> (try split) <;> (try split) <;> assumption

theorem meet_any (a1 a2 b1 b2 : ByteArray) (w : World) (ha1 : a1.size ≤ maxLen) (ha2 : a2.size ≤ maxLen) (hb1 : b1.size ≤ maxLen) (hb2 : b2.size ≤ maxLen) (h1 : spanOkB a1 a2 = true) (h2 : spanOkB b1 b2 = true) :
    Calls Try.prog 124 #[.agg #[.string a1, .string a2], .agg #[.string b1, .string b2]] w (MeetPost (lowM a1 b1) (highM a2 b2) w) := by
  refine meet_high a1 a2 b1 b2 w ha1 ha2 hb1 hb2 h1 h2 (lowM a1 b1) (lowM_size ha1 hb1) (fun ts t w => ?_)
  cases h : Op.bytesLess a1.toList b1.toList
  · have e : lowM a1 b1 = a1 := by unfold lowM; rw [h]; simp
    rw [e]; exact run_max_keep ts t a1 b1 h w
  · have e : lowM a1 b1 = b1 := by unfold lowM; rw [h]; simp
    rw [e]; exact run_max_turn ts t a1 b1 h w

set_option maxHeartbeats 1000000 in
theorem meet_bad (a1 a2 b1 b2 : ByteArray) (w : World) (ha1 : a1.size ≤ maxLen) (ha2 : a2.size ≤ maxLen) (hb1 : b1.size ≤ maxLen) (hb2 : b2.size ≤ maxLen) (hn : (spanOkB a1 a2 && spanOkB b1 b2) = false) :
    Calls Try.prog 124 #[.agg #[.string a1, .string a2], .agg #[.string b1, .string b2]] w fun e w' => e = .returned (.tuple #[.agg #[.string ⟨#[]⟩, .string ⟨#[]⟩], .bool false]) ∧ Below w.heap.size w w' := by
  cases h1 : spanOkB a1 a2
  · clear hn
    go_enter Try.func124, Try.ntmps124
    go_wp2_with (go_at_call 30; refine (spanOk_is h1 ha1 ha2 _).mono ?_; rintro e w1 ⟨rfl, hw1⟩; obtain ⟨hc1, hf1⟩ := bcell hw1)
    refine bodyPost_ret (v := .tuple #[.agg #[.string ⟨#[]⟩, .string ⟨#[]⟩], .bool false]) (by simp [results, Try.results124, go_sem, hc1]) rfl ⟨rfl, ?_⟩
    refine Below.setCell (Below.setCell ?_ (zle2m _) _) (zle2m _) _
    exact ((((Below.refl _ _).alloc (Nat.le_refl _) _).alloc (by simp) _).alloc (by simp; omega) _).trans (hw1.mono (by simp; omega))
  · rw [h1] at hn
    have h2 : spanOkB b1 b2 = false := by simpa using hn
    clear hn
    go_enter Try.func124, Try.ntmps124
    go_wp2_with fail
    refine (spanOk_is h1 ha1 ha2 _).mono ?_; rintro e w1 ⟨rfl, hw1⟩; obtain ⟨hc1, hf1⟩ := bcell hw1
    have za : w.heap.size + 1 + 1 < w1.heap.size := by have := hw1.size; simp at this; omega
    have zb : w.heap.size + 1 < w1.heap.size := by omega
    go_wp2_with fail
    refine (spanOk_is h2 hb1 hb2 _).mono ?_; rintro e w2 ⟨rfl, hw2⟩; obtain ⟨hc2, hf2⟩ := bcell hw2
    go_wp2_with fail
    refine bodyPost_ret (v := .tuple #[.agg #[.string ⟨#[]⟩, .string ⟨#[]⟩], .bool false]) (by simp [results, Try.results124, go_sem, hc1, hc2, za]) rfl ⟨rfl, ?_⟩
    refine Below.setCell (Below.setCell ?_ (zle2m _) _) (zle2m _) _
    exact (((((Below.refl _ _).alloc (Nat.le_refl _) _).alloc (by simp) _).alloc (by simp; omega) _).trans (hw1.mono (by simp; omega))).trans (hw2.mono (by omega))

set_option maxHeartbeats 1000000 in
theorem specMeet_bad (a1 a2 b1 b2 : ByteArray) (w : World) (ha1 : a1.size ≤ maxLen) (ha2 : a2.size ≤ maxLen) (hb1 : b1.size ≤ maxLen) (hb2 : b2.size ≤ maxLen) (hn : (spanOkB a1 a2 && spanOkB b1 b2) = false) :
    Calls Try.prog 126 #[.agg #[.string a1, .string a2], .agg #[.string b1, .string b2]] w fun e w' => e = .returned (.tuple #[.agg #[.string ⟨#[]⟩, .string ⟨#[]⟩], .bool false]) ∧ Below w.heap.size w w' := by
  cases h1 : spanOkB a1 a2
  · clear hn
    go_enter Try.func126, Try.ntmps126
    go_wp2_with (go_at_call 94; refine (l1SpanOk_is h1 ha1 ha2 _).mono ?_; rintro e w1 ⟨rfl, hw1⟩; obtain ⟨hc1, hf1⟩ := bcell hw1)
    refine bodyPost_ret (v := .tuple #[.agg #[.string ⟨#[]⟩, .string ⟨#[]⟩], .bool false]) (by simp [results, Try.results126, go_sem, hc1]) rfl ⟨rfl, ?_⟩
    refine Below.setCell (Below.setCell ?_ (zle2m _) _) (zle2m _) _
    exact ((((Below.refl _ _).alloc (Nat.le_refl _) _).alloc (by simp) _).alloc (by simp; omega) _).trans (hw1.mono (by simp; omega))
  · rw [h1] at hn
    have h2 : spanOkB b1 b2 = false := by simpa using hn
    clear hn
    go_enter Try.func126, Try.ntmps126
    go_wp2_with fail
    refine (l1SpanOk_is h1 ha1 ha2 _).mono ?_; rintro e w1 ⟨rfl, hw1⟩; obtain ⟨hc1, hf1⟩ := bcell hw1
    have za : w.heap.size + 1 + 1 < w1.heap.size := by have := hw1.size; simp at this; omega
    have zb : w.heap.size + 1 < w1.heap.size := by omega
    go_wp2_with fail
    refine (l1SpanOk_is h2 hb1 hb2 _).mono ?_; rintro e w2 ⟨rfl, hw2⟩; obtain ⟨hc2, hf2⟩ := bcell hw2
    go_wp2_with fail
    refine bodyPost_ret (v := .tuple #[.agg #[.string ⟨#[]⟩, .string ⟨#[]⟩], .bool false]) (by simp [results, Try.results126, go_sem, hc1, hc2, za]) rfl ⟨rfl, ?_⟩
    refine Below.setCell (Below.setCell ?_ (zle2m _) _) (zle2m _) _
    exact (((((Below.refl _ _).alloc (Nat.le_refl _) _).alloc (by simp) _).alloc (by simp; omega) _).trans (hw1.mono (by simp; omega))).trans (hw2.mono (by omega))

end Go.Proofs.Ytjijichgoodocaa

/- SpanMeet: the model's function; both together. -/
namespace Go.Proofs.Ytjijichgoodocaa
open Go.RowKit

theorem ok_parts {x y : ByteArray} (h : spanOkB x y = true) : okB keyB 6 x = true ∧ okB keyB 6 y = true := by
  unfold spanOkB at h; simp only [Bool.and_eq_true] at h; exact h.1
theorem ok_meet {x y : ByteArray} (hx : okB keyB 6 x = true) (hy : okB keyB 6 y = true) : spanOkB x y = (y.toList.isEmpty || Op.bytesLess x.toList y.toList) := by
  unfold spanOkB; rw [hx, hy]; rfl

set_option maxRecDepth 100000 in
set_option maxHeartbeats 2000000 in
theorem specMeet_yes (a1 a2 b1 b2 lo hi : ByteArray) (w : World) (ha1 : a1.size ≤ maxLen) (ha2 : a2.size ≤ maxLen) (hb1 : b1.size ≤ maxLen) (hb2 : b2.size ≤ maxLen) (h1 : spanOkB a1 a2 = true) (h2 : spanOkB b1 b2 = true)
    (hlo : (Op.bytesLess b1.toList a1.toList || b1.toList == a1.toList) = true ∧ lo = a1 ∨ (Op.bytesLess b1.toList a1.toList || b1.toList == a1.toList) = false ∧ lo = b1)
    (hhi : a2.toList.isEmpty = true ∧ hi = b2 ∨ a2.toList.isEmpty = false ∧ b2.toList.isEmpty = true ∧ hi = a2 ∨ a2.toList.isEmpty = false ∧ b2.toList.isEmpty = false ∧ Op.bytesLess b2.toList a2.toList = true ∧ hi = b2 ∨ a2.toList.isEmpty = false ∧ b2.toList.isEmpty = false ∧ Op.bytesLess b2.toList a2.toList = false ∧ hi = a2)
    (hfin : hi.toList.isEmpty = true ∨ hi.toList.isEmpty = false ∧ Op.bytesLess lo.toList hi.toList = true) :
    Calls Try.prog 126 #[.agg #[.string a1, .string a2], .agg #[.string b1, .string b2]] w fun e w' => e = .returned (.tuple #[.agg #[.string lo, .string hi], .bool true]) ∧ Below w.heap.size w w' := by
  go_enter Try.func126, Try.ntmps126
  go_wp2_with fail
  refine (l1SpanOk_is h1 ha1 ha2 _).mono ?_; rintro e w1 ⟨rfl, hw1⟩; obtain ⟨hc1, hf1⟩ := bcell hw1
  have za : w.heap.size + 1 + 1 < w1.heap.size := by have := hw1.size; simp at this; omega
  have zb : w.heap.size + 1 < w1.heap.size := by omega
  have zc : w.heap.size < w1.heap.size := by omega
  go_wp2_with fail
  refine (l1SpanOk_is h2 hb1 hb2 _).mono ?_; rintro e w2 ⟨rfl, hw2⟩; obtain ⟨hc2, hf2⟩ := bcell hw2
  have z3 : w.heap.size + 1 + 1 < w2.heap.size := by have := hw2.size; omega
  have z2 : w.heap.size + 1 < w2.heap.size := by omega
  have z2a : w.heap.size < w2.heap.size := by omega
  have p0 : w2.cell? ⟨w.heap.size, 0, none⟩ = some (.string a1) := by rw [hc2 _ _ zc, hc1 _ _ (by simp; omega)]; simp [go_sem]
  have p1 : w2.cell? ⟨w.heap.size, 1, none⟩ = some (.string a2) := by rw [hc2 _ _ zc, hc1 _ _ (by simp; omega)]; simp [go_sem]
  have p2 : w2.cell? ⟨w.heap.size + 1, 0, none⟩ = some (.string b1) := by rw [hc2 _ _ zb, hc1 _ _ (by simp)]; simp [go_sem]
  have p3 : w2.cell? ⟨w.heap.size + 1, 1, none⟩ = some (.string b2) := by rw [hc2 _ _ zb, hc1 _ _ (by simp)]; simp [go_sem]
  have r0 : w2.cell? ⟨w.heap.size + 1 + 1, 0, none⟩ = some (.string ⟨#[]⟩) := by rw [hc2 _ _ za, hc1 _ _ (by simp)]; simp [go_sem]
  have r1 : w2.cell? ⟨w.heap.size + 1 + 1, 1, none⟩ = some (.string ⟨#[]⟩) := by rw [hc2 _ _ za, hc1 _ _ (by simp)]; simp [go_sem]
  have r2 : w2.frozen? ⟨w.heap.size + 1 + 1, 0, none⟩ = false := by rw [hf2 _ _ za, hf1 _ _ (by simp)]; simp [go_sem]
  have r3 : w2.frozen? ⟨w.heap.size + 1 + 1, 1, none⟩ = false := by rw [hf2 _ _ za, hf1 _ _ (by simp)]; simp [go_sem]
  have E2 := Lib.hid ((((((Below.refl w.heap.size w).alloc (Nat.le_refl _) _).alloc (by simp) _).alloc (by simp; omega) _).trans (hw1.mono (by simp; omega))).trans (hw2.mono (by omega)))
  clear hw1 hw2 hc1 hc2 hf1 hf2 za zb zc
  rcases hlo with ⟨l1, rfl⟩ | ⟨l1, rfl⟩
  all_goals
    rcases hhi with ⟨k1, rfl⟩ | ⟨k1, k2, rfl⟩ | ⟨k1, k2, k3, rfl⟩ | ⟨k1, k2, k3, rfl⟩
  all_goals (rcases hfin with f1 | ⟨f1, f2⟩)
  all_goals (try (exfalso; rw [k1] at f1; cases f1; done))
  all_goals (try (exfalso; rw [k2] at f1; cases f1; done))
  all_goals
    go_wp2_with fail
    refine bodyPost_ret (v := (.tuple #[.agg #[.string lo, .string hi], .bool true])) (by simp [results, Try.results126, go_sem, r0, r1, z3]) rfl ⟨rfl, ?_⟩
    (repeat (first | with_reducible refine Below.alloc ?_ (by simp; omega) _ | with_reducible refine Below.setCell ?_ (zle2m _) _))
    exact E2.out

set_option maxRecDepth 100000 in
set_option maxHeartbeats 2000000 in
theorem specMeet_no (a1 a2 b1 b2 lo hi : ByteArray) (w : World) (ha1 : a1.size ≤ maxLen) (ha2 : a2.size ≤ maxLen) (hb1 : b1.size ≤ maxLen) (hb2 : b2.size ≤ maxLen) (h1 : spanOkB a1 a2 = true) (h2 : spanOkB b1 b2 = true)
    (hlo : (Op.bytesLess b1.toList a1.toList || b1.toList == a1.toList) = true ∧ lo = a1 ∨ (Op.bytesLess b1.toList a1.toList || b1.toList == a1.toList) = false ∧ lo = b1)
    (hhi : a2.toList.isEmpty = true ∧ hi = b2 ∨ a2.toList.isEmpty = false ∧ b2.toList.isEmpty = true ∧ hi = a2 ∨ a2.toList.isEmpty = false ∧ b2.toList.isEmpty = false ∧ Op.bytesLess b2.toList a2.toList = true ∧ hi = b2 ∨ a2.toList.isEmpty = false ∧ b2.toList.isEmpty = false ∧ Op.bytesLess b2.toList a2.toList = false ∧ hi = a2)
    (hfin : hi.toList.isEmpty = false ∧ Op.bytesLess lo.toList hi.toList = false) :
    Calls Try.prog 126 #[.agg #[.string a1, .string a2], .agg #[.string b1, .string b2]] w fun e w' => e = .returned (.tuple #[.agg #[.string ⟨#[]⟩, .string ⟨#[]⟩], .bool false]) ∧ Below w.heap.size w w' := by
  go_enter Try.func126, Try.ntmps126
  go_wp2_with fail
  refine (l1SpanOk_is h1 ha1 ha2 _).mono ?_; rintro e w1 ⟨rfl, hw1⟩; obtain ⟨hc1, hf1⟩ := bcell hw1
  have za : w.heap.size + 1 + 1 < w1.heap.size := by have := hw1.size; simp at this; omega
  have zb : w.heap.size + 1 < w1.heap.size := by omega
  have zc : w.heap.size < w1.heap.size := by omega
  go_wp2_with fail
  refine (l1SpanOk_is h2 hb1 hb2 _).mono ?_; rintro e w2 ⟨rfl, hw2⟩; obtain ⟨hc2, hf2⟩ := bcell hw2
  have z3 : w.heap.size + 1 + 1 < w2.heap.size := by have := hw2.size; omega
  have z2 : w.heap.size + 1 < w2.heap.size := by omega
  have z2a : w.heap.size < w2.heap.size := by omega
  have p0 : w2.cell? ⟨w.heap.size, 0, none⟩ = some (.string a1) := by rw [hc2 _ _ zc, hc1 _ _ (by simp; omega)]; simp [go_sem]
  have p1 : w2.cell? ⟨w.heap.size, 1, none⟩ = some (.string a2) := by rw [hc2 _ _ zc, hc1 _ _ (by simp; omega)]; simp [go_sem]
  have p2 : w2.cell? ⟨w.heap.size + 1, 0, none⟩ = some (.string b1) := by rw [hc2 _ _ zb, hc1 _ _ (by simp)]; simp [go_sem]
  have p3 : w2.cell? ⟨w.heap.size + 1, 1, none⟩ = some (.string b2) := by rw [hc2 _ _ zb, hc1 _ _ (by simp)]; simp [go_sem]
  have r0 : w2.cell? ⟨w.heap.size + 1 + 1, 0, none⟩ = some (.string ⟨#[]⟩) := by rw [hc2 _ _ za, hc1 _ _ (by simp)]; simp [go_sem]
  have r1 : w2.cell? ⟨w.heap.size + 1 + 1, 1, none⟩ = some (.string ⟨#[]⟩) := by rw [hc2 _ _ za, hc1 _ _ (by simp)]; simp [go_sem]
  have r2 : w2.frozen? ⟨w.heap.size + 1 + 1, 0, none⟩ = false := by rw [hf2 _ _ za, hf1 _ _ (by simp)]; simp [go_sem]
  have r3 : w2.frozen? ⟨w.heap.size + 1 + 1, 1, none⟩ = false := by rw [hf2 _ _ za, hf1 _ _ (by simp)]; simp [go_sem]
  have E2 := Lib.hid ((((((Below.refl w.heap.size w).alloc (Nat.le_refl _) _).alloc (by simp) _).alloc (by simp; omega) _).trans (hw1.mono (by simp; omega))).trans (hw2.mono (by omega)))
  clear hw1 hw2 hc1 hc2 hf1 hf2 za zb zc
  obtain ⟨f1, f2⟩ := hfin
  rcases hlo with ⟨l1, rfl⟩ | ⟨l1, rfl⟩
  all_goals
    rcases hhi with ⟨k1, rfl⟩ | ⟨k1, k2, rfl⟩ | ⟨k1, k2, k3, rfl⟩ | ⟨k1, k2, k3, rfl⟩
  all_goals (try (exfalso; rw [k2] at f1; cases f1; done))
  all_goals
    go_wp2_with fail
    refine bodyPost_ret (v := (.tuple #[.agg #[.string ⟨#[]⟩, .string ⟨#[]⟩], .bool false])) (by simp [results, Try.results126, go_sem, r0, r1, z3]) rfl ⟨rfl, ?_⟩
    (repeat (first | with_reducible refine Below.alloc ?_ (by simp; omega) _ | with_reducible refine Below.setCell ?_ (zle2m _) _))
    exact E2.out

theorem specMeet_any (a1 a2 b1 b2 : ByteArray) (w : World) (ha1 : a1.size ≤ maxLen) (ha2 : a2.size ≤ maxLen) (hb1 : b1.size ≤ maxLen) (hb2 : b2.size ≤ maxLen) (h1 : spanOkB a1 a2 = true) (h2 : spanOkB b1 b2 = true) :
    Calls Try.prog 126 #[.agg #[.string a1, .string a2], .agg #[.string b1, .string b2]] w (MeetPost (lowM a1 b1) (highM a2 b2) w) := by
  obtain ⟨q1, q2⟩ := ok_parts h1
  obtain ⟨q3, q4⟩ := ok_parts h2
  have hl : (Op.bytesLess b1.toList a1.toList || b1.toList == a1.toList) = true ∧ lowM a1 b1 = a1 ∨ (Op.bytesLess b1.toList a1.toList || b1.toList == a1.toList) = false ∧ lowM a1 b1 = b1 := by
    rw [bytesLess_le b1.toList a1.toList]
    unfold lowM
    cases h : Op.bytesLess a1.toList b1.toList
    · exact .inl ⟨rfl, by simp⟩
    · exact .inr ⟨rfl, by simp⟩
  have hh : a2.toList.isEmpty = true ∧ highM a2 b2 = b2 ∨ a2.toList.isEmpty = false ∧ b2.toList.isEmpty = true ∧ highM a2 b2 = a2 ∨ a2.toList.isEmpty = false ∧ b2.toList.isEmpty = false ∧ Op.bytesLess b2.toList a2.toList = true ∧ highM a2 b2 = b2 ∨ a2.toList.isEmpty = false ∧ b2.toList.isEmpty = false ∧ Op.bytesLess b2.toList a2.toList = false ∧ highM a2 b2 = a2 := by
    unfold highM
    cases h : a2.toList.isEmpty
    · cases k : b2.toList.isEmpty
      · cases l : Op.bytesLess b2.toList a2.toList
        · exact .inr (.inr (.inr ⟨rfl, rfl, rfl, by simp⟩))
        · exact .inr (.inr (.inl ⟨rfl, rfl, rfl, by simp⟩))
      · exact .inr (.inl ⟨rfl, rfl, by simp⟩)
    · exact .inl ⟨rfl, by simp⟩
  have o1 : okB keyB 6 (lowM a1 b1) = true := by unfold lowM; split <;> assumption
  have o2 : okB keyB 6 (highM a2 b2) = true := by unfold highM; split <;> (try split) <;> (try split) <;> assumption
  have e := ok_meet o1 o2
  unfold MeetPost
  rw [e]
  cases h : (highM a2 b2).toList.isEmpty
  · cases k : Op.bytesLess (lowM a1 b1).toList (highM a2 b2).toList
    · exact specMeet_no a1 a2 b1 b2 _ _ w ha1 ha2 hb1 hb2 h1 h2 hl hh ⟨h, k⟩
    · exact specMeet_yes a1 a2 b1 b2 _ _ w ha1 ha2 hb1 hb2 h1 h2 hl hh (.inr ⟨h, k⟩)
  · exact specMeet_yes a1 a2 b1 b2 _ _ w ha1 ha2 hb1 hb2 h1 h2 hl hh (.inl h)

def meetB (a1 a2 b1 b2 : ByteArray) : Bool := spanOkB a1 a2 && spanOkB b1 b2 && spanOkB (lowM a1 b1) (highM a2 b2)
def mLo (a1 a2 b1 b2 : ByteArray) : ByteArray := bif meetB a1 a2 b1 b2 then lowM a1 b1 else ⟨#[]⟩
def mHi (a1 a2 b1 b2 : ByteArray) : ByteArray := bif meetB a1 a2 b1 b2 then highM a2 b2 else ⟨#[]⟩
theorem meet_form {a1 a2 b1 b2 : ByteArray} (h : (spanOkB a1 a2 && spanOkB b1 b2) = true) : (bif spanOkB (lowM a1 b1) (highM a2 b2) then Value.tuple #[.agg #[.string (lowM a1 b1), .string (highM a2 b2)], .bool true] else .tuple #[.agg #[.string ⟨#[]⟩, .string ⟨#[]⟩], .bool false]) = .tuple #[.agg #[.string (mLo a1 a2 b1 b2), .string (mHi a1 a2 b1 b2)], .bool (meetB a1 a2 b1 b2)] := by
  unfold mLo mHi meetB
  rw [h]
  cases k : spanOkB (lowM a1 b1) (highM a2 b2) <;> rfl
theorem spanMeet_any (a1 a2 b1 b2 : ByteArray) (w : World) (ha1 : a1.size ≤ maxLen) (ha2 : a2.size ≤ maxLen) (hb1 : b1.size ≤ maxLen) (hb2 : b2.size ≤ maxLen) :
    Calls Try.prog 124 #[.agg #[.string a1, .string a2], .agg #[.string b1, .string b2]] w fun e w' => e = .returned (.tuple #[.agg #[.string (mLo a1 a2 b1 b2), .string (mHi a1 a2 b1 b2)], .bool (meetB a1 a2 b1 b2)]) ∧ Below w.heap.size w w' := by
  cases h : (spanOkB a1 a2 && spanOkB b1 b2)
  · refine (meet_bad a1 a2 b1 b2 w ha1 ha2 hb1 hb2 h).mono fun e w' ⟨he, hb⟩ => ⟨?_, hb⟩
    rw [he]; unfold mLo mHi meetB; rw [h]; rfl
  · have h' := h
    simp only [Bool.and_eq_true] at h'
    exact (meet_any a1 a2 b1 b2 w ha1 ha2 hb1 hb2 h'.1 h'.2).mono fun e w' ⟨he, hb⟩ => ⟨by rw [he, meet_form h], hb⟩
theorem specSpanMeet_any (a1 a2 b1 b2 : ByteArray) (w : World) (ha1 : a1.size ≤ maxLen) (ha2 : a2.size ≤ maxLen) (hb1 : b1.size ≤ maxLen) (hb2 : b2.size ≤ maxLen) :
    Calls Try.prog 126 #[.agg #[.string a1, .string a2], .agg #[.string b1, .string b2]] w fun e w' => e = .returned (.tuple #[.agg #[.string (mLo a1 a2 b1 b2), .string (mHi a1 a2 b1 b2)], .bool (meetB a1 a2 b1 b2)]) ∧ Below w.heap.size w w' := by
  cases h : (spanOkB a1 a2 && spanOkB b1 b2)
  · refine (specMeet_bad a1 a2 b1 b2 w ha1 ha2 hb1 hb2 h).mono fun e w' ⟨he, hb⟩ => ⟨?_, hb⟩
    rw [he]; unfold mLo mHi meetB; rw [h]; rfl
  · have h' := h
    simp only [Bool.and_eq_true] at h'
    exact (specMeet_any a1 a2 b1 b2 w ha1 ha2 hb1 hb2 h'.1 h'.2).mono fun e w' ⟨he, hb⟩ => ⟨by rw [he, meet_form h], hb⟩
end Go.Proofs.Ytjijichgoodocaa
