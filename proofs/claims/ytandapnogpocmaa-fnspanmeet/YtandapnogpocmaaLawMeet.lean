/- The walk of the law FnSpanMeet: what is in both is in each. -/
import Derived.Test.YtandapnogpocmaaMeetC
namespace Go.Proofs.Ytandapnogpocmaa
open Go.RowKit

theorem less_le_trans {x y z : List UInt8} (h : Op.bytesLess x y = true) (k : Op.bytesLess z y = false) : Op.bytesLess x z = true := by
  cases e : Op.bytesLess x z
  · have f := bytesLess_le z x
    rw [e] at f
    simp only [Bool.not_false, Bool.or_eq_true, beq_iff_eq] at f
    rcases f with f | rfl
    · rw [less_trans f h] at k; cases k
    · rw [h] at k; cases k
  · rfl
theorem le_less_trans {x y z : List UInt8} (h : Op.bytesLess y x = false) (k : Op.bytesLess y z = true) : Op.bytesLess x z = true := by
  cases e : Op.bytesLess x z
  · have := less_le_trans k e; rw [this] at h; cases h
  · rfl

theorem low_has (a b key : ByteArray) : Op.bytesLess key.toList (lowM a b).toList = (Op.bytesLess key.toList a.toList || Op.bytesLess key.toList b.toList) := by
  unfold lowM
  split
  · rename_i h
    cases e : Op.bytesLess key.toList a.toList
    · simp
    · rw [less_trans e h]; rfl
  · rename_i h
    have h' : Op.bytesLess a.toList b.toList = false := by simpa using h
    cases e : Op.bytesLess key.toList b.toList
    · simp
    · rw [less_le_trans e h']; rfl
theorem high_has (a b key : ByteArray) : ((highM a b).toList.isEmpty || Op.bytesLess key.toList (highM a b).toList) = ((a.toList.isEmpty || Op.bytesLess key.toList a.toList) && (b.toList.isEmpty || Op.bytesLess key.toList b.toList)) := by
  unfold highM
  cases ha : a.toList.isEmpty
  · cases hb : b.toList.isEmpty
    · cases hl : Op.bytesLess b.toList a.toList
      · simp only [Bool.false_eq_true, if_false, ha, Bool.false_or]
        cases e : Op.bytesLess key.toList a.toList
        · rfl
        · rw [less_le_trans e hl]; rfl
      · simp only [Bool.false_eq_true, if_false, if_true, hb, Bool.false_or]
        cases e : Op.bytesLess key.toList b.toList
        · simp
        · rw [less_trans e hl]; rfl
    · simp [ha]
  · simp
theorem has_meet (a1 a2 b1 b2 key : ByteArray) (h1 : spanOkB a1 a2 = true) (h2 : spanOkB b1 b2 = true) :
    (spanHasB a1 a2 key && spanHasB b1 b2 key) = (spanOkB (lowM a1 b1) (highM a2 b2) && spanHasB (lowM a1 b1) (highM a2 b2) key) := by
  obtain ⟨q1, q2⟩ := ok_parts h1
  obtain ⟨q3, q4⟩ := ok_parts h2
  have o1 : okB keyB 6 (lowM a1 b1) = true := by unfold lowM; split <;> assumption
  have o2 : okB keyB 6 (highM a2 b2) = true := by unfold highM; split <;> (try split) <;> (try split) <;> assumption
  have l := low_has a1 b1 key
  have u := high_has a2 b2 key
  have e := ok_meet o1 o2
  unfold spanHasB
  rw [h1, h2]
  unfold hasB
  cases kk : keyOkB key
  · simp
  · simp only [Bool.true_and, Bool.and_true]
    rw [l, u]
    cases c1 : Op.bytesLess key.toList a1.toList
    · cases c2 : Op.bytesLess key.toList b1.toList
      · cases c3 : (a2.toList.isEmpty || Op.bytesLess key.toList a2.toList)
        · simp
        · cases c4 : (b2.toList.isEmpty || Op.bytesLess key.toList b2.toList)
          · simp
          · have hk : spanOkB (lowM a1 b1) (highM a2 b2) = true := by
              rw [e]
              rw [c3, c4] at u
              rw [c1, c2] at l
              cases d : (highM a2 b2).toList.isEmpty
              · rw [d] at u
                have u' : Op.bytesLess key.toList (highM a2 b2).toList = true := by simpa using u
                rw [le_less_trans (by simpa using l) u']; rfl
              · rfl
            rw [hk]; rfl
      · simp
    · simp

theorem low_comm (a b : ByteArray) : lowM a b = lowM b a := by
  unfold lowM
  cases e : Op.bytesLess a.toList b.toList <;> cases f : Op.bytesLess b.toList a.toList
  · simp; exact same_of e f
  · simp
  · simp
  · have := less_trans e f; rw [less_irrefl] at this; cases this
theorem high_comm (a b : ByteArray) : highM a b = highM b a := by
  unfold highM
  cases ha : a.toList.isEmpty <;> cases hb : b.toList.isEmpty
  · cases e : Op.bytesLess a.toList b.toList <;> cases f : Op.bytesLess b.toList a.toList
    · simp; exact same_of e f
    · simp
    · simp
    · have := less_trans e f; rw [less_irrefl] at this; cases this
  · simp
  · simp
  · simp; rw [empty_is ha, empty_is hb]

theorem PairIs.call {f : Nat} {a1 a2 b1 b2 x1 x2 : ByteArray} {b : Bool} (h : PairIs f a1 a2 b1 b2 x1 x2 b) (w : World) :
    Calls Try.prog f #[.agg #[.string a1, .string a2], .agg #[.string b1, .string b2]] w fun e w' => e = .returned (.tuple #[.agg #[.string x1, .string x2], .bool b]) ∧ Below w.heap.size w w' := h w

/-- All that the law asks of the meeting of two spans. -/
theorem meet_facts (a1 a2 b1 b2 : ByteArray) (ha1 : a1.size ≤ maxLen) (ha2 : a2.size ≤ maxLen) (hb1 : b1.size ≤ maxLen) (hb2 : b2.size ≤ maxLen) :
    ∃ (x1 x2 : ByteArray) (b : Bool), x1.size ≤ maxLen ∧ x2.size ≤ maxLen ∧ PairIs 28 a1 a2 b1 b2 x1 x2 b ∧ PairIs 29 a1 a2 b1 b2 x1 x2 b ∧
      (spanOkB a1 a2 = true → spanOkB b1 b2 = true → PairIs 28 b1 b2 a1 a2 x1 x2 b ∧ ∀ key, (spanHasB a1 a2 key && spanHasB b1 b2 key) = (b && spanHasB x1 x2 key)) := by
  have hsz : (⟨#[]⟩ : ByteArray).size ≤ maxLen := by unfold maxLen; exact Nat.zero_le _
  cases h : (spanOkB a1 a2 && spanOkB b1 b2)
  · refine ⟨_, _, _, hsz, hsz, fun w => meet_bad a1 a2 b1 b2 w ha1 ha2 hb1 hb2 h, fun w => specMeet_bad a1 a2 b1 b2 w ha1 ha2 hb1 hb2 h, fun k1 k2 => ?_⟩
    rw [k1, k2] at h; cases h
  · simp only [Bool.and_eq_true] at h
    obtain ⟨h1, h2⟩ := h
    cases k : spanOkB (lowM a1 b1) (highM a2 b2)
    · refine ⟨⟨#[]⟩, ⟨#[]⟩, false, hsz, hsz, fun w => (meet_any a1 a2 b1 b2 w ha1 ha2 hb1 hb2 h1 h2).mono ?_, fun w => (specMeet_any a1 a2 b1 b2 w ha1 ha2 hb1 hb2 h1 h2).mono ?_, fun _ _ => ⟨fun w => (meet_any b1 b2 a1 a2 w hb1 hb2 ha1 ha2 h2 h1).mono ?_, fun key => ?_⟩⟩
      · rintro e w' ⟨he, hb⟩; rw [k] at he; exact ⟨he, hb⟩
      · rintro e w' ⟨he, hb⟩; rw [k] at he; exact ⟨he, hb⟩
      · rintro e w' ⟨he, hb⟩; rw [low_comm, high_comm, k] at he; exact ⟨he, hb⟩
      · rw [has_meet a1 a2 b1 b2 key h1 h2, k]; rfl
    · refine ⟨lowM a1 b1, highM a2 b2, true, lowM_size ha1 hb1, highM_size ha2 hb2, fun w => (meet_any a1 a2 b1 b2 w ha1 ha2 hb1 hb2 h1 h2).mono ?_, fun w => (specMeet_any a1 a2 b1 b2 w ha1 ha2 hb1 hb2 h1 h2).mono ?_, fun _ _ => ⟨fun w => (meet_any b1 b2 a1 a2 w hb1 hb2 ha1 ha2 h2 h1).mono ?_, fun key => ?_⟩⟩
      · rintro e w' ⟨he, hb⟩; rw [k] at he; exact ⟨he, hb⟩
      · rintro e w' ⟨he, hb⟩; rw [k] at he; exact ⟨he, hb⟩
      · rintro e w' ⟨he, hb⟩; rw [low_comm b1 a1, high_comm b2 a2, k] at he; exact ⟨he, hb⟩
      · rw [has_meet a1 a2 b1 b2 key h1 h2, k]
end Go.Proofs.Ytandapnogpocmaa
