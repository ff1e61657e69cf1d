/- When a note is ok, as the model tells it. -/
import Derived.Test.YtncipibjlpfkhaaNoteI
import Derived.Test.YtncipibjlpfkhaaTxOkS
namespace Go.Proofs.Ytncipibjlpfkhaa
open Go.RowKit

set_option maxRecDepth 100000 in
set_option maxHeartbeats 4000000 in
theorem l9Ok_any (kd id at_ ti : Int) (a1 a2 : Option Addr) (ws : List WantD) (us : List WriteD) (k1 k2 : Nat) (w : World) (hv : WantsIn w a1 ws) (hu : WritesIn w a2 us) (hf : ∀ v ∈ ws, v.fits) (hg : ∀ v ∈ us, v.fits) (hn : ws.length ≤ 1048576) (hm : us.length ≤ 1048576) :
    Calls Try.prog 90 #[.agg #[.int .i64 kd, .int .i64 id, .int .i64 at_, .int .i64 ti, .slice a1 ws.length k1, .slice a2 us.length k2]] w (BoolPost (NoteOkP kd id at_ ti ws us) w) := by
  have HV := Lib.hid hv
  have HU := Lib.hid hu
  have HF := Lib.hid hf
  have HG := Lib.hid hg
  clear hv hu hf hg
  obtain ⟨W1, hW1⟩ : ∃ W1, w.alloc (.cells #[.int .i64 kd, .int .i64 id, .int .i64 at_, .int .i64 ti, .slice a1 ws.length k1, .slice a2 us.length k2] 55) = W1 := ⟨_, rfl⟩
  have B1 : Below w.heap.size w W1 := by rw [← hW1]; exact (Below.refl _ _).alloc (Nat.le_refl _) _
  have z1 : w.heap.size < W1.heap.size := by rw [← hW1]; simp
  have c0 : W1.cell? ⟨w.heap.size, 0, none⟩ = some (.int .i64 kd) := by rw [← hW1]; simp [go_sem]
  have c1 : W1.cell? ⟨w.heap.size, 1, none⟩ = some (.int .i64 id) := by rw [← hW1]; simp [go_sem]
  have c2 : W1.cell? ⟨w.heap.size, 2, none⟩ = some (.int .i64 at_) := by rw [← hW1]; simp [go_sem]
  have c3 : W1.cell? ⟨w.heap.size, 3, none⟩ = some (.int .i64 ti) := by rw [← hW1]; simp [go_sem]
  have c4 : W1.cell? ⟨w.heap.size, 4, none⟩ = some (.slice a1 ws.length k1) := by rw [← hW1]; simp [go_sem]
  have c5 : W1.cell? ⟨w.heap.size, 5, none⟩ = some (.slice a2 us.length k2) := by rw [← hW1]; simp [go_sem]
  have HB := Lib.hid B1
  clear B1
  have hN : (¬ NoTxn ti ws us ∧ ((ti == 0) = false ∨ ((ti == 0) = true ∧ ((ws.length : Int) == 0) = false) ∨ ((ti == 0) = true ∧ ((ws.length : Int) == 0) = true ∧ ((us.length : Int) == 0) = false))) ∨ (NoTxn ti ws us ∧ (ti == 0) = true ∧ ((ws.length : Int) == 0) = true ∧ ((us.length : Int) == 0) = true) := by
    by_cases h1 : ti = 0
    case neg => exact .inl ⟨fun h => h1 h.1, .inl (by simpa using h1)⟩
    by_cases h2 : ws.length = 0
    case neg => exact .inl ⟨fun h => h2 h.2.1, .inr (.inl ⟨by simpa using h1, beq_eq_false_iff_ne.2 (by omega)⟩)⟩
    by_cases h3 : us.length = 0
    case neg => exact .inl ⟨fun h => h3 h.2.2, .inr (.inr ⟨by simpa using h1, beq_iff_eq.2 (by omega), beq_eq_false_iff_ne.2 (by omega)⟩)⟩
    exact .inr ⟨⟨h1, h2, h3⟩, by simpa using h1, beq_iff_eq.2 (by omega), beq_iff_eq.2 (by omega)⟩
  by_cases q1 : kd = 1
  · subst q1
    by_cases q2 : id = 0
    case neg =>
      have e2 : (id == 0) = false := by simpa using q2
      rcases hN with ⟨hN, h | ⟨h, h'⟩ | ⟨h, h', h''⟩⟩ | ⟨hN, h, h', h''⟩
      all_goals
        have HN := Lib.hid hN
        clear hN
        go_enter Try.func90, Try.ntmps90
        go_wp2_with fail
        go_ret
        exact BoolPost.no (fun h => by rcases h with h | h | h; exact q2 h.2.1; cases h.1; cases h.1) HB.out
    subst q2
    by_cases q3 : at_ = 0
    case neg =>
      have e3 : (at_ == 0) = false := by simpa using q3
      rcases hN with ⟨hN, h | ⟨h, h'⟩ | ⟨h, h', h''⟩⟩ | ⟨hN, h, h', h''⟩
      all_goals
        have HN := Lib.hid hN
        clear hN
        go_enter Try.func90, Try.ntmps90
        go_wp2_with fail
        go_ret
        exact BoolPost.no (fun h => by rcases h with h | h | h; exact q3 h.2.2.1; cases h.1; cases h.1) HB.out
    subst q3
    rcases hN with ⟨hN, h | ⟨h, h'⟩ | ⟨h, h', h''⟩⟩ | ⟨hN, h, h', h''⟩
    all_goals
      have HN := Lib.hid hN
      clear hN
      go_enter Try.func90, Try.ntmps90
      go_wp2_with fail
      clear hW1
      refine (l4TxnOk_any ti a1 a2 ws us k1 k2 _ (HV.out.below HB.out) (HU.out.below HB.out) HF.out HG.out hn hm).mono ?_
      rintro e w2 ⟨b, rfl, hk, hb⟩
      have HB2 := Lib.hid (HB.out.trans (hb.mono HB.out.size))
      have HK := Lib.hid hk
      clear hb hk
      go_wp2_with fail
      go_ret
      exact ⟨b, rfl, HK.out.trans ⟨fun h => .inl ⟨rfl, rfl, rfl, h⟩, fun h => by rcases h with h | h | h; exact h.2.2.2; cases h.1; cases h.1⟩, HB2.out⟩
  have e1 : (kd == 1) = false := by simpa using q1
  have Q1 := Lib.hid q1
  clear q1
  by_cases q2 : kd = 2
  · subst q2
    rcases hN with ⟨hN, hh⟩ | ⟨hN, h, h', h''⟩
    · rcases hh with h | ⟨h, h'⟩ | ⟨h, h', h''⟩
      all_goals
        have HN := Lib.hid hN
        clear hN
        go_enter Try.func90, Try.ntmps90
        go_wp2_with fail
        go_ret
        exact BoolPost.no (fun h => by rcases h with h | h | h; cases h.1; exact HN.out h.2.2.2; cases h.1) HB.out
    · have HN := Lib.hid hN
      clear hN
      cases hI : inB id 1 60
      · go_enter Try.func90, Try.ntmps90
        go_wp2_with (go_at_call 147; refine (l1In_is hI _).mono ?_; rintro e w2 ⟨rfl, rfl⟩)
        go_ret
        exact BoolPost.no (fun h => by rcases h with h | h | h; cases h.1; rw [h.2.1] at hI; cases hI; cases h.1) HB.out
      cases hA : inB at_ 1 9999
      · go_enter Try.func90, Try.ntmps90
        go_wp2_with fail
        refine (l1In_is hI _).mono ?_
        rintro e w2 ⟨rfl, rfl⟩
        go_wp2_with fail
        refine (l1In_is hA _).mono ?_
        rintro e w2 ⟨rfl, rfl⟩
        go_wp2_with fail
        go_ret
        exact BoolPost.no (fun h => by rcases h with h | h | h; cases h.1; rw [h.2.2.1] at hA; cases hA; cases h.1) HB.out
      · go_enter Try.func90, Try.ntmps90
        go_wp2_with fail
        refine (l1In_is hI _).mono ?_
        rintro e w2 ⟨rfl, rfl⟩
        go_wp2_with fail
        refine (l1In_is hA _).mono ?_
        rintro e w2 ⟨rfl, rfl⟩
        go_wp2_with fail
        go_ret
        exact BoolPost.yes (.inr (.inl ⟨rfl, hI, hA, HN.out⟩)) HB.out
  have e2 : (kd == 2) = false := by simpa using q2
  have Q2 := Lib.hid q2
  clear q2
  by_cases q3 : kd = 3
  · subst q3
    rcases hN with ⟨hN, hh⟩ | ⟨hN, h, h', h''⟩
    · rcases hh with h | ⟨h, h'⟩ | ⟨h, h', h''⟩
      all_goals
        have HN := Lib.hid hN
        clear hN
        go_enter Try.func90, Try.ntmps90
        go_wp2_with fail
        go_ret
        exact BoolPost.no (fun h => by rcases h with h | h | h; cases h.1; cases h.1; exact HN.out h.2.2.2) HB.out
    · have HN := Lib.hid hN
      clear hN
      cases hI : inB id 1 60
      · go_enter Try.func90, Try.ntmps90
        go_wp2_with (go_at_call 147; refine (l1In_is hI _).mono ?_; rintro e w2 ⟨rfl, rfl⟩)
        go_ret
        exact BoolPost.no (fun h => by rcases h with h | h | h; cases h.1; cases h.1; rw [h.2.1] at hI; cases hI) HB.out
      by_cases q4 : at_ = 0
      · have e4 : (at_ == 0) = true := by simpa using q4
        have Q4 := Lib.hid q4
        clear q4
        go_enter Try.func90, Try.ntmps90
        go_wp2_with (go_at_call 147; refine (l1In_is hI _).mono ?_; rintro e w2 ⟨rfl, rfl⟩)
        go_ret
        exact BoolPost.yes (.inr (.inr ⟨rfl, hI, Q4.out, HN.out⟩)) HB.out
      · have e4 : (at_ == 0) = false := by simpa using q4
        go_enter Try.func90, Try.ntmps90
        go_wp2_with (go_at_call 147; refine (l1In_is hI _).mono ?_; rintro e w2 ⟨rfl, rfl⟩)
        go_ret
        exact BoolPost.no (fun h => by rcases h with h | h | h; cases h.1; cases h.1; exact q4 h.2.2.1) HB.out
  have e3 : (kd == 3) = false := by simpa using q3
  rcases hN with ⟨hN, h | ⟨h, h'⟩ | ⟨h, h', h''⟩⟩ | ⟨hN, h, h', h''⟩
  all_goals
    have HN := Lib.hid hN
    clear hN
    go_enter Try.func90, Try.ntmps90
    go_wp2_with fail
    go_ret
    exact BoolPost.no (fun h => by rcases h with h | h | h; exact Q1.out h.1; exact Q2.out h.1; exact q3 h.1) HB.out

set_option maxHeartbeats 1000000 in
theorem specNoteOk_any (kd id at_ ti : Int) (a1 a2 : Option Addr) (ws : List WantD) (us : List WriteD) (k1 k2 : Nat) (w : World) (hv : WantsIn w a1 ws) (hu : WritesIn w a2 us) (hf : ∀ v ∈ ws, v.fits) (hg : ∀ v ∈ us, v.fits) (hn : ws.length ≤ 1048576) (hm : us.length ≤ 1048576) :
    Calls Try.prog 23 #[.agg #[.int .i64 kd, .int .i64 id, .int .i64 at_, .int .i64 ti, .slice a1 ws.length k1, .slice a2 us.length k2]] w (BoolPost (NoteOkP kd id at_ ti ws us) w) := by
  have hb0 : Below w.heap.size w (w.alloc (.cells #[.int .i64 kd, .int .i64 id, .int .i64 at_, .int .i64 ti, .slice a1 ws.length k1, .slice a2 us.length k2] 55)) := (Below.refl _ _).alloc (Nat.le_refl _) _
  have HV := Lib.hid (hv.below hb0)
  have HU := Lib.hid (hu.below hb0)
  have HF := Lib.hid hf
  have HG := Lib.hid hg
  have HB := Lib.hid hb0
  clear hv hu hf hg hb0
  go_enter Try.func23, Try.ntmps23
  go_wp2_with fail
  refine (l9Ok_any kd id at_ ti a1 a2 ws us k1 k2 _ HV.out HU.out HF.out HG.out hn hm).mono ?_
  rintro e w2 ⟨b, rfl, hO, hb⟩
  have HO := Lib.hid hO
  have HB2 := Lib.hid (HB.out.trans (hb.mono HB.out.size))
  clear hO hb
  go_wp2_with fail
  go_ret
  exact ⟨b, rfl, HO.out, HB2.out⟩
end Go.Proofs.Ytncipibjlpfkhaa
