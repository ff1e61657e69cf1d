/- When a note is ok, and what operation it is, as the program tells it. -/
import Derived.Test.YtncipibjlpfkhaaNote
import Derived.Test.YtncipibjlpfkhaaTxOk
namespace Go.Proofs.Ytncipibjlpfkhaa
open Go.RowKit

def HoldP (kd id at_ ti : Int) (ws : List WantD) (us : List WriteD) : Prop := kd = 1 ∧ id = 0 ∧ at_ = 0 ∧ TxnOkP ti ws us
def NoTxn (ti : Int) (ws : List WantD) (us : List WriteD) : Prop := ti = 0 ∧ ws.length = 0 ∧ us.length = 0
def DoP (kd id at_ ti : Int) (ws : List WantD) (us : List WriteD) : Prop := kd = 2 ∧ inB id 1 60 = true ∧ inB at_ 1 9999 = true ∧ NoTxn ti ws us
def LeaveP (kd id at_ ti : Int) (ws : List WantD) (us : List WriteD) : Prop := kd = 3 ∧ inB id 1 60 = true ∧ at_ = 0 ∧ NoTxn ti ws us
def NoteOkP (kd id at_ ti : Int) (ws : List WantD) (us : List WriteD) : Prop := HoldP kd id at_ ti ws us ∨ DoP kd id at_ ti ws us ∨ LeaveP kd id at_ ti ws us

theorem txnIdOk_is {i : Int} {b : Bool} (h : inB i 1 60 = b) (w : World) :
    Calls Try.prog 136 #[.int .i64 i] w fun e w' => e = .returned (.bool b) ∧ w = w' := h ▸ txnIdOk_any i w

theorem idOk_is {i : Int} {b : Bool} (h : inB i 1 9999 = b) (w : World) :
    Calls Try.prog 164 #[.int .i64 i] w fun e w' => e = .returned (.bool b) ∧ w = w' := h ▸ idOk_any i w

set_option maxHeartbeats 1000000 in
theorem txnZero_any (ti : Int) (a1 a2 : Option Addr) (ws : List WantD) (us : List WriteD) (k1 k2 : Nat) (w : World) :
    Calls Try.prog 165 #[.agg #[.int .i64 ti, .slice a1 ws.length k1, .slice a2 us.length k2]] w (BoolPost (NoTxn ti ws us) w) := by
  have hb0 : Below w.heap.size w (w.alloc (.cells #[.int .i64 ti, .slice a1 ws.length k1, .slice a2 us.length k2] 53)) := (Below.refl _ _).alloc (Nat.le_refl _) _
  have HB := Lib.hid hb0
  clear hb0
  by_cases h1 : ti = 0
  case neg =>
    have e1 : (ti == 0) = false := by simpa using h1
    go_enter Try.func165, Try.ntmps165
    go_wp2_with fail
    go_ret
    exact BoolPost.no (fun h => h1 h.1) HB.out
  have e1 : (ti == 0) = true := by simpa using h1
  have H1 := Lib.hid h1
  clear h1
  by_cases h2 : ws.length = 0
  case neg =>
    have e2 : ((ws.length : Int) == 0) = false := beq_eq_false_iff_ne.2 (by omega)
    have H2 := Lib.hid h2
    clear h2
    go_enter Try.func165, Try.ntmps165
    go_wp2_with fail
    go_ret
    exact BoolPost.no (fun h => H2.out h.2.1) HB.out
  have e2 : ((ws.length : Int) == 0) = true := beq_iff_eq.2 (by omega)
  have H2 := Lib.hid h2
  clear h2
  by_cases h3 : us.length = 0
  case neg =>
    have e3 : ((us.length : Int) == 0) = false := beq_eq_false_iff_ne.2 (by omega)
    have H3 := Lib.hid h3
    clear h3
    go_enter Try.func165, Try.ntmps165
    go_wp2_with fail
    go_ret
    exact BoolPost.no (fun h => H3.out h.2.2) HB.out
  have e3 : ((us.length : Int) == 0) = true := beq_iff_eq.2 (by omega)
  have H3 := Lib.hid h3
  clear h3
  go_enter Try.func165, Try.ntmps165
  go_wp2_with fail
  go_ret
  exact BoolPost.yes ⟨H1.out, H2.out, H3.out⟩ HB.out

/-- The operation that a note is. -/
def OpIs (kd id at_ ti : Int) (a1 a2 : Option Addr) (ws : List WantD) (us : List WriteD) (k1 k2 : Nat) (v : Value) (b : Bool) : Prop :=
  (b = false ∧ ¬ NoteOkP kd id at_ ti ws us) ∨ (b = true ∧ HoldP kd id at_ ti ws us ∧ v = .iface 219 (.agg #[.int .i64 ti, .slice a1 ws.length k1, .slice a2 us.length k2])) ∨ (b = true ∧ DoP kd id at_ ti ws us ∧ v = .iface 221 (.agg #[.int .i64 id, .int .i64 at_])) ∨ (b = true ∧ LeaveP kd id at_ ti ws us ∧ v = .iface 223 (.agg #[.int .i64 id]))
def OpPost (kd id at_ ti : Int) (a1 a2 : Option Addr) (ws : List WantD) (us : List WriteD) (k1 k2 : Nat) (w : World) (e : Ending) (w' : World) : Prop :=
  ∃ v b, e = .returned (.tuple #[v, .bool b]) ∧ OpIs kd id at_ ti a1 a2 ws us k1 k2 v b ∧ Below w.heap.size w w'
theorem OpIs.ok {kd id at_ ti : Int} {a1 a2 : Option Addr} {ws : List WantD} {us : List WriteD} {k1 k2 : Nat} {v : Value} {b : Bool} (h : OpIs kd id at_ ti a1 a2 ws us k1 k2 v b) : b = true ↔ NoteOkP kd id at_ ti ws us := by
  rcases h with ⟨rfl, h⟩ | ⟨rfl, h, _⟩ | ⟨rfl, h, _⟩ | ⟨rfl, h, _⟩
  · simpa using h
  · exact ⟨fun _ => .inl h, fun _ => rfl⟩
  · exact ⟨fun _ => .inr (.inl h), fun _ => rfl⟩
  · exact ⟨fun _ => .inr (.inr h), fun _ => rfl⟩
theorem OpPost.no {kd id at_ ti : Int} {a1 a2 : Option Addr} {ws : List WantD} {us : List WriteD} {k1 k2 : Nat} {w w' : World} {v : Value} (h : ¬ NoteOkP kd id at_ ti ws us) (hb : Below w.heap.size w w') : OpPost kd id at_ ti a1 a2 ws us k1 k2 w (.returned (.tuple #[v, .bool false])) w' := ⟨v, false, rfl, .inl ⟨rfl, h⟩, hb⟩

set_option maxRecDepth 100000 in
set_option maxHeartbeats 4000000 in
theorem operation_any (kd id at_ ti : Int) (a1 a2 : Option Addr) (ws : List WantD) (us : List WriteD) (k1 k2 : Nat) (w : World) (hv : WantsIn w a1 ws) (hu : WritesIn w a2 us) (hf : ∀ v ∈ ws, v.fits) (hg : ∀ v ∈ us, v.fits) (hn : ws.length ≤ 1048576) (hm : us.length ≤ 1048576) :
    Calls Try.prog 91 #[.agg #[.int .i64 kd, .int .i64 id, .int .i64 at_, .int .i64 ti, .slice a1 ws.length k1, .slice a2 us.length k2]] w (OpPost kd id at_ ti a1 a2 ws us k1 k2 w) := by
  have HV := Lib.hid hv
  have HU := Lib.hid hu
  have HF := Lib.hid hf
  have HG := Lib.hid hg
  clear hv hu hf hg
  obtain ⟨W1, hW1⟩ : ∃ W1, w.alloc (.cells #[.int .i64 kd, .int .i64 id, .int .i64 at_, .int .i64 ti, .slice a1 ws.length k1, .slice a2 us.length k2] 55) = W1 := ⟨_, rfl⟩
  have B1 : Below w.heap.size w W1 := by rw [← hW1]; exact (Below.refl _ _).alloc (Nat.le_refl _) _
  have z1 : w.heap.size < W1.heap.size := by rw [← hW1]; simp
  have c0 : W1.cell? ⟨w.heap.size, 0, none⟩ = some (.int .i64 kd) := by rw [← hW1]; simp [go_sem]
  have c1 : W1.cell? ⟨w.heap.size, 1, none⟩ = some (.int .i64 id) := by rw [← hW1]; simp [go_sem]
  have c2 : W1.cell? ⟨w.heap.size, 2, none⟩ = some (.int .i64 at_) := by rw [← hW1]; simp [go_sem]
  have c3 : W1.cell? ⟨w.heap.size, 3, none⟩ = some (.int .i64 ti) := by rw [← hW1]; simp [go_sem]
  have c4 : W1.cell? ⟨w.heap.size, 4, none⟩ = some (.slice a1 ws.length k1) := by rw [← hW1]; simp [go_sem]
  have c5 : W1.cell? ⟨w.heap.size, 5, none⟩ = some (.slice a2 us.length k2) := by rw [← hW1]; simp [go_sem]
  have HB := Lib.hid B1
  clear B1
  by_cases q1 : kd = 1
  · subst q1
    by_cases q2 : id = 0
    case neg =>
      have e2 : (id == 0) = false := by simpa using q2
      go_enter Try.func91, Try.ntmps91
      go_wp2_with fail
      go_ret2
      exact OpPost.no (fun h => by rcases h with h | h | h; exact q2 h.2.1; cases h.1; cases h.1) HB.out
    subst q2
    by_cases q3 : at_ = 0
    case neg =>
      have e3 : (at_ == 0) = false := by simpa using q3
      go_enter Try.func91, Try.ntmps91
      go_wp2_with fail
      go_ret2
      exact OpPost.no (fun h => by rcases h with h | h | h; exact q3 h.2.2.1; cases h.1; cases h.1) HB.out
    subst q3
    go_enter Try.func91, Try.ntmps91
    go_wp2_with fail
    clear hW1
    refine (txnOk_any ti a1 a2 ws us k1 k2 _ (HV.out.below HB.out) (HU.out.below HB.out) HF.out HG.out hn hm).mono ?_
    rintro e w2 ⟨b, rfl, hk, hb⟩
    have d0 := (hb.cell (p := ⟨w.heap.size, 0, none⟩) z1).trans c0
    have d3 := (hb.cell (p := ⟨w.heap.size, 3, none⟩) z1).trans c3
    have d4 := (hb.cell (p := ⟨w.heap.size, 4, none⟩) z1).trans c4
    have d5 := (hb.cell (p := ⟨w.heap.size, 5, none⟩) z1).trans c5
    have HB2 := Lib.hid (HB.out.trans (hb.mono HB.out.size))
    have HK := Lib.hid hk
    clear hb hk c0 c1 c2 c3 c4 c5
    cases b
    · go_wp2_with fail
      go_ret2
      exact OpPost.no (fun h => by rcases h with h | h | h; exact absurd (HK.out.2 h.2.2.2) (by decide); cases h.1; cases h.1) HB2.out
    · go_wp2_with fail
      go_ret2
      exact ⟨_, true, rfl, .inr (.inl ⟨rfl, ⟨rfl, rfl, rfl, HK.out.1 (by simp)⟩, rfl⟩), HB2.out⟩
  have e1 : (kd == 1) = false := by simpa using q1
  have Q1 := Lib.hid q1
  clear q1
  by_cases q2 : kd = 2
  · subst q2
    cases hI : inB id 1 60
    · go_enter Try.func91, Try.ntmps91
      go_wp2_with (go_at_call 136; refine (txnIdOk_is hI _).mono ?_; rintro e w2 ⟨rfl, rfl⟩)
      go_ret2
      exact OpPost.no (fun h => by rcases h with h | h | h; cases h.1; rw [h.2.1] at hI; cases hI; cases h.1) HB.out
    cases hA : inB at_ 1 9999
    · go_enter Try.func91, Try.ntmps91
      go_wp2_with (first | (go_at_call 136; refine (txnIdOk_is hI _).mono ?_; rintro e w2 ⟨rfl, rfl⟩) | (go_at_call 164; refine (idOk_is hA _).mono ?_; rintro e w2 ⟨rfl, rfl⟩))
      go_ret2
      exact OpPost.no (fun h => by rcases h with h | h | h; cases h.1; rw [h.2.2.1] at hA; cases hA; cases h.1) HB.out
    go_enter Try.func91, Try.ntmps91
    go_wp2_with (first | (go_at_call 136; refine (txnIdOk_is hI _).mono ?_; rintro e w2 ⟨rfl, rfl⟩) | (go_at_call 164; refine (idOk_is hA _).mono ?_; rintro e w2 ⟨rfl, rfl⟩))
    clear hW1
    refine (txnZero_any ti a1 a2 ws us k1 k2 _).mono ?_
    rintro e w2 ⟨b, rfl, hk, hb⟩
    have d0 := (hb.cell (p := ⟨w.heap.size, 0, none⟩) z1).trans c0
    have d1 := (hb.cell (p := ⟨w.heap.size, 1, none⟩) z1).trans c1
    have d2 := (hb.cell (p := ⟨w.heap.size, 2, none⟩) z1).trans c2
    have HB2 := Lib.hid (HB.out.trans (hb.mono HB.out.size))
    have HK := Lib.hid hk
    clear hb hk c0 c1 c2 c3 c4 c5
    cases b
    · go_wp2_with fail
      go_ret2
      exact OpPost.no (fun h => by rcases h with h | h | h; cases h.1; exact absurd (HK.out.2 h.2.2.2) (by decide); cases h.1) HB2.out
    · go_wp2_with fail
      go_ret2
      exact ⟨_, true, rfl, .inr (.inr (.inl ⟨rfl, ⟨rfl, hI, hA, HK.out.1 (by simp)⟩, rfl⟩)), HB2.out⟩
  have e2 : (kd == 2) = false := by simpa using q2
  have Q2 := Lib.hid q2
  clear q2
  by_cases q3 : kd = 3
  · subst q3
    cases hI : inB id 1 60
    · go_enter Try.func91, Try.ntmps91
      go_wp2_with (go_at_call 136; refine (txnIdOk_is hI _).mono ?_; rintro e w2 ⟨rfl, rfl⟩)
      go_ret2
      exact OpPost.no (fun h => by rcases h with h | h | h; cases h.1; cases h.1; rw [h.2.1] at hI; cases hI) HB.out
    by_cases q4 : at_ = 0
    case neg =>
      have e4 : (at_ == 0) = false := by simpa using q4
      go_enter Try.func91, Try.ntmps91
      go_wp2_with (go_at_call 136; refine (txnIdOk_is hI _).mono ?_; rintro e w2 ⟨rfl, rfl⟩)
      go_ret2
      exact OpPost.no (fun h => by rcases h with h | h | h; cases h.1; cases h.1; exact q4 h.2.2.1) HB.out
    subst q4
    go_enter Try.func91, Try.ntmps91
    go_wp2_with (go_at_call 136; refine (txnIdOk_is hI _).mono ?_; rintro e w2 ⟨rfl, rfl⟩)
    clear hW1
    refine (txnZero_any ti a1 a2 ws us k1 k2 _).mono ?_
    rintro e w2 ⟨b, rfl, hk, hb⟩
    have d1 := (hb.cell (p := ⟨w.heap.size, 1, none⟩) z1).trans c1
    have HB2 := Lib.hid (HB.out.trans (hb.mono HB.out.size))
    have HK := Lib.hid hk
    clear hb hk c0 c1 c2 c3 c4 c5
    cases b
    · go_wp2_with fail
      go_ret2
      exact OpPost.no (fun h => by rcases h with h | h | h; cases h.1; cases h.1; exact absurd (HK.out.2 h.2.2.2) (by decide)) HB2.out
    · go_wp2_with fail
      go_ret2
      exact ⟨_, true, rfl, .inr (.inr (.inr ⟨rfl, ⟨rfl, hI, rfl, HK.out.1 (by simp)⟩, rfl⟩)), HB2.out⟩
  have e3 : (kd == 3) = false := by simpa using q3
  go_enter Try.func91, Try.ntmps91
  go_wp2_with fail
  go_ret2
  exact OpPost.no (fun h => by rcases h with h | h | h; exact Q1.out h.1; exact Q2.out h.1; exact q3 h.1) HB.out

set_option maxHeartbeats 1000000 in
theorem noteOk_any (kd id at_ ti : Int) (a1 a2 : Option Addr) (ws : List WantD) (us : List WriteD) (k1 k2 : Nat) (w : World) (hv : WantsIn w a1 ws) (hu : WritesIn w a2 us) (hf : ∀ v ∈ ws, v.fits) (hg : ∀ v ∈ us, v.fits) (hn : ws.length ≤ 1048576) (hm : us.length ≤ 1048576) :
    Calls Try.prog 25 #[.agg #[.int .i64 kd, .int .i64 id, .int .i64 at_, .int .i64 ti, .slice a1 ws.length k1, .slice a2 us.length k2]] w (BoolPost (NoteOkP kd id at_ ti ws us) w) := by
  have hb0 : Below w.heap.size w (w.alloc (.cells #[.int .i64 kd, .int .i64 id, .int .i64 at_, .int .i64 ti, .slice a1 ws.length k1, .slice a2 us.length k2] 55)) := (Below.refl _ _).alloc (Nat.le_refl _) _
  have HV := Lib.hid (hv.below hb0)
  have HU := Lib.hid (hu.below hb0)
  have HF := Lib.hid hf
  have HG := Lib.hid hg
  have HB := Lib.hid hb0
  clear hv hu hf hg hb0
  go_enter Try.func25, Try.ntmps25
  go_wp2_with fail
  refine (operation_any kd id at_ ti a1 a2 ws us k1 k2 _ HV.out HU.out HF.out HG.out hn hm).mono ?_
  rintro e w2 ⟨v, b, rfl, hO, hb⟩
  have HO := Lib.hid hO.ok
  have HB2 := Lib.hid (HB.out.trans (hb.mono HB.out.size))
  clear hO hb
  go_wp2_with fail
  go_ret
  exact ⟨b, rfl, HO.out, HB2.out⟩
end Go.Proofs.Ytncipibjlpfkhaa
