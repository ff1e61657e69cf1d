/- When a transaction is ok: the program's and the model's answer. -/
import Derived.Test.YthjikcfpoomioaaLsOk
namespace Go.Proofs.Ythjikcfpoomioaa
open Go.RowKit Go.Maps Go.WideMaps

def TxnOkP (id : Int) (ws : List WantD) (us : List WriteD) : Prop :=
  inB id 1 60 = true ∧ LOk wantOkB WantD.f0 ws ws.length ∧ LOk writeOkB WriteD.f0 us us.length ∧ us.length ≤ 4 ∧ ws.length ≤ 4 ∧ 0 < us.length + ws.length

theorem txnIdOk_any (i : Int) (w : World) :
    Calls Try.prog 166 #[.int .i64 i] w fun e w' => e = .returned (.bool (inB i 1 60)) ∧ w = w' := by
  have hm : (i < 1 ∧ inB i 1 60 = false) ∨ (1 ≤ i ∧ i ≤ 60 ∧ inB i 1 60 = true) ∨ (1 ≤ i ∧ 60 < i ∧ inB i 1 60 = false) := by
    by_cases h1 : i < 1
    · exact .inl ⟨h1, by simp [inB]; omega⟩
    · by_cases h2 : i ≤ 60
      · exact .inr (.inl ⟨by omega, h2, by simp [inB]; omega⟩)
      · exact .inr (.inr ⟨by omega, by omega, by simp [inB]; omega⟩)
  rcases hm with ⟨h1, hI⟩ | ⟨h1, h2, hI⟩ | ⟨h1, h2, hI⟩
  all_goals
    have HI := Lib.hid hI
    clear hI
    go_enter Try.func166, Try.ntmps166
    go_wp2
    go_ret
    exact ⟨ret_bool (by first | exact HI.out.symm | (rw [HI.out]; simp; omega)), rfl⟩

set_option maxRecDepth 100000 in
set_option maxHeartbeats 1000000 in
theorem txnOk_any (id : Int) (a1 a2 : Option Addr) (ws : List WantD) (us : List WriteD) (k1 k2 : Nat) (w : World) (hv : WantsIn w a1 ws) (hu : WritesIn w a2 us) (hf : ∀ v ∈ ws, v.fits) (hg : ∀ v ∈ us, v.fits) (hn : ws.length ≤ 1048576) (hm : us.length ≤ 1048576) :
    Calls Try.prog 124 #[.agg #[.int .i64 id, .slice a1 ws.length k1, .slice a2 us.length k2]] w (BoolPost (TxnOkP id ws us) w) := by
  have HV := Lib.hid hv
  have HU := Lib.hid hu
  have HF := Lib.hid hf
  have HG := Lib.hid hg
  clear hv hu hf hg
  have hb0 : Below w.heap.size w (w.alloc (.cells #[.int .i64 id, .slice a1 ws.length k1, .slice a2 us.length k2] 93)) := (Below.refl _ _).alloc (Nat.le_refl _) _
  cases hI : inB id 1 60
  case false =>
    go_enter Try.func124, Try.ntmps124
    go_wp2_with (go_at_call 166; refine (txnIdOk_any _ _).mono ?_; rintro e w' ⟨rfl, rfl⟩; rw [hI])
    go_ret
    exact BoolPost.no (fun h => by have := h.1; rw [hI] at this; cases this) hb0
  by_cases h3 : 0 < ws.length + us.length
  case neg =>
    have h3' : decide (0 < (ws.length : Int) + (us.length : Int)) = false := by simp; omega
    go_enter Try.func124, Try.ntmps124
    go_wp2_with (go_at_call 166; refine (txnIdOk_any _ _).mono ?_; rintro e w' ⟨rfl, rfl⟩; rw [hI])
    go_ret
    exact BoolPost.no (fun h => by have := h.2.2.2.2.2; omega) hb0
  have h3' : 0 < (ws.length : Int) + (us.length : Int) := by omega
  have HI := Lib.hid hI
  have H3 := Lib.hid h3
  clear h3
  go_enter Try.func124, Try.ntmps124
  go_wp2_with (go_at_call 166; refine (txnIdOk_any _ _).mono ?_; rintro e w' ⟨rfl, rfl⟩; rw [hI])
  refine (listOkWant_any a1 ws k1 _ (HV.out.below hb0) HF.out (by unfold maxLen; omega)).mono ?_
  rintro e w1 ⟨b1, rfl, q1, hb1⟩
  have c1 := hb1.cell (p := ⟨w.heap.size, 2, none⟩) (by simp)
  simp [go_sem] at c1
  have B1 := Lib.hid (hb0.trans (hb1.mono (by simp)))
  have Q1 := Lib.hid q1
  clear hb1 q1 hb0
  cases b1
  · go_wp2_with fail
    go_ret
    exact BoolPost.no (fun h => by simpa using Q1.out.2 ⟨h.2.2.2.2.1, h.2.1⟩) B1.out
  · go_wp2_with fail
    refine (listOkWrite_any a2 us k2 _ (HU.out.below B1.out) HG.out (by unfold maxLen; omega)).mono ?_
    rintro e w2 ⟨b2, rfl, q2, hb2⟩
    have B2 := Lib.hid (B1.out.trans (hb2.mono B1.out.size))
    have Q2 := Lib.hid q2
    clear hb2 q2
    cases b2
    · go_wp2_with fail
      go_ret
      exact BoolPost.no (fun h => by simpa using Q2.out.2 ⟨h.2.2.2.1, h.2.2.1⟩) B2.out
    · go_wp2_with fail
      go_ret
      have r1 := Q1.out.1 (by simp)
      have r2 := Q2.out.1 (by simp)
      exact BoolPost.yes ⟨HI.out, r1.2, r2.2, r2.1, r1.1, by have := H3.out; omega⟩ B2.out

theorem seenB_zero {α : Type} {key : α → ByteArray} (vs : List α) (s : ByteArray) : seenB key vs 0 s = false := by simp [seenB]
theorem seenB_succ {α : Type} {key : α → ByteArray} {vs : List α} {t : Nat} (h : t < vs.length) (s : ByteArray) : seenB key vs (t + 1) s = (seenB key vs t s || ((key vs[t]).toList == s.toList)) := by
  unfold seenB
  rw [List.take_succ_eq_append_getElem h, List.any_append, List.any_cons, List.any_nil, Bool.or_false]
end Go.Proofs.Ythjikcfpoomioaa
