/- The contract of the draw of two spans that may be joined. -/
import Derived.Test.YtandapnogpocmaaLawCut
namespace Go.Proofs.Ytandapnogpocmaa
open Go.RowKit

theorem cut_some (lo hi key : ByteArray) (hlo : lo.size ≤ maxLen) (hhi : hi.size ≤ maxLen) (hkey : key.size ≤ maxLen) :
    ∃ (x1 x2 y1 y2 : ByteArray) (b : Bool), (x1.size ≤ maxLen ∧ x2.size ≤ maxLen ∧ y1.size ≤ maxLen ∧ y2.size ≤ maxLen) ∧ CutIs 23 lo hi key x1 x2 y1 y2 b := by
  have hsz : (⟨#[]⟩ : ByteArray).size ≤ maxLen := by unfold maxLen; exact Nat.zero_le _
  cases h : cutOkB lo hi key
  · exact ⟨_, _, _, _, _, ⟨hsz, hsz, hsz, hsz⟩, fun w => specCut_no lo hi key w hlo hhi hkey h⟩
  · exact ⟨_, _, _, _, _, ⟨hlo, hkey, hkey, hhi⟩, fun w => specCut_yes lo hi key w hlo hhi hkey h⟩
theorem CutIs.call {f : Nat} {lo hi key x1 x2 y1 y2 : ByteArray} {b : Bool} (h : CutIs f lo hi key x1 x2 y1 y2 b) (w : World) :
    Calls Try.prog f #[.agg #[.string lo, .string hi], .string key] w fun e w' => e = .returned (.tuple #[.agg #[.string x1, .string x2], .agg #[.string y1, .string y2], .bool b]) ∧ Below w.heap.size w w' := h w

def SomeTwo (w : World) (e : Ending) (w' : World) : Prop := ∃ a1 a2 b1 b2 : ByteArray, a1.size ≤ maxLen ∧ a2.size ≤ maxLen ∧ b1.size ≤ maxLen ∧ b2.size ≤ maxLen ∧ e = .returned (.tuple #[.agg #[.string a1, .string a2], .agg #[.string b1, .string b2]]) ∧ Below w.heap.size w w'

set_option maxHeartbeats 4000000 in
theorem drawSpanMeet_any (a : Option Addr) (len cap : Nat) (w : World) (h : BytesIn w a len cap) :
    Calls Try.prog 27 #[.slice a len cap] w (SomeTwo w) := by
  have H := Lib.hid h
  clear h
  go_enter Try.func27, Try.ntmps27
  go_wp2_with fail
  with_reducible refine (l20Open_any a len cap (w.heap.size + 1 + 1) _ ?hg ?hb).mono ?_
  case hg => simp
  case hb => exact (H.out.alloc _).alloc _
  rintro e w1 ⟨rfl, hr, hb1⟩
  have n0 : w.heap.size ≠ w.heap.size + 1 + 1 := by omega
  have n1 : w.heap.size + 1 ≠ w.heap.size + 1 + 1 := by omega
  have n2 : w.heap.size ≠ w.heap.size + 1 := by omega
  have ZA := ((Zr.made _ _ _ w).alloc _).below hb1
  have ZB := (Zr.made2 _ _ _ _ w).below hb1
  have E1 := Lib.hid ((((Below.refl w.heap.size w).alloc (Nat.le_refl _) _).alloc (by simp) _).trans (hb1.mono (by simp; omega)))
  have HR := Lib.hid hr
  clear hr hb1 H
  go_wp2_with fail
  with_reducible refine (l20AnySpan_any (w.heap.size + 1 + 1) 0 w1 HR.out (by omega)).mono ?_
  rintro e w2 ⟨lo, hi, q, hq, hlo, hhi, rfl, hr, ho⟩
  have hr1 := hr.lt
  have n3 : w2.heap.size ≠ w.heap.size + 1 + 1 := by omega
  have n4 : w2.heap.size ≠ w.heap.size := by omega
  have n5 : w2.heap.size ≠ w.heap.size + 1 := by omega
  have zz := E1.out.size
  have ZA2 := ((ZA.only ho n0).alloc (.cells #[.string lo, .string hi] 24))
  have ZB2 := ((ZB.only ho n1).alloc (.cells #[.string lo, .string hi] 24))
  have E2 := Lib.hid (E1.out.trans (ho.below (B := w.heap.size) (by omega) zz))
  have HR2 := Lib.hid hr
  clear hr ho HR E1 ZA ZB
  go_upto_region 3 with fail
  have s0 : (w2.alloc (.cells #[.string lo, .string hi] 24)).cell? ⟨w2.heap.size, 0, none⟩ = some (.string lo) := by simp
  have s1 : (w2.alloc (.cells #[.string lo, .string hi] 24)).cell? ⟨w2.heap.size, 1, none⟩ = some (.string hi) := by simp
  go_region_held3 (fun u => u.cell? ⟨w2.heap.size, 0, none⟩ = some (.string lo) ∧ u.cell? ⟨w2.heap.size, 1, none⟩ = some (.string hi))
    (first | with_reducible exact ⟨s0, s1⟩ | with_reducible exact ⟨t0, t1⟩ | with_reducible exact keep2Set n4 ⟨t0, t1⟩ | with_reducible exact keep2Set n5 (keep2Set n4 ⟨t0, t1⟩) | with_reducible exact keep2Set n5 ⟨t0, t1⟩ | with_reducible exact keep2Set n4 (keep2Set n5 ⟨t0, t1⟩) | go_keep)
    (first
      | (go_at_call 36; (with_reducible refine (l20AnySpan_any (w.heap.size + 1 + 1) q _ ?hr3 (by omega)).mono ?_); (case hr3 => exact (HR2.out.alloc _).drew); rintro e w3 ⟨lo2, hi2, q2, hq2, hlo2, hhi2, rfl, hr3, ho30⟩; have ho3 := ((Only.refl (w.heap.size + 1 + 1) (w2.alloc (.cells #[.string lo, .string hi] 24))).drew).trans ho30; have t0 := (ho3.cell (p := ⟨w2.heap.size, 0, none⟩) (by simp) n3).trans s0; have t1 := (ho3.cell (p := ⟨w2.heap.size, 1, none⟩) (by simp) n3).trans s1; have ZC := ZA2.only ho3 n0; have ZD := ZB2.only ho3 n1; have a0 := ZC.c0; have a1 := ZC.c1; have a2 := ZC.f0; have a3 := ZC.f1; have b0 := ZD.c0; have b1 := ZD.c1; have b2 := ZD.f0; have b3 := ZD.f1))
  all_goals
    go_wp2_with fail
    refine bodyPost_ret (v := .tuple #[.agg #[.string lo, .string hi], .agg #[.string lo2, .string hi2]]) (by simp [results, Try.results27, go_sem, a0, a1, b0, b1]) rfl ⟨lo, hi, lo2, hi2, hlo, hhi, hlo2, hhi2, rfl, ?_⟩
    have e3 := (E2.out.alloc (by omega) _).trans (ho3.below (B := w.heap.size) (by omega) (by simp; omega))
    exact (((e3.setCell (p := ⟨w.heap.size, 0, none⟩) (Nat.le_refl _) _).setCell (p := ⟨w.heap.size, 1, none⟩) (Nat.le_refl _) _).setCell (p := ⟨w.heap.size + 1, 0, none⟩) (zle1 _) _).setCell (p := ⟨w.heap.size + 1, 1, none⟩) (zle1 _) _
end Go.Proofs.Ytandapnogpocmaa
