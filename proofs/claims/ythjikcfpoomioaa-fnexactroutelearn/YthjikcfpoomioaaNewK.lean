/- Is something of it known by a later map? The program's closure and its search; a copy of a list. -/
import Derived.Test.YthjikcfpoomioaaPutK
namespace Go.Proofs.Ythjikcfpoomioaa
open Go.RowKit

def oldB (ep : Int) (v : KnownD) : Bool := !(decide (ep < v.f3))

set_option maxHeartbeats 1000000 in
theorem newer_any (ep : Int) (v : KnownD) (bx : Nat) (w : World) (hx : w.cell? ⟨bx, 3, none⟩ = some (.int .i64 ep)) (hb : bx < w.heap.size) :
    Calls Try.prog 106 #[.agg #[.string v.f0, .string v.f1, .int .i64 v.f2, .int .i64 v.f3], .pointer (some ⟨bx, 0, none⟩)] w fun e w' => e = .returned (.bool (!(oldB ep v))) ∧ Below w.heap.size w w' := by
  have x3 : (w.alloc (.cells #[.string v.f0, .string v.f1, .int .i64 v.f2, .int .i64 v.f3] 48)).cell? ⟨bx, 3, none⟩ = some (.int .i64 ep) := (((Below.refl w.heap.size w).alloc (Nat.le_refl _) _).cell (p := ⟨bx, 3, none⟩) hb).trans hx
  go_enter Try.func106, Try.ntmps106
  go_wp2_with fail
  go_ret
  exact ⟨ret_bool (by simp [oldB]), (Below.refl _ _).alloc (Nat.le_refl _) _⟩

set_option maxHeartbeats 1000000 in
theorem newIdx_any (ep : Int) (bx : Nat) (a : Option Addr) (vs : List KnownD) (cap : Nat) (w : World) (hv : KnownsIn w a vs) (hn : vs.length ≤ maxLen) (hx : w.cell? ⟨bx, 3, none⟩ = some (.int .i64 ep)) (hb : bx < w.heap.size) :
    Calls Try.prog 158 #[.slice a vs.length cap, .func (.func 106) #[] #[.pointer (some ⟨bx, 0, none⟩)]] w fun e w' => ((e = .returned (.int .i64 (-1)) ∧ OkBy (oldB ep) vs vs.length) ∨ (∃ k : Nat, e = .returned (.int .i64 (k : Int)) ∧ ¬ OkBy (oldB ep) vs vs.length)) ∧ Below w.heap.size w w' := by
  unfold maxLen at hn
  have HV := Lib.hid hv
  clear hv
  go_enter Try.func158, Try.ntmps158
  go_wp2_with fail
  go_loopw [8] (fun i wr => ∃ k : Nat, k ≤ vs.length ∧ i = .int .i64 k ∧ Below w.heap.size w wr ∧ OkBy (oldB ep) vs k) (fun i _ => vs.length - (intOf i).toNat)
  case atStart => exact ⟨0, Nat.zero_le _, rfl, Below.refl _ _, OkBy.zero _ _⟩
  case round =>
    obtain ⟨k, hk, rfl, hB, hO⟩ := hrel
    have y := (hB.cell (p := ⟨bx, 3, none⟩) hb).trans hx
    have hb2 : bx < wr.heap.size := Nat.lt_of_lt_of_le hb hB.size
    have HW := Lib.hid hB
    have HO := Lib.hid hO
    have HY := Lib.hid (And.intro y hb2)
    clear hB hO y hb2
    by_cases hlt : k < vs.length
    · rcases HV.out.below HW.out with hnil | ⟨b1, o1, rfl, hb1, hc1⟩
      · rw [hnil] at hlt; simp at hlt
      obtain ⟨c0, c1, c2, c3⟩ := hc1 k hlt
      clear hc1
      go_wp2_with fail
      refine (newer_any ep vs[k] bx _ HY.out.1 HY.out.2).mono ?_
      rintro e w2 ⟨rfl, hb2⟩
      have HW2 := Lib.hid (HW.out.trans (hb2.mono HW.out.size))
      clear hb2
      cases hK : oldB ep vs[k]
      · go_wp2_with fail
        go_ret
        exact ⟨.inr ⟨k, rfl, OkBy.not hlt hK⟩, HW2.out⟩
      · go_wp2_with fail
        go_roundw
        case rel => exact ⟨k + 1, by omega, by go_num, HW2.out, HO.out.succ hlt hK⟩
        case measure => simp [intOf]; omega
    · obtain rfl : k = vs.length := by omega
      go_wp2_with fail
      go_ret
      exact ⟨.inl ⟨rfl, HO.out⟩, HW.out⟩

set_option maxHeartbeats 1000000 in
theorem newHas_any (ep : Int) (bx : Nat) (a : Option Addr) (vs : List KnownD) (cap : Nat) (w : World) (hv : KnownsIn w a vs) (hn : vs.length ≤ maxLen) (hx : w.cell? ⟨bx, 3, none⟩ = some (.int .i64 ep)) (hb : bx < w.heap.size) :
    Calls Try.prog 108 #[.slice a vs.length cap, .func (.func 106) #[] #[.pointer (some ⟨bx, 0, none⟩)]] w fun e w' => ∃ b : Bool, e = .returned (.bool b) ∧ (b = false ↔ OkBy (oldB ep) vs vs.length) ∧ Below w.heap.size w w' := by
  have HV := Lib.hid hv
  clear hv
  go_enter Try.func108, Try.ntmps108
  go_wp2_with fail
  refine (newIdx_any ep bx a vs cap _ HV.out hn hx hb).mono ?_
  rintro e w2 ⟨⟨rfl, ho⟩ | ⟨k, rfl, ho⟩, hb2⟩
  · have HO := Lib.hid ho
    have HB := Lib.hid hb2
    clear ho hb2
    go_wp2_with fail
    go_ret
    exact ⟨false, rfl, by simpa using HO.out, HB.out⟩
  · have HO := Lib.hid ho
    have HB := Lib.hid hb2
    clear ho hb2
    go_wp2_with fail
    go_ret
    exact ⟨true, ret_bool (by simp), by simpa using HO.out, HB.out⟩

theorem eqNilKnown (b o n c : Nat) (w : World) : (binOp .eql 41 (.slice (some ⟨b, o, none⟩) n c) (.slice none 0 0)).run Try.prog w = .ok (.bool false) w := by first | kernel_rfl | rfl | (simp [binOp, go_sem]; done)

set_option maxRecDepth 100000 in
set_option maxHeartbeats 1000000 in
theorem cloneKnown_any (a : Option Addr) (vs : List KnownD) (cap : Nat) (w : World) (hv : KnownsIn w a vs) (h0 : 0 < vs.length) (hlen : vs.length ≤ 1048576) :
    Calls Try.prog 110 #[.slice a vs.length cap] w fun e w' => ∃ g cp, e = .returned (.slice (some ⟨g, 0, none⟩) vs.length cp) ∧ w'.ownsRow w.heap.size 48 4 (.slice (some ⟨g, 0, none⟩) vs.length cp) vs.length (vs.flatMap knownCells) ∧ Below w.heap.size w w' := by
  rcases hv with hnil | ⟨b1, o1, rfl, hb1, hc1⟩
  · rw [hnil] at h0; simp at h0
  have HD := Lib.hid (fun (u : World) (hu : Below w.heap.size w u) => knowns_news (w := u) (b := b1) (off := o1) (vs := vs) (fun i h => ⟨(hu.cell (p := ⟨b1, o1 + i * 4, none⟩) hb1).trans (hc1 i h).1, (hu.cell (p := ⟨b1, o1 + i * 4 + 1, none⟩) hb1).trans (hc1 i h).2.1, (hu.cell (p := ⟨b1, o1 + i * 4 + 2, none⟩) hb1).trans (hc1 i h).2.2.1, (hu.cell (p := ⟨b1, o1 + i * 4 + 3, none⟩) hb1).trans (hc1 i h).2.2.2⟩))
  clear hc1
  have hnl := eqNilKnown b1 o1
  obtain ⟨i0, hi, hz0, hz1, hz2⟩ := info_parts infoKnown
  go_enter Try.func110, Try.ntmps110
  go_wp2_with (at_builtin; refine wpList_append_lies _ rfl _ _ 41 rfl w.heap.size 48 i0 (.agg #[.string ⟨#[]⟩, .string ⟨#[]⟩, .int .i64 0, .int .i64 0]) 4 48 Try.underlying41 hi hz0 hz1 hz2 rfl (by decide) _ 0 [] rfl (empty_knowns (heap_alloc_new _ _) (Nat.le_refl _)) ⟨b1, o1, none⟩ vs.length cap (vs.flatMap knownCells) rfl (knowns_len vs) (HD.out _ ((Below.refl _ _).alloc (Nat.le_refl _) _)) (knowns_one vs) h0 (by unfold maxLen; omega) (by omega) (by simp) _ rfl ?_; intro g cp w2 hown hgrow hat hlt2; have X := Lib.hid (And.intro hown (Below.grown ((Below.refl w.heap.size w).alloc (Nat.le_refl _) _) hgrow (by simp) (fun j hj => by cases hj; exact Nat.le_refl _))); clear hown hgrow hat hlt2)
  go_ret
  obtain ⟨hown, hbA⟩ := X.out
  rw [Nat.zero_add, List.nil_append] at hown
  exact ⟨g, cp, by simp, hown, hbA⟩
end Go.Proofs.Ythjikcfpoomioaa
