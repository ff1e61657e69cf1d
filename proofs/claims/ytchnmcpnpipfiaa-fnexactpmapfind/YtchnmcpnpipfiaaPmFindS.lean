/- The row of a key, as the model tells it. -/
import Derived.Test.YtchnmcpnpipfiaaPmSpanS
import Derived.Test.YtchnmcpnpipfiaaSpan
namespace Go.Proofs.Ytchnmcpnpipfiaa
open Go.RowKit

def leB (x y : ByteArray) : Bool := Op.bytesLess x.toList y.toList || x.toList == y.toList
/-- Whether the rows from 1 to k begin no later than the key. -/
def FindTo (vs : List RowD) (key : ByteArray) (k : Nat) : Prop := k < vs.length ∧ ∀ i, 1 ≤ i → i ≤ k → leB (loOf vs i) key = true
def FindAt (vs : List RowD) (key : ByteArray) (k : Nat) : Prop := FindTo vs key k ∧ (k + 1 < vs.length → leB (loOf vs (k + 1)) key = false)
theorem FindAt.unique {vs : List RowD} {key : ByteArray} {j k : Nat} (h : FindAt vs key j) (g : FindAt vs key k) : j = k := by
  rcases Nat.lt_trichotomy j k with hlt | rfl | hlt
  · have := h.2 (by have := g.1.1; omega); rw [g.1.2 (j + 1) (by omega) (by omega)] at this; cases this
  · rfl
  · have := g.2 (by have := h.1.1; omega); rw [h.1.2 (k + 1) (by omega) (by omega)] at this; cases this

set_option maxRecDepth 100000 in
set_option maxHeartbeats 1000000 in
theorem l5Find_any (ep : Int) (a : Option Addr) (vs : List RowD) (cap : Nat) (key : ByteArray) (w : World) (hv : RowsIn w a vs) (h0 : 0 < vs.length) (hlen : vs.length ≤ 1048576) :
    Calls Try.prog 65 #[.agg #[.int .i64 ep, .slice a vs.length cap], .string key] w fun e w' => ∃ k : Nat, e = .returned (.int .i64 (k : Int)) ∧ FindAt vs key k ∧ Below w.heap.size w w' := by
  rcases hv with hnil | ⟨b1, o1, rfl, hb1, hc1⟩
  · rw [hnil] at h0; simp at h0
  have hb2 : b1 < w.heap.size + 1 := by omega
  have HC := Lib.hid hc1
  clear hc1
  go_enter Try.func65, Try.ntmps65
  go_wp2_with fail
  go_loop [5] (fun i => ∃ k : Nat, i = .int .i64 (k : Int) ∧ FindTo vs key k) (fun i => vs.length - (intOf i).toNat)
  case atStart => exact ⟨0, rfl, h0, fun i h1 h2 => by omega⟩
  case round =>
    obtain ⟨k, rfl, hF⟩ := hrel
    have hk := hF.1
    have HF := Lib.hid hF
    clear hF
    by_cases hlt : k + 1 < vs.length
    · have e0 := (HC.out (k + 1) hlt).1
      have hd : decide ((k : Int) + 1 < (vs.length : Int)) = true := by simp; omega
      cases hO : (Op.bytesLess vs[k + 1].f0.toList key.toList || vs[k + 1].f0.toList == key.toList)
      all_goals
        go_wp2_with fail
      · go_ret
        exact ⟨k, rfl, ⟨HF.out, fun _ => by rw [loOf_lt hlt]; exact hO⟩, (Below.refl _ _).alloc (Nat.le_refl _) _⟩
      · go_round
        case rel => exact ⟨k + 1, by go_num, hlt, fun i h1 h2 => by
          by_cases e : i = k + 1
          · subst e; rw [loOf_lt hlt]; exact hO
          · exact HF.out.2 i h1 (by omega)⟩
        case measure => simp [intOf]; omega
    · have hd : decide ((k : Int) + 1 < (vs.length : Int)) = false := by simp; omega
      go_wp2_with fail
      go_ret
      exact ⟨k, rfl, ⟨HF.out, fun h => absurd h hlt⟩, (Below.refl _ _).alloc (Nat.le_refl _) _⟩

def PmFindPost (ep : Int) (vs : List RowD) (key : ByteArray) (w : World) (e : Ending) (w' : World) : Prop :=
  ∃ r : Int, e = .returned (.int .i64 r) ∧ (PmapOkP ep vs ∧ keyOkB key = true → ∃ k : Nat, r = k ∧ FindAt vs key k) ∧ (¬ (PmapOkP ep vs ∧ keyOkB key = true) → r = -1) ∧ Below w.heap.size w w'
theorem PmFindPost.no {ep : Int} {vs : List RowD} {key : ByteArray} {w w' : World} (h : ¬ (PmapOkP ep vs ∧ keyOkB key = true)) (hb : Below w.heap.size w w') : PmFindPost ep vs key w (.returned (.int .i64 (-1))) w' :=
  ⟨-1, rfl, fun g => absurd g h, fun _ => rfl, hb⟩
theorem PmFindPost.yes {ep : Int} {vs : List RowD} {key : ByteArray} {k : Nat} {w w' : World} (h : PmapOkP ep vs) (hk : keyOkB key = true) (hF : FindAt vs key k) (hb : Below w.heap.size w w') : PmFindPost ep vs key w (.returned (.int .i64 (k : Int))) w' :=
  ⟨k, rfl, fun _ => ⟨k, rfl, hF⟩, fun g => absurd ⟨h, hk⟩ g, hb⟩
theorem PmapOkP.pos {ep : Int} {vs : List RowD} (h : PmapOkP ep vs) : 0 < vs.length := by have := h.2.1; simp [inB] at this; omega

set_option maxRecDepth 100000 in
set_option maxHeartbeats 1000000 in
theorem specPmapFind_any (ep : Int) (a : Option Addr) (vs : List RowD) (cap : Nat) (key : ByteArray) (w : World) (hv : RowsIn w a vs) (hf : ∀ v ∈ vs, v.fits) (hlen : vs.length ≤ 1048576) (hkey : key.size ≤ maxLen) :
    Calls Try.prog 21 #[.agg #[.int .i64 ep, .slice a vs.length cap], .string key] w (PmFindPost ep vs key w) := by
  have HV := Lib.hid hv
  have HF := Lib.hid hf
  clear hv hf
  have hb0 : Below w.heap.size w (w.alloc (.cells #[.int .i64 ep, .slice a vs.length cap] 29)) := (Below.refl _ _).alloc (Nat.le_refl _) _
  cases hK : keyOkB key
  all_goals
    go_enter Try.func21, Try.ntmps21
    go_wp2_with fail
    refine (l5Ok_any ep a vs cap _ (HV.out.below hb0) HF.out (by unfold maxLen; omega)).mono ?_
    rintro e w1 ⟨b, rfl, hk, hb⟩
    have B2 := Lib.hid (hb0.trans (hb.mono (by simp)))
    have c0 := hb.cell (p := ⟨w.heap.size, 0, none⟩) (by simp)
    have c1 := hb.cell (p := ⟨w.heap.size, 1, none⟩) (by simp)
    simp [go_sem] at c0 c1
    have HK := Lib.hid hk
    clear hb hk hb0
    cases b
  · go_wp2_with fail
    go_ret
    exact PmFindPost.no (fun h => by simpa using HK.out.2 h.1) B2.out
  · go_wp2_with (go_at_call 64; refine (l1Key_is hK hkey _).mono ?_; rintro e w2 ⟨rfl, rfl⟩)
    go_ret
    exact PmFindPost.no (fun h => by rw [hK] at h; exact absurd h.2 (by decide)) B2.out
  · go_wp2_with fail
    go_ret
    exact PmFindPost.no (fun h => by simpa using HK.out.2 h.1) B2.out
  · have hP := Lib.hid (HK.out.1 (by simp))
    have h0 := hP.out.pos
    go_wp2_with (first | (go_at_call 64; refine (l1Key_is hK hkey _).mono ?_; rintro e w2 ⟨rfl, rfl⟩) | (go_at_call 65; refine (l5Find_any ep a vs cap key _ (HV.out.below B2.out) h0 hlen).mono ?_; rintro e w3 ⟨k, rfl, hFk, hb3⟩))
    go_ret
    exact PmFindPost.yes hP.out hK hFk (B2.out.trans (hb3.mono B2.out.size))
end Go.Proofs.Ytchnmcpnpipfiaa
