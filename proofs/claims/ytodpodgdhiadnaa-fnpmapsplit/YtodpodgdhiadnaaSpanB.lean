/- The row of a key, as the model tells it. -/
import Derived.Test.YtodpodgdhiadnaaAsk
import Derived.Test.YtodpodgdhiadnaaSpan
import Derived.Test.YtodpodgdhiadnaaValid
namespace Go.Proofs.Ytodpodgdhiadnaa
open Go.RowKit

def leB (x y : ByteArray) : Bool := Op.bytesLess x.toList y.toList || x.toList == y.toList
/-- Whether the rows from 1 to k begin no later than the key. -/
def FindTo (vs : List RowD) (key : ByteArray) (k : Nat) : Prop := k < vs.length ∧ ∀ i, 1 ≤ i → i ≤ k → leB (loOf vs i) key = true
def FindAt (vs : List RowD) (key : ByteArray) (k : Nat) : Prop := FindTo vs key k ∧ (k + 1 < vs.length → leB (loOf vs (k + 1)) key = false)
theorem FindAt.unique {vs : List RowD} {key : ByteArray} {j k : Nat} (h : FindAt vs key j) (g : FindAt vs key k) : j = k := by
  rcases Nat.lt_trichotomy j k with hlt | rfl | hlt
  · have := h.2 (by have := g.1.1; omega); rw [g.1.2 (j + 1) (by omega) (by omega)] at this; cases this
  · rfl
  · have := g.2 (by have := h.1.1; omega); rw [h.1.2 (k + 1) (by omega) (by omega)] at this; cases this

set_option maxRecDepth 100000 in
set_option maxHeartbeats 1000000 in
theorem l5Find_any (ep : Int) (a : Option Addr) (vs : List RowD) (cap : Nat) (key : ByteArray) (w : World) (hv : RowsIn w a vs) (h0 : 0 < vs.length) (hlen : vs.length ≤ 1048576) :
    Calls Try.prog 141 #[.agg #[.int .i64 ep, .slice a vs.length cap], .string key] w fun e w' => ∃ k : Nat, e = .returned (.int .i64 (k : Int)) ∧ FindAt vs key k ∧ Below w.heap.size w w' := by
  rcases hv with hnil | ⟨b1, o1, rfl, hb1, hc1⟩
  · rw [hnil] at h0; simp at h0
  have hb2 : b1 < w.heap.size + 1 := by omega
  have HC := Lib.hid hc1
  clear hc1
  go_enter Try.func141, Try.ntmps141
  go_wp2_with fail
  go_loop [5] (fun i => ∃ k : Nat, i = .int .i64 (k : Int) ∧ FindTo vs key k) (fun i => vs.length - (intOf i).toNat)
  case atStart => exact ⟨0, rfl, h0, fun i h1 h2 => by omega⟩
  case round =>
    obtain ⟨k, rfl, hF⟩ := hrel
    have hk := hF.1
    have HF := Lib.hid hF
    clear hF
    by_cases hlt : k + 1 < vs.length
    · have e0 := (HC.out (k + 1) hlt).1
      have hd : decide ((k : Int) + 1 < (vs.length : Int)) = true := by simp; omega
      cases hO : (Op.bytesLess vs[k + 1].f0.toList key.toList || vs[k + 1].f0.toList == key.toList)
      all_goals
        go_wp2_with fail
      · go_ret
        exact ⟨k, rfl, ⟨HF.out, fun _ => by rw [loOf_lt hlt]; exact hO⟩, (Below.refl _ _).alloc (Nat.le_refl _) _⟩
      · go_round
        case rel => exact ⟨k + 1, by go_num, hlt, fun i h1 h2 => by
          by_cases e : i = k + 1
          · subst e; rw [loOf_lt hlt]; exact hO
          · exact HF.out.2 i h1 (by omega)⟩
        case measure => simp [intOf]; omega
    · have hd : decide ((k : Int) + 1 < (vs.length : Int)) = false := by simp; omega
      go_wp2_with fail
      go_ret
      exact ⟨k, rfl, ⟨HF.out, fun h => absurd h hlt⟩, (Below.refl _ _).alloc (Nat.le_refl _) _⟩

def PmFindPost (ep : Int) (vs : List RowD) (key : ByteArray) (w : World) (e : Ending) (w' : World) : Prop :=
  ∃ r : Int, e = .returned (.int .i64 r) ∧ (PmapOkP ep vs ∧ keyOkB key = true → ∃ k : Nat, r = k ∧ FindAt vs key k) ∧ (¬ (PmapOkP ep vs ∧ keyOkB key = true) → r = -1) ∧ Below w.heap.size w w'
theorem PmFindPost.no {ep : Int} {vs : List RowD} {key : ByteArray} {w w' : World} (h : ¬ (PmapOkP ep vs ∧ keyOkB key = true)) (hb : Below w.heap.size w w') : PmFindPost ep vs key w (.returned (.int .i64 (-1))) w' :=
  ⟨-1, rfl, fun g => absurd g h, fun _ => rfl, hb⟩
theorem PmFindPost.yes {ep : Int} {vs : List RowD} {key : ByteArray} {k : Nat} {w w' : World} (h : PmapOkP ep vs) (hk : keyOkB key = true) (hF : FindAt vs key k) (hb : Below w.heap.size w w') : PmFindPost ep vs key w (.returned (.int .i64 (k : Int))) w' :=
  ⟨k, rfl, fun _ => ⟨k, rfl, hF⟩, fun g => absurd ⟨h, hk⟩ g, hb⟩
theorem PmapOkP.pos {ep : Int} {vs : List RowD} (h : PmapOkP ep vs) : 0 < vs.length := by have := h.2.1; simp [inB] at this; omega

set_option maxRecDepth 100000 in
set_option maxHeartbeats 1000000 in
theorem specPmapFind_any (ep : Int) (a : Option Addr) (vs : List RowD) (cap : Nat) (key : ByteArray) (w : World) (hv : RowsIn w a vs) (hf : ∀ v ∈ vs, v.fits) (hlen : vs.length ≤ 1048576) (hkey : key.size ≤ maxLen) :
    Calls Try.prog 58 #[.agg #[.int .i64 ep, .slice a vs.length cap], .string key] w (PmFindPost ep vs key w) := by
  have HV := Lib.hid hv
  have HF := Lib.hid hf
  clear hv hf
  have hb0 : Below w.heap.size w (w.alloc (.cells #[.int .i64 ep, .slice a vs.length cap] 80)) := (Below.refl _ _).alloc (Nat.le_refl _) _
  cases hK : keyOkB key
  all_goals
    go_enter Try.func58, Try.ntmps58
    go_wp2_with fail
    refine (l5Ok_any ep a vs cap _ (HV.out.below hb0) HF.out (by unfold maxLen; omega)).mono ?_
    rintro e w1 ⟨b, rfl, hk, hb⟩
    have B2 := Lib.hid (hb0.trans (hb.mono (by simp)))
    have c0 := hb.cell (p := ⟨w.heap.size, 0, none⟩) (by simp)
    have c1 := hb.cell (p := ⟨w.heap.size, 1, none⟩) (by simp)
    simp [go_sem] at c0 c1
    have HK := Lib.hid hk
    clear hb hk hb0
    cases b
  · go_wp2_with fail
    go_ret
    exact PmFindPost.no (fun h => by simpa using HK.out.2 h.1) B2.out
  · go_wp2_with (go_at_call 83; refine (l1Key_is hK hkey _).mono ?_; rintro e w2 ⟨rfl, rfl⟩)
    go_ret
    exact PmFindPost.no (fun h => by rw [hK] at h; exact absurd h.2 (by decide)) B2.out
  · go_wp2_with fail
    go_ret
    exact PmFindPost.no (fun h => by simpa using HK.out.2 h.1) B2.out
  · have hP := Lib.hid (HK.out.1 (by simp))
    have h0 := hP.out.pos
    go_wp2_with (first | (go_at_call 83; refine (l1Key_is hK hkey _).mono ?_; rintro e w2 ⟨rfl, rfl⟩) | (go_at_call 141; refine (l5Find_any ep a vs cap key _ (HV.out.below B2.out) h0 hlen).mono ?_; rintro e w3 ⟨k, rfl, hFk, hb3⟩))
    go_ret
    exact PmFindPost.yes hP.out hK hFk (B2.out.trans (hb3.mono B2.out.size))
end Go.Proofs.Ytodpodgdhiadnaa

/- Contracts of the functions on spans, the second part: whether a key is in a span; sizes, copies and comparisons of spans. -/
namespace Go.Proofs.Ytodpodgdhiadnaa
open Go.RowKit

theorem spanOk_is {lo hi : ByteArray} {b : Bool} (h : spanOkB lo hi = b) (hlo : lo.size ≤ maxLen) (hhi : hi.size ≤ maxLen) (w : World) :
    Calls Try.prog 55 #[.agg #[.string lo, .string hi]] w fun e w' => e = .returned (.bool b) ∧ Below w.heap.size w w' := by rw [← h]; exact spanOk_any lo hi w hlo hhi

theorem l1SpanOk_is {lo hi : ByteArray} {b : Bool} (h : spanOkB lo hi = b) (hlo : lo.size ≤ maxLen) (hhi : hi.size ≤ maxLen) (w : World) :
    Calls Try.prog 170 #[.agg #[.string lo, .string hi]] w fun e w' => e = .returned (.bool b) ∧ Below w.heap.size w w' := by rw [← h]; exact l1SpanOk_any lo hi w hlo hhi

def spanHasB (lo hi key : ByteArray) : Bool := spanOkB lo hi && keyOkB key && hasB lo hi key

theorem bsize {B : Nat} {W w1 : World} (hb : Below B W w1) : W.heap.size ≤ w1.heap.size := hb.size

set_option maxHeartbeats 1000000 in
theorem spanHas_any (lo hi key : ByteArray) (w : World) (hlo : lo.size ≤ maxLen) (hhi : hi.size ≤ maxLen) (hkey : key.size ≤ maxLen) :
    Calls Try.prog 61 #[.agg #[.string lo, .string hi], .string key] w fun e w' => e = .returned (.bool (spanHasB lo hi key)) ∧ Below w.heap.size w w' := by
  cases h1 : spanOkB lo hi
  · have hfin : Hid (spanHasB lo hi key = false) := by show _ = _; simp [spanHasB, h1]
    go_enter Try.func61, Try.ntmps61
    go_wp2_with (go_at_call 55; refine (spanOk_is h1 hlo hhi _).mono ?_; rintro e w' ⟨rfl, hb⟩)
    go_ret
    exact ⟨ret_bool (by rw [hfin.out]), ((Below.refl _ _).alloc (Nat.le_refl _) _).trans (hb.mono (by simp))⟩
  · cases h2 : keyOkB key
    · have hfin : Hid (spanHasB lo hi key = false) := by show _ = _; simp [spanHasB, h2]
      go_enter Try.func61, Try.ntmps61
      go_wp2_with (first | (go_at_call 55; refine (spanOk_is h1 hlo hhi _).mono ?_; rintro e w' ⟨rfl, hb⟩) | (go_at_call 99; refine (keyOk_is h2 hkey _).mono ?_; rintro e w' ⟨rfl, rfl⟩))
      go_ret
      exact ⟨ret_bool (by rw [hfin.out]), ((Below.refl _ _).alloc (Nat.le_refl _) _).trans (hb.mono (by simp))⟩
    · have hfin : Hid (spanHasB lo hi key = hasB lo hi key) := by show _ = _; simp [spanHasB, h1, h2]
      go_enter Try.func61, Try.ntmps61
      go_wp2_with (first | (go_at_call 55; refine (spanOk_is h1 hlo hhi _).mono ?_; rintro e w' ⟨rfl, hb⟩; obtain ⟨hc, hf⟩ := bcell hb) | (go_at_call 99; refine (keyOk_is h2 hkey _).mono ?_; rintro e w' ⟨rfl, rfl⟩) | (go_at_call 140; refine (has_any _ _ _ _).mono ?_; rintro e w'' ⟨rfl, hb2⟩))
      go_ret
      exact ⟨ret_bool (by rw [hfin.out]), (((Below.refl _ _).alloc (Nat.le_refl _) _).trans (hb.mono (by simp))).trans (hb2.mono (by have := hb.size; simp at this; omega))⟩

theorem ret_int {k : IntKind} {a b : Int} (h : a = b) : Ending.returned (.int k a) = .returned (.int k b) := by rw [h]
def szSpanZ (lo hi : ByteArray) (left : Int) : Int := if left < lo.size then -1 else if left < lo.size + hi.size then -1 else left - lo.size - hi.size
end Go.Proofs.Ytodpodgdhiadnaa
