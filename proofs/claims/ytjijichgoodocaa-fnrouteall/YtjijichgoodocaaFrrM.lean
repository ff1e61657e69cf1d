/- What is right finds the node of each key: plain lists. -/
import Derived.Test.YtjijichgoodocaaDrawRR
namespace Go.Proofs.Ytjijichgoodocaa
open Go.RowKit

theorem both_meet {a1 a2 b1 b2 key : ByteArray} (ha : spanOkB a1 a2 = true) (hb : spanOkB b1 b2 = true) (h1 : hasB a1 a2 key = true) (h2 : hasB b1 b2 key = true) : meetB a1 a2 b1 b2 = true := by
  unfold meetB
  rw [ha, hb]
  unfold spanOkB at ha hb ⊢
  rw [Bool.and_eq_true, Bool.and_eq_true] at ha hb
  obtain ⟨⟨o1, o2⟩, _⟩ := ha
  obtain ⟨⟨o3, o4⟩, _⟩ := hb
  have e1 : okB keyB 6 (lowM a1 b1) = true := by unfold lowM; split <;> assumption
  have e2 : okB keyB 6 (highM a2 b2) = true := by unfold highM; split <;> (try split) <;> (try split) <;> assumption
  rw [e1, e2]
  rw [hasB_iff] at h1 h2
  simp only [Bool.true_and, Bool.or_eq_true, less_iff, List.isEmpty_iff]
  unfold lowM highM
  simp only [less_iff, List.isEmpty_iff]
  grind
theorem right_node {us : List KnownD} {ep : Int} {vs : List RowD} (h : RightP us ep vs) {key : ByteArray} {k : Nat} (hF : FindAt vs key k) {r : KnownD} (hr : RfRel us key r true) : ∃ hk : k < vs.length, vs[k].f1 = r.f2 := by
  have hkl := hF.1.1
  obtain ⟨h1, h2, h3⟩ := h
  rcases hr with ⟨_, _, ⟨h4, _⟩ | ⟨_, _, h5⟩⟩ | ⟨_, _, h5⟩
  · unfold findK at h4
    obtain ⟨hh, i, hi, e, _⟩ := List.find?_eq_some_iff_getElem.1 h4
    have hm := both_meet (spanOk_at h1 hi) (pm_span_ok h2 hkl) (by rw [e]; exact hh) (by rw [pm_has h2 hF hkl]; exact decide_eq_true rfl)
    have := h3 i hi k hkl hi hm
    rw [nodeOf_lt hkl, e] at this
    exact ⟨hkl, this⟩
  · cases h5
  · cases h5
theorem right_key {us : List KnownD} {key : ByteArray} {r : KnownD} (hr : RfRel us key r true) : keyOkB key = true := by
  rcases hr with ⟨_, h2, _⟩ | ⟨_, _, h5⟩
  · exact h2
  · cases h5
theorem right_nil {key : ByteArray} {r : KnownD} {b : Bool} (hr : RfRel [] key r b) : b = false := by
  rcases hr with ⟨_, _, ⟨h4, _⟩ | ⟨_, _, h5⟩⟩ | ⟨_, _, h5⟩
  · cases h4
  · exact h5
  · exact h5
theorem right_tail {us : List KnownD} {ep : Int} {vs : List RowD} (h : RightP us ep vs) : RightP (us.drop 1) ep vs := by
  obtain ⟨⟨⟨h1, h2⟩, h3⟩, h4, h5⟩ := h
  have hl : (us.drop 1).length = us.length - 1 := List.length_drop ..
  refine ⟨⟨⟨fun i hi hk => ?_, fun i hi hk j hj e => ?_⟩, by omega⟩, h4, fun i hi j hj => ?_⟩
  · rw [List.getElem_drop]; exact h1 (1 + i) (by omega) (by omega)
  · rw [List.getElem_drop, List.getElem_drop]; exact h2 (1 + i) (by omega) (by omega) (1 + j) (by omega) (by omega)
  · intro hi' hm
    rw [List.getElem_drop] at hm ⊢
    exact h5 (1 + i) (by omega) j hj (by omega) hm

theorem routeRight_tail {us : List KnownD} {ep : Int} {vs : List RowD} {n : Nat} (hr : RightP us ep vs) (hn : us.length - 1 = n) (ad : Option Addr) (cap : Nat) (am : Option Addr) (cm : Nat) (w : World) (hk' : KnownsIn w ad (us.drop 1)) (hkf : ∀ v ∈ us, v.fits) (hkn : us.length ≤ 1000) (hv : RowsIn w am vs) (hf : ∀ v ∈ vs, v.fits) (hvn : vs.length ≤ 1048576) :
    Calls Try.prog 59 #[.slice ad n cap, .agg #[.int .i64 ep, .slice am vs.length cm]] w fun e w' => e = .returned (.bool true) ∧ Below w.heap.size w w' := by
  have hl : (us.drop 1).length = n := by rw [List.length_drop]; exact hn
  subst hl
  exact (routeRight_any _ (us.drop 1) cap ep am vs cm w hk' (fun u hu => hkf u (List.mem_of_mem_drop hu)) (by rw [List.length_drop]; unfold maxLen; omega) hv hf hvn).mono fun e w' ⟨c, he, hb, hbl⟩ => ⟨by rw [he, hb.2 (right_tail hr)], hbl⟩

theorem kn_nil {w : World} {a : Option Addr} {vs : List KnownD} (h : vs = []) : KnownsIn w a vs := Or.inl h
def FindIsR (r : Int) (ep : Int) (vs : List RowD) (key : ByteArray) : Prop := (PmapOkP ep vs ∧ keyOkB key = true → ∃ k : Nat, r = k ∧ FindAt vs key k) ∧ (¬ (PmapOkP ep vs ∧ keyOkB key = true) → r = -1)
def RightIs (b : Bool) (us : List KnownD) (ep : Int) (vs : List RowD) : Prop := b = true ↔ RightP us ep vs
end Go.Proofs.Ytjijichgoodocaa
