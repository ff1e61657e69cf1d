/- Two rows joined: what comes of it, and the model's function. -/
import Derived.Test.YtodpodgdhiadnaaPmMgS
namespace Go.Proofs.Ytodpodgdhiadnaa
open Go.RowKit

def CanMerge (ep : Int) (vs : List RowD) (k : Int) : Prop := 0 ≤ k ∧ k + 1 < vs.length ∧ ep < 99
def PmapMergeRel (ep : Int) (vs : List RowD) (k : Int) (ep' : Int) (vs' : List RowD) (b : Bool) : Prop :=
  (¬ PmapOkP ep vs ∧ ep' = 0 ∧ vs' = [] ∧ b = false) ∨ (PmapOkP ep vs ∧ ¬ CanMerge ep vs k ∧ ep' = ep ∧ vs' = vs ∧ b = false) ∨ (PmapOkP ep vs ∧ CanMerge ep vs k ∧ ep' = ep + 1 ∧ vs' = vs.take (k.toNat + 1) ++ vs.drop (k.toNat + 2) ∧ b = true)
theorem PmapMergeRel_unique {ep : Int} {vs : List RowD} {k e1 e2 : Int} {v1 v2 : List RowD} {b1 b2 : Bool} (h : PmapMergeRel ep vs k e1 v1 b1) (g : PmapMergeRel ep vs k e2 v2 b2) : e1 = e2 ∧ v1 = v2 ∧ b1 = b2 := by
  rcases h with ⟨h1, rfl, rfl, rfl⟩ | ⟨h1, h2, rfl, rfl, rfl⟩ | ⟨h1, h2, rfl, rfl, rfl⟩ <;> rcases g with ⟨g1, rfl, rfl, rfl⟩ | ⟨g1, g2, rfl, rfl, rfl⟩ | ⟨g1, g2, rfl, rfl, rfl⟩ <;> first | exact ⟨rfl, rfl, rfl⟩ | exact absurd h1 g1 | exact absurd g1 h1 | exact absurd h2 g2 | exact absurd g2 h2
theorem PmapMergeRel_len {ep : Int} {vs : List RowD} {k e1 : Int} {v1 : List RowD} {b1 : Bool} (h : PmapMergeRel ep vs k e1 v1 b1) : v1.length ≤ vs.length + 1 := by
  rcases h with ⟨_, _, rfl, _⟩ | ⟨_, _, _, rfl, _⟩ | ⟨_, _, _, rfl, _⟩ <;> simp <;> omega
def PmapMergePost (ep : Int) (vs : List RowD) (k : Int) (w : World) (e : Ending) (w' : World) : Prop := ∃ ep' vs' b, PmapMergeRel ep vs k ep' vs' b ∧ PmOutB ep' vs' b w e w'

set_option maxHeartbeats 1000000 in
theorem l5CanMerge_any (ep : Int) (a : Option Addr) (vs : List RowD) (cap : Nat) (k : Int) (w : World) (hlen : vs.length ≤ 1048576) :
    Calls Try.prog 150 #[.agg #[.int .i64 ep, .slice a vs.length cap], .int .i64 k] w fun e w' => ∃ b : Bool, e = .returned (.bool b) ∧ (b = true ↔ CanMerge ep vs k) ∧ Below w.heap.size w w' := by
  cases hI : inB k 0 ((vs.length : Int) - 2)
  · go_enter Try.func150, Try.ntmps150
    go_wp2_with (go_at_call 136; refine (l1In_is hI _).mono ?_; rintro e w' ⟨rfl, rfl⟩)
    go_ret
    exact ⟨false, rfl, by simp only [Bool.false_eq_true, false_iff]; intro h; simp [inB] at hI; have := h.1; have := h.2.1; omega, (Below.refl _ _).alloc (Nat.le_refl _) _⟩
  · by_cases h9 : ep < 99
    · go_enter Try.func150, Try.ntmps150
      go_wp2_with (go_at_call 136; refine (l1In_is hI _).mono ?_; rintro e w' ⟨rfl, rfl⟩)
      go_ret
      exact ⟨true, rfl, by simp only [true_iff]; simp [inB] at hI; exact ⟨by omega, by omega, h9⟩, (Below.refl _ _).alloc (Nat.le_refl _) _⟩
    · have h9' : decide (ep < 99) = false := by simpa using h9
      go_enter Try.func150, Try.ntmps150
      go_wp2_with (go_at_call 136; refine (l1In_is hI _).mono ?_; rintro e w' ⟨rfl, rfl⟩)
      go_ret
      exact ⟨false, rfl, by simp only [Bool.false_eq_true, false_iff]; intro h; have := h.2.2; omega, (Below.refl _ _).alloc (Nat.le_refl _) _⟩

theorem pmAt_none (w : World) (lo : Nat) : PmAt w lo w.heap.size none [] := ⟨.inl rfl, .inl rfl, (fun b off e => by cases e), Nat.le_refl _⟩
theorem PmAt.setT {u : World} {lo hi r : Nat} {o : Nat} {x : Value} {a : Option Addr} {vs : List RowD} (h : PmAt u lo hi a vs) (hr : ∀ b off, a = some ⟨b, off, none⟩ → r ≠ b) : PmAt (u.setCell ⟨r, o, none⟩ x) lo hi a vs := by
  have ht : Turned (fun k => k = r) u (u.setCell ⟨r, o, none⟩ x) := (Turned.refl (fun k => k = r) u).setCell (p := ⟨r, o, none⟩) rfl x
  have ho : OffS (fun k => k = r) a := fun b off e k => hr b off e k.symm
  exact ⟨h.in1.turned ho ht, h.fr1.turned ho ht, h.l1, by simpa using h.le⟩

set_option maxRecDepth 100000 in
set_option maxHeartbeats 1000000 in
theorem specPmapMerge_any (ep : Int) (a : Option Addr) (vs : List RowD) (cap : Nat) (k : Int) (w : World) (hv : RowsIn w a vs) (hf : ∀ v ∈ vs, v.fits) (hlen : vs.length ≤ 1048576) (hcap : vs.length ≤ cap) (hcm : cap ≤ maxLen) :
    Calls Try.prog 64 #[.agg #[.int .i64 ep, .slice a vs.length cap], .int .i64 k] w (PmapMergePost ep vs k w) := by
  have HV := Lib.hid hv
  have HF := Lib.hid hf
  clear hv hf
  obtain ⟨W1, hW1⟩ : ∃ W1, (w.alloc (.cells #[.int .i64 ep, .slice a vs.length cap] 80)).alloc (.cells #[.int .i64 0, .slice none 0 0] 80) = W1 := ⟨_, rfl⟩
  have B1 : Below w.heap.size w W1 := by rw [← hW1]; exact ((Below.refl _ _).alloc (Nat.le_refl _) _).alloc (by simp) _
  have z1 : w.heap.size + 1 < W1.heap.size := by rw [← hW1]; simp
  have c0 : W1.cell? ⟨w.heap.size, 0, none⟩ = some (.int .i64 ep) := by rw [← hW1]; simp [go_sem]
  have c1 : W1.cell? ⟨w.heap.size, 1, none⟩ = some (.slice a vs.length cap) := by rw [← hW1]; simp [go_sem]
  have d0 : W1.cell? ⟨w.heap.size + 1, 0, none⟩ = some (.int .i64 0) := by rw [← hW1]; simp [go_sem]
  have d1 : W1.cell? ⟨w.heap.size + 1, 1, none⟩ = some (.slice none 0 0) := by rw [← hW1]; simp [go_sem]
  have f0 : W1.frozen? ⟨w.heap.size + 1, 0, none⟩ = false := by rw [← hW1]; simp [go_sem]
  have f1 : W1.frozen? ⟨w.heap.size + 1, 1, none⟩ = false := by rw [← hW1]; simp [go_sem]
  have z0 : w.heap.size < W1.heap.size := by omega
  have HB1 := Lib.hid B1
  clear B1
  go_enter Try.func64, Try.ntmps64
  go_wp2_with fail
  clear hW1
  refine (l5Ok_any ep a vs cap W1 (HV.out.below HB1.out) HF.out (by unfold maxLen; omega)).mono ?_
  rintro e w1 ⟨b, rfl, hk, hb⟩
  have B2 := Lib.hid (HB1.out.trans (hb.mono (by omega)))
  have c0' := (hb.cell (p := ⟨w.heap.size, 0, none⟩) z0).trans c0
  have c1' := (hb.cell (p := ⟨w.heap.size, 1, none⟩) z0).trans c1
  have d0' := (hb.cell (p := ⟨w.heap.size + 1, 0, none⟩) z1).trans d0
  have d1' := (hb.cell (p := ⟨w.heap.size + 1, 1, none⟩) z1).trans d1
  have f0' := (hb.frozen (p := ⟨w.heap.size + 1, 0, none⟩) z1).trans f0
  have f1' := (hb.frozen (p := ⟨w.heap.size + 1, 1, none⟩) z1).trans f1
  have s0 : w.heap.size < w1.heap.size := Nat.lt_of_lt_of_le z0 hb.size
  have s1 : w.heap.size + 1 < w1.heap.size := Nat.lt_of_lt_of_le z1 hb.size
  have HK := Lib.hid hk
  clear hb hk c0 c1 d0 d1 f0 f1
  cases b
  · go_wp2_with fail
    refine bodyPost_ret (v := .tuple #[.agg #[.int .i64 0, .slice none 0 0], .bool false]) (by simp [results, Try.results64, go_sem, d0', d1']) rfl ?_
    exact ⟨0, [], false, .inl ⟨fun h => by simpa using HK.out.2 h, rfl, rfl, rfl⟩, none, 0, rfl, pmAt_none _ _, (B2.out.setCell (p := ⟨w.heap.size + 1, 0, none⟩) (by simp) _).setCell (p := ⟨w.heap.size + 1, 1, none⟩) (by simp) _⟩
  · have hP := Lib.hid (HK.out.1 (by simp))
    have hpos : 0 < vs.length := by have := hP.out.2.1; simp [inB] at this; omega
    have hep : 0 ≤ ep ∧ ep ≤ 99 := by have := hP.out.2.2; simp [inB] at this; omega
    go_wp2_with fail
    refine (l5CanMerge_any ep a vs cap k _ hlen).mono ?_
    rintro e w2 ⟨b2, rfl, hk2, hb2⟩
    have B3 := Lib.hid (B2.out.trans (hb2.mono B2.out.size))
    have c0 := (hb2.cell (p := ⟨w.heap.size, 0, none⟩) s0).trans c0'
    have c1 := (hb2.cell (p := ⟨w.heap.size, 1, none⟩) s0).trans c1'
    have d0 := (hb2.cell (p := ⟨w.heap.size + 1, 0, none⟩) s1).trans d0'
    have d1 := (hb2.cell (p := ⟨w.heap.size + 1, 1, none⟩) s1).trans d1'
    have f0 := (hb2.frozen (p := ⟨w.heap.size + 1, 0, none⟩) s1).trans f0'
    have f1 := (hb2.frozen (p := ⟨w.heap.size + 1, 1, none⟩) s1).trans f1'
    have t1 : w.heap.size + 1 < w2.heap.size := Nat.lt_of_lt_of_le s1 hb2.size
    have HK2 := Lib.hid hk2
    clear hb2 hk2 c0' c1' d0' d1' f0' f1'
    cases b2
    · go_wp2_with fail
      refine (l5Copy_any ep a vs cap _ (HV.out.below B3.out) hpos hlen).mono ?_
      rintro e w3 ⟨a3, k3, rfl, hat, hb3, hc3⟩
      have d0' := (hb3.cell (p := ⟨w.heap.size + 1, 0, none⟩) t1).trans d0
      have d1' := (hb3.cell (p := ⟨w.heap.size + 1, 1, none⟩) t1).trans d1
      have f0' := (hb3.frozen (p := ⟨w.heap.size + 1, 0, none⟩) t1).trans f0
      have f1' := (hb3.frozen (p := ⟨w.heap.size + 1, 1, none⟩) t1).trans f1
      have X := Lib.hid (And.intro hat (And.intro hb3 hc3))
      clear hat hb3 hc3 d0 d1 f0 f1
      go_wp2_with fail
      refine bodyPost_ret (v := .tuple #[.agg #[.int .i64 ep, .slice a3 vs.length k3], .bool false]) (by simp [results, Try.results64, go_sem, d0', d1']) rfl ?_
      obtain ⟨hat, hb3, hc3⟩ := X.out
      have off : ∀ b off, a3 = some ⟨b, off, none⟩ → w.heap.size + 1 ≠ b := fun b off e => by have := (hat.l1 b off e).1; omega
      refine ⟨ep, vs, false, .inr (.inl ⟨hP.out, fun h => by simpa using HK2.out.2 h, rfl, rfl, rfl⟩), a3, k3, rfl, ?_, ((B3.out.trans (hb3.mono B3.out.size)).setCell (p := ⟨w.heap.size + 1, 0, none⟩) (by simp) _).setCell (p := ⟨w.heap.size + 1, 1, none⟩) (by simp) _⟩
      exact ⟨((hat.setT off).setT off).in1, ((hat.setT off).setT off).fr1, hat.l1.mono (by omega) (by simp), Nat.le_refl _⟩
    · have hC := HK2.out.1 (by simp)
      obtain ⟨j, rfl⟩ := Int.eq_ofNat_of_zero_le hC.1
      have hj : j + 1 < vs.length := by have := hC.2.1; omega
      have HCm := Lib.hid hC
      clear hC
      go_wp2_with fail
      refine (l5Merge_any ep a vs cap j _ (HV.out.below B3.out) hj hcap hcm hep.1 hep.2 hlen).mono ?_
      rintro e w3 ⟨a3, k3, rfl, hat, hb3, hc3⟩
      have d0' := (hb3.cell (p := ⟨w.heap.size + 1, 0, none⟩) t1).trans d0
      have d1' := (hb3.cell (p := ⟨w.heap.size + 1, 1, none⟩) t1).trans d1
      have f0' := (hb3.frozen (p := ⟨w.heap.size + 1, 0, none⟩) t1).trans f0
      have f1' := (hb3.frozen (p := ⟨w.heap.size + 1, 1, none⟩) t1).trans f1
      have X := Lib.hid (And.intro hat (And.intro hb3 hc3))
      clear hat hb3 hc3 d0 d1 f0 f1
      go_wp2_with fail
      refine bodyPost_ret (v := .tuple #[.agg #[.int .i64 (ep + 1), .slice a3 (vs.take (j + 1) ++ vs.drop (j + 2)).length k3], .bool true]) (by simp [results, Try.results64, go_sem, d0', d1']) rfl ?_
      obtain ⟨hat, hb3, hc3⟩ := X.out
      have off : ∀ b off, a3 = some ⟨b, off, none⟩ → w.heap.size + 1 ≠ b := fun b off e => by have := (hat.l1 b off e).1; omega
      refine ⟨ep + 1, vs.take (j + 1) ++ vs.drop (j + 2), true, .inr (.inr ⟨hP.out, HCm.out, rfl, by simp, rfl⟩), a3, k3, rfl, ?_, ((B3.out.trans (hb3.mono B3.out.size)).setCell (p := ⟨w.heap.size + 1, 0, none⟩) (by simp) _).setCell (p := ⟨w.heap.size + 1, 1, none⟩) (by simp) _⟩
      exact ⟨((hat.setT off).setT off).in1, ((hat.setT off).setT off).fr1, hat.l1.mono (by omega) (by simp), Nat.le_refl _⟩
end Go.Proofs.Ytodpodgdhiadnaa
