/- The walk of the law FnSpanJoin: what is joined is cut again. -/
import Derived.Test.YtandapnogpocmaaDrawK
import Derived.Test.YtandapnogpocmaaLawHas
namespace Go.Proofs.Ytandapnogpocmaa
open Go.RowKit

/-- What is joined can be cut where the second begins. -/
theorem join_cut {a1 a2 b1 b2 : ByteArray} (h : joinOkB a1 a2 b1 b2 = true) : cutOkB a1 b2 b1 = true ∧ a2.toList = b1.toList := by
  unfold joinOkB at h
  simp only [Bool.and_eq_true, Bool.not_eq_true'] at h
  obtain ⟨⟨⟨h1, h2⟩, h3⟩, h4⟩ := h
  have e : a2.toList = b1.toList := by simpa using h4
  refine ⟨?_, e⟩
  unfold spanOkB at h1 h2
  simp only [Bool.and_eq_true] at h1 h2
  obtain ⟨⟨ka, kb⟩, kc⟩ := h1
  obtain ⟨⟨kd, ke⟩, kf⟩ := h2
  rw [h3] at kc
  simp only [Bool.false_or] at kc
  rw [e] at kc h3
  have hne : (b1.toList == a1.toList) = false := by
    rw [Bool.eq_false_iff]; intro k
    have k' : b1.toList = a1.toList := by simpa using k
    rw [k', less_irrefl] at kc; cases kc
  have hnl : Op.bytesLess b1.toList a1.toList = false := by
    cases k : Op.bytesLess b1.toList a1.toList
    · rfl
    · have := less_trans kc k; rw [less_irrefl] at this; cases this
  have s : spanOkB a1 b2 = true := by
    unfold spanOkB
    rw [ka, ke]
    cases k : b2.toList.isEmpty
    · rw [k] at kf
      have := less_trans kc (by simpa using kf)
      rw [this]; rfl
    · rfl
  have k : keyOkB b1 = true := by unfold keyOkB; rw [h3, kd]; rfl
  rw [cut_split, s, k, hne]
  unfold hasB
  rw [hnl, kf]; rfl
theorem bytes_eq {x y : ByteArray} (h : x.toList = y.toList) : x = y := by
  rw [ByteArray.toList_eq, ByteArray.toList_eq] at h
  cases x; cases y
  congr
  exact Array.toList_inj.1 h

set_option maxRecDepth 100000 in
set_option maxHeartbeats 4000000 in
theorem joinLaw (a : Option Addr) (len cap : Nat) (w : World) (h : BytesIn w a len cap) (hl : ¬ 1048576 < len) :
    Calls Try.prog 5 #[.slice a len cap] w fun e w' => e = .returned (.bool true) ∧ Below w.heap.size w w' := by
  have H := Lib.hid h
  clear h
  go_enter Try.func5, Try.ntmps5
  go_wp2_with fail
  with_reducible refine (drawSpanJoin_any a len cap _ H.out).mono ?_
  rintro e w1 ⟨a1, a2, b1, b2, ha1, ha2, hb1, hb2, rfl, hw1⟩
  have E1 := Lib.hid hw1
  have z1 : w.heap.size ≤ w1.heap.size := hw1.size
  clear hw1
  go_wp2_with fail
  cases hc : joinOkB a1 a2 b1 b2
  · with_reducible refine (join_no a1 a2 b1 b2 _ ha1 ha2 hb1 hb2 hc).mono ?_
    rintro e w2 ⟨rfl, hw2⟩
    have ZA := ((Zr.made _ _ _ w1).alloc _).below hw2
    have ZB := (Zr.made2 _ _ _ _ w1).below hw2
    have r0 := ZA.c0; have r1 := ZA.c1; have r4 := ZA.lt
    have s0 := ZB.c0; have s1 := ZB.c1; have s4 := ZB.lt
    have E2 := Lib.hid (((E1.out.alloc z1 _).alloc (by simp; omega) _).trans (hw2.mono (by simp; omega)))
    have z2 := E2.out.size
    clear hw2 E1
    go_wp2_with fail
    with_reducible refine (specJoin_no a1 a2 b1 b2 _ ha1 ha2 hb1 hb2 hc).mono ?_
    rintro e w3 ⟨rfl, hw3⟩
    have ZC := (Zr.made _ _ _ w2).below hw3
    have t0 := ZC.c0; have t1 := ZC.c1; have t4 := ZC.lt
    have E3 := Lib.hid ((E2.out.alloc z2 _).trans (hw3.mono (by simp; omega)))
    have z3 := E3.out.size
    clear hw3 E2
    go_wp2_with fail
    go_ret
    exact ⟨rfl, E3.out.alloc z3 _⟩
  · obtain ⟨hk, heq⟩ := join_cut hc
    have he := bytes_eq heq
    subst he
    clear heq
    with_reducible refine (join_yes a1 a2 a2 b2 _ ha1 ha2 hb1 hb2 hc).mono ?_
    rintro e w2 ⟨rfl, hw2⟩
    have ZA := ((Zr.made _ _ _ w1).alloc _).below hw2
    have ZB := (Zr.made2 _ _ _ _ w1).below hw2
    have r0 := ZA.c0; have r1 := ZA.c1; have r4 := ZA.lt
    have s0 := ZB.c0; have s1 := ZB.c1; have s4 := ZB.lt
    have E2 := Lib.hid (((E1.out.alloc z1 _).alloc (by simp; omega) _).trans (hw2.mono (by simp; omega)))
    have z2 := E2.out.size
    clear hw2 E1
    go_wp2_with fail
    with_reducible refine (specJoin_yes a1 a2 a2 b2 _ ha1 ha2 hb1 hb2 hc).mono ?_
    rintro e w3 ⟨rfl, hw3⟩
    have YA := (ZA.alloc _).below hw3
    have YB := (ZB.alloc _).below hw3
    have YC := (Zr.made _ _ _ w2).below hw3
    clear r0 r1 r4 s0 s1 s4
    have r0 := YA.c0; have r1 := YA.c1; have r4 := YA.lt
    have s0 := YB.c0; have s1 := YB.c1; have s4 := YB.lt
    have t0 := YC.c0; have t1 := YC.c1; have t4 := YC.lt
    have E3 := Lib.hid ((E2.out.alloc z2 _).trans (hw3.mono (by simp; omega)))
    have z3 := E3.out.size
    clear hw3 E2 ZA ZB
    go_wp2_with fail
    with_reducible refine (cut_yes a1 b2 a2 _ ha1 hb2 hb1 hk).mono ?_
    rintro e w4 ⟨rfl, hw4⟩
    have XA := (YA.alloc _).below hw4
    have XB := (YB.alloc _).below hw4
    clear r0 r1 r4 s0 s1 s4 t0 t1 t4
    have r0 := XA.c0; have r1 := XA.c1; have r4 := XA.lt
    have s0 := XB.c0; have s1 := XB.c1; have s4 := XB.lt
    have E4 := Lib.hid ((E3.out.alloc z3 _).trans (hw4.mono (by simp; omega)))
    have z4 := E4.out.size
    clear hw4 E3 YA YB YC
    go_wp2_with fail
    go_ret
    exact ⟨rfl, (E4.out.alloc z4 _).alloc (by simp; omega) _⟩
end Go.Proofs.Ytandapnogpocmaa
