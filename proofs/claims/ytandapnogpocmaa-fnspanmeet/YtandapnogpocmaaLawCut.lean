/- The walk of the law FnSpanCut: what is cut is joined again. -/
import Derived.Test.YtandapnogpocmaaDrawC
namespace Go.Proofs.Ytandapnogpocmaa
open Go.RowKit

theorem less_irrefl (x : List UInt8) : Op.bytesLess x x = false := by rw [bytesLess_eq]; exact decide_eq_false (List.lt_irrefl _)
theorem less_of {x y : List UInt8} (h : Op.bytesLess y x = false) (hn : (y == x) = false) : Op.bytesLess x y = true := by
  have e := bytesLess_le x y
  have hn2 : (x == y) = false := by rw [Bool.eq_false_iff] at hn ⊢; intro k; apply hn; rw [beq_iff_eq] at k ⊢; exact k.symm
  rw [h, hn2] at e; simpa using e

theorem cut_join {lo hi key : ByteArray} (h : cutOkB lo hi key = true) : joinOkB lo key key hi = true ∧ spanHasB key hi key = true ∧ spanHasB lo key key = false ∧ spanOkB lo key = true ∧ spanOkB key hi = true := by
  rw [cut_split] at h
  simp only [Bool.and_eq_true, Bool.not_eq_true'] at h
  obtain ⟨⟨⟨h1, h2⟩, h3⟩, h4⟩ := h
  have h3' := h3
  unfold hasB at h3
  simp only [Bool.and_eq_true, Bool.not_eq_true'] at h3
  obtain ⟨h5, h6⟩ := h3
  have hlt := less_of h5 h4
  have h1' := h1
  unfold spanOkB at h1
  simp only [Bool.and_eq_true] at h1
  obtain ⟨⟨ha, hb⟩, _⟩ := h1
  have h2' := h2
  unfold keyOkB at h2
  simp only [Bool.and_eq_true, Bool.not_eq_true'] at h2
  obtain ⟨he, hk⟩ := h2
  have s1 : spanOkB lo key = true := by unfold spanOkB; rw [ha, hk, hlt]; simp
  have s2 : spanOkB key hi = true := by unfold spanOkB; rw [hk, hb, h6]; rfl
  refine ⟨by unfold joinOkB; rw [s1, s2, he]; simp, ?_, ?_, s1, s2⟩
  · unfold spanHasB hasB; rw [s2, h2', less_irrefl, h6]; rfl
  · unfold spanHasB hasB; rw [less_irrefl key.toList, he]; simp

theorem Zr.made2 (z0 z1 : Value) (t : TypeId) (o : Obj) (v : World) : Zr z0 z1 (v.heap.size + 1) ((v.alloc o).alloc (.cells #[z0, z1] t)) := by
  have := Zr.made z0 z1 t (v.alloc o)
  simpa using this
theorem Zr.alloc {z0 z1 : Value} {g : Nat} {u : World} (h : Zr z0 z1 g u) (o : Obj) : Zr z0 z1 g (u.alloc o) := h.below ((Below.refl _ _).alloc (Nat.le_refl _) _)

set_option maxRecDepth 100000 in
set_option maxHeartbeats 2000000 in
theorem cutLaw (a : Option Addr) (len cap : Nat) (w : World) (h : BytesIn w a len cap) (hl : ¬ 1048576 < len) :
    Calls Try.prog 4 #[.slice a len cap] w fun e w' => e = .returned (.bool true) ∧ Below w.heap.size w w' := by
  have H := Lib.hid h
  clear h
  go_enter Try.func4, Try.ntmps4
  go_wp2_with fail
  with_reducible refine (drawSpanCut_any a len cap _ H.out).mono ?_
  rintro e w1 ⟨lo, hi, key, hlo, hhi, hkey, rfl, hb1⟩
  have E1 := Lib.hid hb1
  have z1 : w.heap.size ≤ w1.heap.size := hb1.size
  clear hb1
  go_wp2_with fail
  cases hc : cutOkB lo hi key
  · with_reducible refine (cut_no lo hi key _ hlo hhi hkey hc).mono ?_
    rintro e w2 ⟨rfl, hb2⟩
    have ZA := (Zr.made _ _ _ w1).below hb2
    have a0 := ZA.c0; have a1 := ZA.c1; have a4 := ZA.lt
    have E2 := Lib.hid ((E1.out.alloc z1 _).trans (hb2.mono (by simp; omega)))
    have z2 := E2.out.size
    clear hb2 E1
    go_wp2_with fail
    with_reducible refine (specCut_no lo hi key _ hlo hhi hkey hc).mono ?_
    rintro e w3 ⟨rfl, hb3⟩
    have ZB := ((ZA.alloc _).alloc _).below hb3
    have ZC := ((Zr.made _ _ _ w2).alloc _).below hb3
    have ZD := (Zr.made2 _ _ _ _ w2).below hb3
    clear a0 a1 a4
    have a0 := ZB.c0; have a1 := ZB.c1; have a4 := ZB.lt
    have c0 := ZC.c0; have c1 := ZC.c1; have c4 := ZC.lt
    have d0 := ZD.c0; have d1 := ZD.c1; have d4 := ZD.lt
    have E3 := Lib.hid (((E2.out.alloc z2 _).alloc (by simp; omega) _).trans (hb3.mono (by simp; omega)))
    have z3 := E3.out.size
    clear hb3 E2
    go_wp2_with fail
    go_ret
    exact ⟨rfl, (E3.out.alloc z3 _).alloc (by simp; omega) _⟩
  · obtain ⟨hj, hh, hg, hs, ht⟩ := cut_join hc
    with_reducible refine (cut_yes lo hi key _ hlo hhi hkey hc).mono ?_
    rintro e w2 ⟨rfl, hb2⟩
    have ZA := (Zr.made _ _ _ w1).below hb2
    have a0 := ZA.c0; have a1 := ZA.c1; have a4 := ZA.lt
    have E2 := Lib.hid ((E1.out.alloc z1 _).trans (hb2.mono (by simp; omega)))
    have z2 := E2.out.size
    clear hb2 E1
    go_wp2_with fail
    with_reducible refine (specCut_yes lo hi key _ hlo hhi hkey hc).mono ?_
    rintro e w3 ⟨rfl, hb3⟩
    have ZB := ((ZA.alloc _).alloc _).below hb3
    have ZC := ((Zr.made _ _ _ w2).alloc _).below hb3
    have ZD := (Zr.made2 _ _ _ _ w2).below hb3
    clear a0 a1 a4
    have a0 := ZB.c0; have a1 := ZB.c1; have a4 := ZB.lt
    have c0 := ZC.c0; have c1 := ZC.c1; have c4 := ZC.lt
    have d0 := ZD.c0; have d1 := ZD.c1; have d4 := ZD.lt
    have E3 := Lib.hid (((E2.out.alloc z2 _).alloc (by simp; omega) _).trans (hb3.mono (by simp; omega)))
    have z3 := E3.out.size
    clear hb3 E2
    go_wp2_with fail
    with_reducible refine (join_yes lo key key hi _ hlo hkey hkey hhi hj).mono ?_
    rintro e w4 ⟨rfl, hb4⟩
    have YB := ((ZB.alloc _).alloc _).below hb4
    have YC := ((ZC.alloc _).alloc _).below hb4
    have YD := ((ZD.alloc _).alloc _).below hb4
    clear a0 a1 a4 c0 c1 c4 d0 d1 d4
    have a0 := YB.c0; have a1 := YB.c1; have a4 := YB.lt
    have c0 := YC.c0; have c1 := YC.c1; have c4 := YC.lt
    have d0 := YD.c0; have d1 := YD.c1; have d4 := YD.lt
    have E4 := Lib.hid (((E3.out.alloc z3 _).alloc (by simp; omega) _).trans (hb4.mono (by simp; omega)))
    have z4 := E4.out.size
    clear hb4 E3 ZA ZB ZC ZD
    go_wp2_with fail
    with_reducible refine (has_is hh hkey hhi hkey _).mono ?_
    rintro e w5 ⟨rfl, hb5⟩
    have XC := (YC.alloc _).below hb5
    have XD := (YD.alloc _).below hb5
    clear c0 c1 c4 d0 d1 d4
    have c0 := XC.c0; have c1 := XC.c1; have c4 := XC.lt
    have d0 := XD.c0; have d1 := XD.c1; have d4 := XD.lt
    have E5 := Lib.hid ((E4.out.alloc z4 _).trans (hb5.mono (by simp; omega)))
    have z5 := E5.out.size
    clear hb5 E4 YB YC YD
    go_wp2_with fail
    with_reducible refine (has_is hg hlo hkey hkey _).mono ?_
    rintro e w6 ⟨rfl, hb6⟩
    have WC := XC.below hb6
    have WD := XD.below hb6
    clear c0 c1 c4 d0 d1 d4
    have c0 := WC.c0; have c1 := WC.c1; have c4 := WC.lt
    have d0 := WD.c0; have d1 := WD.c1; have d4 := WD.lt
    have E6 := Lib.hid (E5.out.trans (hb6.mono z5))
    have z6 := E6.out.size
    clear hb6 E5 XC XD
    go_wp2_with fail
    with_reducible refine (spanOk_is hs hlo hkey _).mono ?_
    rintro e w7 ⟨rfl, hb7⟩
    have VD := WD.below hb7
    clear c0 c1 c4 d0 d1 d4
    have d0 := VD.c0; have d1 := VD.c1; have d4 := VD.lt
    have E7 := Lib.hid (E6.out.trans (hb7.mono z6))
    have z7 := E7.out.size
    clear hb7 E6 WC WD
    go_wp2_with fail
    with_reducible refine (spanOk_is ht hkey hhi _).mono ?_
    rintro e w8 ⟨rfl, hb8⟩
    go_wp2_with fail
    go_ret
    exact ⟨rfl, E7.out.trans (hb8.mono z7)⟩
end Go.Proofs.Ytandapnogpocmaa
