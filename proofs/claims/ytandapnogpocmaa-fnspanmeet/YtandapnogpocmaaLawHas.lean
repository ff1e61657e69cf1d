/- The walk of the law FnSpanHas: a key is in a span just if it is in one of the pieces. -/
import Derived.Test.YtandapnogpocmaaLawCut
namespace Go.Proofs.Ytandapnogpocmaa
open Go.RowKit

theorem less_trans {x y z : List UInt8} (h : Op.bytesLess x y = true) (k : Op.bytesLess y z = true) : Op.bytesLess x z = true := by
  rw [bytesLess_eq] at *
  simp only [decide_eq_true_eq] at *
  exact List.lt_trans h k

theorem has_split {lo hi key c : ByteArray} (h : cutOkB lo hi c = true) :
    (spanHasB lo c key || spanHasB c hi key) = spanHasB lo hi key ∧ (spanHasB lo c key && spanHasB c hi key) = false := by
  obtain ⟨_, _, _, s1, s2⟩ := cut_join h
  rw [cut_split] at h
  simp only [Bool.and_eq_true, Bool.not_eq_true'] at h
  obtain ⟨⟨⟨h1, h2⟩, h3⟩, h4⟩ := h
  have hc : c.toList.isEmpty = false := by unfold keyOkB at h2; simp only [Bool.and_eq_true, Bool.not_eq_true'] at h2; exact h2.1
  unfold hasB at h3
  simp only [Bool.and_eq_true, Bool.not_eq_true'] at h3
  obtain ⟨h5, h6⟩ := h3
  have hlt := less_of h5 h4
  unfold spanHasB
  rw [s1, s2, h1]
  cases hk : keyOkB key
  · simp
  · simp only [Bool.true_and]
    unfold hasB
    rw [hc]
    cases e1 : Op.bytesLess key.toList c.toList
    · have e2 : Op.bytesLess key.toList lo.toList = false := by
        cases e : Op.bytesLess key.toList lo.toList
        · rfl
        · rw [less_trans e hlt] at e1; cases e1
      rw [e2]; simp
    · cases e3 : hi.toList.isEmpty
      · rw [e3] at h6
        have e4 : Op.bytesLess key.toList hi.toList = true := less_trans e1 (by simpa using h6)
        rw [e4]; simp
      · simp

theorem specSpanOk_is {lo hi : ByteArray} {b : Bool} (h : spanOkB lo hi = b) (hlo : lo.size ≤ maxLen) (hhi : hi.size ≤ maxLen) (w : World) :
    Calls Try.prog 18 #[.agg #[.string lo, .string hi]] w fun e w' => e = .returned (.bool b) ∧ Below w.heap.size w w' := by rw [← h]; exact specSpanOk_any lo hi w hlo hhi
theorem specKeyOk_is {s : ByteArray} {b : Bool} (h : keyOkB s = b) (hs : s.size ≤ maxLen) (w : World) :
    Calls Try.prog 20 #[.string s] w fun e w' => e = .returned (.bool b) ∧ w = w' := by rw [← h]; exact specKeyOk_any s w hs
theorem specHas_is {lo hi key : ByteArray} {b : Bool} (h : spanHasB lo hi key = b) (hlo : lo.size ≤ maxLen) (hhi : hi.size ≤ maxLen) (hkey : key.size ≤ maxLen) (w : World) :
    Calls Try.prog 16 #[.agg #[.string lo, .string hi], .string key] w fun e w' => e = .returned (.bool b) ∧ Below w.heap.size w w' := by rw [← h]; exact specSpanHas_any lo hi key w hlo hhi hkey

/-- Two cells, where they lie, and what has not turned since w0. -/
theorem keep2 {u v w0 : World} {m : Nat} {x y : Value} (hb : Below u.heap.size u v) (h : u.cell? ⟨m, 0, none⟩ = some x ∧ u.cell? ⟨m, 1, none⟩ = some y ∧ m < u.heap.size ∧ Below w0.heap.size w0 u) :
    v.cell? ⟨m, 0, none⟩ = some x ∧ v.cell? ⟨m, 1, none⟩ = some y ∧ m < v.heap.size ∧ Below w0.heap.size w0 v := by
  obtain ⟨h1, h2, h3, h4⟩ := h
  exact ⟨by rw [hb.cell (p := ⟨m, 0, none⟩) h3, h1], by rw [hb.cell (p := ⟨m, 1, none⟩) h3, h2], Nat.lt_of_lt_of_le h3 hb.size, h4.trans (hb.mono h4.size)⟩

set_option maxRecDepth 100000 in
set_option maxHeartbeats 4000000 in
theorem hasLaw (a : Option Addr) (len cap : Nat) (a' : Option Addr) (len' cap' : Nat) (w : World) (h : BytesIn w a len cap) (h' : BytesIn w a' len' cap') (hl : ¬ 1048576 < len) (hl' : ¬ 1048576 < len') :
    Calls Try.prog 3 #[.slice a len cap, .slice a' len' cap'] w fun e w' => e = .returned (.bool true) ∧ Below w.heap.size w w' := by
  have H := Lib.hid h
  have H' := Lib.hid h'
  clear h h'
  go_enter Try.func3, Try.ntmps3
  go_wp2_with fail
  with_reducible refine (drawSpanHas_any a len cap _ H.out).mono ?_
  rintro e w1 ⟨lo, hi, key, hlo, hhi, hkey, rfl, hb1⟩
  have E1 := Lib.hid hb1
  have z1 : w.heap.size ≤ w1.heap.size := hb1.size
  clear hb1
  obtain ⟨b1, k1⟩ : ∃ b, spanHasB lo hi key = b := ⟨_, rfl⟩
  obtain ⟨b3, k3⟩ : ∃ b, keyOkB key = b := ⟨_, rfl⟩
  have K1 := Lib.hid k1
  have K3 := Lib.hid k3
  clear k1 k3
  go_wp2_with fail
  with_reducible refine (has_is K1.out hlo hhi hkey _).mono ?_
  rintro e w2 ⟨rfl, hb2⟩
  have ZA := (Zr.made _ _ _ w1).below hb2
  have a0 := ZA.c0; have a1 := ZA.c1; have a4 := ZA.lt
  have E2 := Lib.hid ((E1.out.alloc z1 _).trans (hb2.mono (by simp; omega)))
  have z2 := E2.out.size
  clear hb2 E1
  have q2 : w2.cell? ⟨w1.heap.size, 0, none⟩ = some (.string lo) ∧ w2.cell? ⟨w1.heap.size, 1, none⟩ = some (.string hi) ∧ w1.heap.size < w2.heap.size ∧ Below w2.heap.size w2 w2 := ⟨a0, a1, a4, Below.refl _ _⟩
  cases h2 : spanOkB lo hi
  · go_upto_region 5 with fail
    go_region_held3 (fun u => u.cell? ⟨w1.heap.size, 0, none⟩ = some (.string lo) ∧ u.cell? ⟨w1.heap.size, 1, none⟩ = some (.string hi) ∧ w1.heap.size < u.heap.size ∧ Below w2.heap.size w2 u)
      (first | with_reducible exact qd | with_reducible exact qe | with_reducible exact qc | with_reducible exact qb | with_reducible exact keep2 ((Below.refl _ _).drew) q2)
      (first
        | (go_at_call 16; (with_reducible refine (specHas_is K1.out hlo hhi hkey _).mono ?_); rintro e wb ⟨rfl, hwb⟩; have qb := keep2 (w0 := w2) (m := w1.heap.size) (x := .string lo) (y := .string hi) hwb (by with_reducible assumption))
        | (go_at_call 18; (with_reducible refine (specSpanOk_is h2 hlo hhi _).mono ?_); rintro e wd ⟨rfl, hwd⟩; have qd := keep2 (w0 := w2) (m := w1.heap.size) (x := .string lo) (y := .string hi) hwd (by with_reducible assumption))
        | (go_at_call 17; (with_reducible refine (spanOk_is h2 hlo hhi _).mono ?_); rintro e wc ⟨rfl, hwc⟩; have qc := keep2 (w0 := w2) (m := w1.heap.size) (x := .string lo) (y := .string hi) hwc (by with_reducible assumption))
        | (go_at_call 19; (with_reducible refine (keyOk_is K3.out hkey _).mono ?_); rintro e we ⟨rfl, hwe⟩; subst hwe)
        | (go_at_call 20; (with_reducible refine (specKeyOk_is K3.out hkey _).mono ?_); rintro e wf ⟨rfl, hwf⟩; subst hwf))
    clear q2
    have q2 := qc
    have z3 : w2.heap.size ≤ wc.heap.size := qc.2.2.2.size
    have E3 := Lib.hid (E2.out.trans (qc.2.2.2.mono z2))
    clear qb qd hwb hwd hwc
    go_upto_region 6 with fail
    go_region_held3 (fun u => u.cell? ⟨w1.heap.size, 0, none⟩ = some (.string lo) ∧ u.cell? ⟨w1.heap.size, 1, none⟩ = some (.string hi) ∧ w1.heap.size < u.heap.size ∧ Below w2.heap.size w2 u)
      (first | with_reducible exact qd | with_reducible exact qe | with_reducible exact qc | with_reducible exact qb | with_reducible exact keep2 ((Below.refl _ _).drew) q2)
      (first
        | (go_at_call 16; (with_reducible refine (specHas_is K1.out hlo hhi hkey _).mono ?_); rintro e wb ⟨rfl, hwb⟩; have qb := keep2 (w0 := w2) (m := w1.heap.size) (x := .string lo) (y := .string hi) hwb (by with_reducible assumption))
        | (go_at_call 18; (with_reducible refine (specSpanOk_is h2 hlo hhi _).mono ?_); rintro e wd ⟨rfl, hwd⟩; have qd := keep2 (w0 := w2) (m := w1.heap.size) (x := .string lo) (y := .string hi) hwd (by with_reducible assumption))
        | (go_at_call 17; (with_reducible refine (spanOk_is h2 hlo hhi _).mono ?_); rintro e wc ⟨rfl, hwc⟩; have qc := keep2 (w0 := w2) (m := w1.heap.size) (x := .string lo) (y := .string hi) hwc (by with_reducible assumption))
        | (go_at_call 19; (with_reducible refine (keyOk_is K3.out hkey _).mono ?_); rintro e we ⟨rfl, hwe⟩; subst hwe)
        | (go_at_call 20; (with_reducible refine (specKeyOk_is K3.out hkey _).mono ?_); rintro e wf ⟨rfl, hwf⟩; subst hwf))
    go_wp2_with fail
    go_ret
    exact ⟨by simp, E2.out.trans (qd.2.2.2.mono z2)⟩
  · go_upto_region 5 with fail
    go_region_held3 (fun u => u.cell? ⟨w1.heap.size, 0, none⟩ = some (.string lo) ∧ u.cell? ⟨w1.heap.size, 1, none⟩ = some (.string hi) ∧ w1.heap.size < u.heap.size ∧ Below w2.heap.size w2 u)
      (first | with_reducible exact qd | with_reducible exact qe | with_reducible exact qc | with_reducible exact qb | with_reducible exact keep2 ((Below.refl _ _).drew) q2)
      (first
        | (go_at_call 16; (with_reducible refine (specHas_is K1.out hlo hhi hkey _).mono ?_); rintro e wb ⟨rfl, hwb⟩; have qb := keep2 (w0 := w2) (m := w1.heap.size) (x := .string lo) (y := .string hi) hwb (by with_reducible assumption))
        | (go_at_call 18; (with_reducible refine (specSpanOk_is h2 hlo hhi _).mono ?_); rintro e wd ⟨rfl, hwd⟩; have qd := keep2 (w0 := w2) (m := w1.heap.size) (x := .string lo) (y := .string hi) hwd (by with_reducible assumption))
        | (go_at_call 17; (with_reducible refine (spanOk_is h2 hlo hhi _).mono ?_); rintro e wc ⟨rfl, hwc⟩; have qc := keep2 (w0 := w2) (m := w1.heap.size) (x := .string lo) (y := .string hi) hwc (by with_reducible assumption))
        | (go_at_call 19; (with_reducible refine (keyOk_is K3.out hkey _).mono ?_); rintro e we ⟨rfl, hwe⟩; subst hwe)
        | (go_at_call 20; (with_reducible refine (specKeyOk_is K3.out hkey _).mono ?_); rintro e wf ⟨rfl, hwf⟩; subst hwf))
    have c0 := qc.1
    have c1 := qc.2.1
    have c4 := qc.2.2.1
    have E3 := Lib.hid (E2.out.trans (qc.2.2.2.mono z2))
    have z3 := E3.out.size
    clear q2 qc qb qd hwb hwd hwc a0 a1 a4 E2
    go_wp2_with fail
    with_reducible refine (drawSpanHas_any a' len' cap' _ (H'.out.below E3.out)).mono ?_
    rintro e w4 ⟨lo2, hi2, at2, hlo2, hhi2, hat, rfl, hb4⟩
    have d0 := (hb4.cell (p := ⟨w1.heap.size, 0, none⟩) c4).trans c0
    have d1 := (hb4.cell (p := ⟨w1.heap.size, 1, none⟩) c4).trans c1
    have d4 : w1.heap.size < w4.heap.size := Nat.lt_of_lt_of_le c4 hb4.size
    have E4 := Lib.hid (E3.out.trans (hb4.mono z3))
    have z4 := E4.out.size
    clear hb4 c0 c1 c4 E3
    go_wp2_with fail
    cases hc : cutOkB lo hi at2
    · with_reducible refine (cut_no lo hi at2 _ hlo hhi hat hc).mono ?_
      rintro e w5 ⟨rfl, hb5⟩
      have E5 := Lib.hid ((E4.out.alloc z4 _).trans (hb5.mono (by simp; omega)))
      have z5 := E5.out.size
      clear hb5 E4
      have hsz : (⟨#[]⟩ : ByteArray).size ≤ maxLen := by unfold maxLen; exact Nat.zero_le _
      go_wp2_with fail
      with_reducible refine (spanHas_any ⟨#[]⟩ ⟨#[]⟩ key _ hsz hsz hkey).mono ?_
      rintro e w6 ⟨rfl, hb6⟩
      have ZD := (Zr.made2 _ _ _ _ w5).below hb6
      have f0 := ZD.c0; have f1 := ZD.c1
      have E6 := Lib.hid (((E5.out.alloc z5 _).alloc (by simp; omega) _).trans (hb6.mono (by simp; omega)))
      have z6 := E6.out.size
      clear hb6 E5
      go_wp2_with fail
      with_reducible refine (spanHas_any ⟨#[]⟩ ⟨#[]⟩ key _ hsz hsz hkey).mono ?_
      rintro e w7 ⟨rfl, hb7⟩
      go_wp2_with fail
      go_ret
      exact ⟨rfl, E6.out.trans (hb7.mono z6)⟩
    · obtain ⟨g1, g2⟩ := has_split (key := key) hc
      with_reducible refine (cut_yes lo hi at2 _ hlo hhi hat hc).mono ?_
      rintro e w5 ⟨rfl, hb5⟩
      have E5 := Lib.hid ((E4.out.alloc z4 _).trans (hb5.mono (by simp; omega)))
      have z5 := E5.out.size
      clear hb5 E4
      rw [K1.out] at g1
      generalize hx : spanHasB lo at2 key = x at *
      generalize hy : spanHasB at2 hi key = y at *
      have HX := Lib.hid hx
      have HY := Lib.hid hy
      have G1 := Lib.hid g1
      have G2 := Lib.hid g2
      clear hx hy g1 g2
      go_wp2_with fail
      with_reducible refine (has_is HX.out hlo hat hkey _).mono ?_
      rintro e w6 ⟨rfl, hb6⟩
      have ZD := (Zr.made2 _ _ _ _ w5).below hb6
      have f0 := ZD.c0; have f1 := ZD.c1
      have E6 := Lib.hid (((E5.out.alloc z5 _).alloc (by simp; omega) _).trans (hb6.mono (by simp; omega)))
      have z6 := E6.out.size
      clear hb6 E5
      go_wp2_with fail
      with_reducible refine (has_is HY.out hat hhi hkey _).mono ?_
      rintro e w7 ⟨rfl, hb7⟩
      have E7 := Lib.hid (E6.out.trans (hb7.mono z6))
      have G1' := G1.out
      have G2' := G2.out
      clear hb7 E6 G1 G2 HX HY K1
      subst G1'
      cases x <;> cases y <;> first | (exfalso; revert G2'; decide) | (clear G2'; go_wp2_with fail; go_ret; exact ⟨rfl, E7.out⟩)
end Go.Proofs.Ytandapnogpocmaa
