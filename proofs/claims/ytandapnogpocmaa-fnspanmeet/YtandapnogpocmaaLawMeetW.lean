/- The walk of the law FnSpanMeet: what is in both is in each. -/
import Derived.Test.YtandapnogpocmaaLawMeet
namespace Go.Proofs.Ytandapnogpocmaa
open Go.RowKit

set_option maxRecDepth 100000 in
set_option maxHeartbeats 4000000 in
theorem meetLaw (a : Option Addr) (len cap : Nat) (a' : Option Addr) (len' cap' : Nat) (w : World) (h : BytesIn w a len cap) (h' : BytesIn w a' len' cap') (hl : ¬ 1048576 < len) (hl' : ¬ 1048576 < len') :
    Calls Try.prog 6 #[.slice a len cap, .slice a' len' cap'] w fun e w' => e = .returned (.bool true) ∧ Below w.heap.size w w' := by
  have H := Lib.hid h
  have H' := Lib.hid h'
  clear h h'
  go_enter Try.func6, Try.ntmps6
  go_wp2_with fail
  with_reducible refine (drawSpanMeet_any a len cap _ H.out).mono ?_
  rintro e w1 ⟨a1, a2, b1, b2, ha1, ha2, hb1, hb2, rfl, hw1⟩
  have E1 := Lib.hid hw1
  have z1 : w.heap.size ≤ w1.heap.size := hw1.size
  clear hw1
  obtain ⟨x1, x2, b, hx1, hx2, c28, c29, hok⟩ := meet_facts a1 a2 b1 b2 ha1 ha2 hb1 hb2
  have HOK := Lib.hid hok
  clear hok
  go_wp2_with fail
  with_reducible refine (c28.call _).mono ?_
  rintro e w2 ⟨rfl, hw2⟩
  have ZA := ((Zr.made _ _ _ w1).alloc _).below hw2
  have ZB := (Zr.made2 _ _ _ _ w1).below hw2
  have r0 := ZA.c0; have r1 := ZA.c1; have r4 := ZA.lt
  have s0 := ZB.c0; have s1 := ZB.c1; have s4 := ZB.lt
  have E2 := Lib.hid (((E1.out.alloc z1 _).alloc (by simp; omega) _).trans (hw2.mono (by simp; omega)))
  have z2 := E2.out.size
  clear hw2 E1
  go_wp2_with fail
  with_reducible refine (c29.call _).mono ?_
  rintro e w3 ⟨rfl, hw3⟩
  have YA := (ZA.alloc _).below hw3
  have YB := (ZB.alloc _).below hw3
  have YC := (Zr.made _ _ _ w2).below hw3
  clear r0 r1 r4 s0 s1 s4
  have r0 := YA.c0; have r1 := YA.c1; have r4 := YA.lt
  have s0 := YB.c0; have s1 := YB.c1; have s4 := YB.lt
  have t0 := YC.c0; have t1 := YC.c1; have t4 := YC.lt
  have E3 := Lib.hid ((E2.out.alloc z2 _).trans (hw3.mono (by simp; omega)))
  have z3 := E3.out.size
  clear hw3 E2 ZA ZB
  go_wp2_with fail
  cases k1 : spanOkB a1 a2
  · with_reducible refine (spanOk_is k1 ha1 ha2 _).mono ?_
    rintro e w4 ⟨rfl, hw4⟩
    have XC := (YC.alloc _).below hw4
    have XD := (Zr.made _ _ _ w3).below hw4
    clear r0 r1 r4 s0 s1 s4 t0 t1 t4
    have t0 := XC.c0; have t1 := XC.c1
    have u0 := XD.c0; have u1 := XD.c1
    have E4 := Lib.hid ((E3.out.alloc z3 _).trans (hw4.mono (by simp; omega)))
    clear hw4 E3
    go_wp2_with fail
    go_ret
    exact ⟨rfl, E4.out⟩
  · with_reducible refine (spanOk_is k1 ha1 ha2 _).mono ?_
    rintro e w4 ⟨rfl, hw4⟩
    have XA := (YA.alloc _).below hw4
    have XB := (YB.alloc _).below hw4
    have XC := (YC.alloc _).below hw4
    have XD := (Zr.made _ _ _ w3).below hw4
    clear r0 r1 r4 s0 s1 s4 t0 t1 t4
    have r0 := XA.c0; have r1 := XA.c1; have r4 := XA.lt
    have s0 := XB.c0; have s1 := XB.c1; have s4 := XB.lt
    have t0 := XC.c0; have t1 := XC.c1; have t4 := XC.lt
    have u0 := XD.c0; have u1 := XD.c1; have u4 := XD.lt
    have E4 := Lib.hid ((E3.out.alloc z3 _).trans (hw4.mono (by simp; omega)))
    have z4 := E4.out.size
    clear hw4 E3 YA YB YC
    go_wp2_with fail
    cases k2 : spanOkB b1 b2
    · with_reducible refine (spanOk_is k2 hb1 hb2 _).mono ?_
      rintro e w5 ⟨rfl, hw5⟩
      have VC := XC.below hw5
      have VD := XD.below hw5
      clear r0 r1 r4 s0 s1 s4 t0 t1 t4 u0 u1 u4
      have t0 := VC.c0; have t1 := VC.c1
      have u0 := VD.c0; have u1 := VD.c1
      have E5 := Lib.hid (E4.out.trans (hw5.mono z4))
      clear hw5 E4
      go_wp2_with fail
      go_ret
      exact ⟨rfl, E5.out⟩
    · with_reducible refine (spanOk_is k2 hb1 hb2 _).mono ?_
      rintro e w5 ⟨rfl, hw5⟩
      have VA := XA.below hw5
      have VB := XB.below hw5
      have VC := XC.below hw5
      clear r0 r1 r4 s0 s1 s4 t0 t1 t4 u0 u1 u4
      have r0 := VA.c0; have r1 := VA.c1; have r4 := VA.lt
      have s0 := VB.c0; have s1 := VB.c1; have s4 := VB.lt
      have E5 := Lib.hid (E4.out.trans (hw5.mono z4))
      have z5 := E5.out.size
      clear hw5 E4 XA XB XC XD
      obtain ⟨c82, hkey⟩ := HOK.out k1 k2
      have HKEY := Lib.hid hkey
      clear hkey HOK
      go_wp2_with fail
      with_reducible refine (c82.call _).mono ?_
      rintro e w6 ⟨rfl, hw6⟩
      have UA := VA.below hw6
      have UB := VB.below hw6
      have UC := VC.below hw6
      clear r0 r1 r4 s0 s1 s4
      have E6 := Lib.hid (E5.out.trans (hw6.mono z5))
      have z6 := E6.out.size
      clear hw6 E5 VA VB VC
      go_wp2_with fail
      with_reducible refine (drawSpanHas_any a' len' cap' _ ?hin).mono ?_
      case hin => exact (H'.out.below E6.out).alloc _
      rintro e w7 ⟨lo2, hi2, key, hlo2, hhi2, hkey, rfl, hw7⟩
      have TA := (UA.alloc _).below hw7
      have TB := (UB.alloc _).below hw7
      have TC := (UC.alloc _).below hw7
      have TD := (Zr.made _ _ _ w6).below hw7
      have r0 := TA.c0; have r1 := TA.c1; have r4 := TA.lt
      have E7 := Lib.hid ((E6.out.alloc z6 _).trans (hw7.mono (by simp; omega)))
      have z7 := E7.out.size
      clear hw7 E6 UA UB UC
      have hkk := HKEY.out key
      obtain ⟨p1, j1⟩ : ∃ q, spanHasB a1 a2 key = q := ⟨_, rfl⟩
      obtain ⟨p2, j2⟩ : ∃ q, spanHasB b1 b2 key = q := ⟨_, rfl⟩
      obtain ⟨p3, j3⟩ : ∃ q, spanHasB x1 x2 key = q := ⟨_, rfl⟩
      rw [j1, j2, j3] at hkk
      have J1 := Lib.hid j1
      have J2 := Lib.hid j2
      have J3 := Lib.hid j3
      have HKK := Lib.hid hkk
      clear j1 j2 j3 hkk HKEY
      go_wp2_with fail
      with_reducible refine (has_is J1.out ha1 ha2 hkey _).mono ?_
      rintro e w8 ⟨rfl, hw8⟩
      have SB := (TB.alloc _).below hw8
      have SC := (TC.alloc _).below hw8
      have SD := (TD.alloc _).below hw8
      clear r0 r1 r4
      have s0 := SB.c0; have s1 := SB.c1; have s4 := SB.lt
      have t0 := SC.c0; have t1 := SC.c1; have t4 := SC.lt
      have u0 := SD.c0; have u1 := SD.c1; have u4 := SD.lt
      have E8 := Lib.hid ((E7.out.alloc z7 _).trans (hw8.mono (by simp; omega)))
      have z8 := E8.out.size
      clear hw8 E7 TA TB TC TD
      cases p1
      · cases b
        · go_wp2_with fail
          go_ret
          exact ⟨rfl, E8.out⟩
        · obtain rfl : p3 = false := by have := HKK.out; simpa using this.symm
          go_wp2_with fail
          with_reducible refine (has_is J3.out hx1 hx2 hkey _).mono ?_
          rintro e w9 ⟨rfl, hw9⟩
          go_wp2_with fail
          go_ret
          exact ⟨rfl, E8.out.trans (hw9.mono z8)⟩
      · go_wp2_with fail
        with_reducible refine (has_is J2.out hb1 hb2 hkey _).mono ?_
        rintro e w9 ⟨rfl, hw9⟩
        have RC := SC.below hw9
        have RD := SD.below hw9
        clear s0 s1 s4 t0 t1 t4 u0 u1 u4
        have t0 := RC.c0; have t1 := RC.c1; have t4 := RC.lt
        have u0 := RD.c0; have u1 := RD.c1; have u4 := RD.lt
        have E9 := Lib.hid (E8.out.trans (hw9.mono z8))
        have z9 := E9.out.size
        clear hw9 E8 SB SC SD
        cases b
        · obtain rfl : p2 = false := by have := HKK.out; simpa using this
          go_wp2_with fail
          go_ret
          exact ⟨rfl, E9.out⟩
        · obtain rfl : p2 = p3 := by have := HKK.out; simpa using this
          go_wp2_with fail
          with_reducible refine (has_is J3.out hx1 hx2 hkey _).mono ?_
          rintro e w10 ⟨rfl, hw10⟩
          go_wp2_with fail
          go_ret
          exact ⟨by simp, E9.out.trans (hw10.mono z9)⟩
end Go.Proofs.Ytandapnogpocmaa
