/- Maps that read the same compare as equal. -/
import Derived.Test.YtjijichgoodocaaVm
namespace Go.Proofs.Ytjijichgoodocaa
open Go.RowKit

set_option maxHeartbeats 1000000 in
theorem eqVer_same (i : Int) (s : ByteArray) (g : Bool) (w : World) :
    Calls Try.prog 210 #[.agg #[.int .i64 i, .string s, .bool g], .agg #[.int .i64 i, .string s, .bool g]] w fun e w' => e = .returned (.bool true) ∧ Below w.heap.size w w' := by
  go_enter Try.func210, Try.ntmps210
  go_wp2
  go_ret
  exact ⟨rfl, ((Below.refl _ _).alloc (Nat.le_refl _) _).alloc (by simp) _⟩

set_option maxHeartbeats 2000000 in
theorem eqVerS_same (a b : Option Addr) (vs : List VerD) (ca cb : Nat) (w : World) (ha : VersIn w a vs) (hb : VersIn w b vs) (hn : vs.length ≤ maxLen) :
    Calls Try.prog 192 #[.slice a vs.length ca, .slice b vs.length cb] w fun e w' => e = .returned (.bool true) ∧ Below w.heap.size w w' := by
  unfold maxLen at hn
  have HA := Lib.hid ha
  have HB := Lib.hid hb
  clear ha hb
  go_enter Try.func192, Try.ntmps192
  go_wp2_with fail
  go_loopw [5] (fun i wr => ∃ k : Nat, k ≤ vs.length ∧ i = .int .i64 k ∧ Below w.heap.size w wr) (fun i _ => vs.length - (intOf i).toNat)
  case atStart => exact ⟨0, Nat.zero_le _, rfl, Below.refl _ _⟩
  case round =>
    obtain ⟨k, hk, rfl, hB⟩ := hrel
    have HW := Lib.hid hB
    clear hB
    by_cases hlt : k < vs.length
    · rcases HA.out.below HW.out with hnil | ⟨b1, o1, rfl, hb1, hc1⟩
      · rw [hnil] at hlt; simp at hlt
      rcases HB.out.below HW.out with hnil | ⟨b2, o2, rfl, hb2, hc2⟩
      · rw [hnil] at hlt; simp at hlt
      obtain ⟨c0, c1, c2⟩ := hc1 k hlt
      obtain ⟨d0, d1, d2⟩ := hc2 k hlt
      clear hc1 hc2
      have i1 : (0 : Int) ≤ (k : Int) := by omega
      have i2 : (k : Int) < (vs.length : Int) := by omega
      go_wp2_with fail
      go_region_held3 (fun u => u.cell? ⟨b1, o1 + k * 3, none⟩ = some (.int .i64 vs[k].id) ∧ u.cell? ⟨b1, o1 + k * 3 + 1, none⟩ = some (.string vs[k].text) ∧ u.cell? ⟨b1, o1 + k * 3 + 2, none⟩ = some (.bool vs[k].gone) ∧ u.cell? ⟨b2, o2 + k * 3, none⟩ = some (.int .i64 vs[k].id) ∧ u.cell? ⟨b2, o2 + k * 3 + 1, none⟩ = some (.string vs[k].text) ∧ u.cell? ⟨b2, o2 + k * 3 + 2, none⟩ = some (.bool vs[k].gone))
        (first | with_reducible exact q2 | exact ⟨c0, c1, c2, d0, d1, d2⟩)
        (first
          | (go_at_call 210; (with_reducible refine (eqVer_same _ _ _ _).mono ?_); rintro e w2 ⟨rfl, hw2⟩; have hw3 := ((Below.refl wr.heap.size wr).drew).trans hw2; have q2 := (show w2.cell? ⟨b1, o1 + k * 3, none⟩ = some (.int .i64 vs[k].id) ∧ w2.cell? ⟨b1, o1 + k * 3 + 1, none⟩ = some (.string vs[k].text) ∧ w2.cell? ⟨b1, o1 + k * 3 + 2, none⟩ = some (.bool vs[k].gone) ∧ w2.cell? ⟨b2, o2 + k * 3, none⟩ = some (.int .i64 vs[k].id) ∧ w2.cell? ⟨b2, o2 + k * 3 + 1, none⟩ = some (.string vs[k].text) ∧ w2.cell? ⟨b2, o2 + k * 3 + 2, none⟩ = some (.bool vs[k].gone) from ⟨(hw3.cell (p := ⟨b1, o1 + k * 3, none⟩) hb1).trans c0, (hw3.cell (p := ⟨b1, o1 + k * 3 + 1, none⟩) hb1).trans c1, (hw3.cell (p := ⟨b1, o1 + k * 3 + 2, none⟩) hb1).trans c2, (hw3.cell (p := ⟨b2, o2 + k * 3, none⟩) hb2).trans d0, (hw3.cell (p := ⟨b2, o2 + k * 3 + 1, none⟩) hb2).trans d1, (hw3.cell (p := ⟨b2, o2 + k * 3 + 2, none⟩) hb2).trans d2⟩)))
      all_goals
        have HW3 := Lib.hid (HW.out.trans (hw3.mono HW.out.size))
        clear hw2 hw3 q2
        go_wp2_with fail
        go_roundw
        case rel => exact ⟨k + 1, by omega, by go_num, HW3.out⟩
        case measure => simp [intOf]; omega
    · go_wp2_with fail
      go_ret
      exact ⟨rfl, HW.out⟩

/-- Two lists of objects hold the same, wherever their versions lie. -/
def SameObjs (xs ys : List ObjD) : Prop := xs.length = ys.length ∧ ∀ i (h : i < xs.length) (k : i < ys.length), xs[i].key = ys[i].key ∧ xs[i].vers = ys[i].vers

set_option maxHeartbeats 1000000 in
theorem eqObj_same (s : ByteArray) (a b : Option Addr) (ca cb : Nat) (vs : List VerD) (w : World) (ha : VersIn w a vs) (hb : VersIn w b vs) (hn : vs.length ≤ maxLen) :
    Calls Try.prog 171 #[.agg #[.string s, .slice a vs.length ca], .agg #[.string s, .slice b vs.length cb]] w fun e w' => e = .returned (.bool true) ∧ Below w.heap.size w w' := by
  have HA := Lib.hid ha
  have HB := Lib.hid hb
  clear ha hb
  go_enter Try.func171, Try.ntmps171
  go_wp2_with fail
  have hb0 : Below w.heap.size w ((w.alloc (.cells #[.string s, .slice a vs.length ca] 45)).alloc (.cells #[.string s, .slice b vs.length cb] 45)) := ((Below.refl _ _).alloc (Nat.le_refl _) _).alloc (by simp) _
  with_reducible refine (eqVerS_same a b vs ca cb _ (HA.out.below hb0) (HB.out.below hb0) hn).mono ?_
  rintro e w2 ⟨rfl, hw2⟩
  have E2 := Lib.hid (hb0.trans (hw2.mono (by simp; omega)))
  clear hw2 hb0
  go_wp2_with fail
  go_ret
  exact ⟨rfl, E2.out⟩

set_option maxHeartbeats 2000000 in
theorem eqObjS_same (a b : Option Addr) (xs ys : List ObjD) (ca cb n : Nat) (w : World) (ha : ObjsIn w a xs) (hb : ObjsIn w b ys) (hs : SameObjs xs ys) (hx : xs.length = n) (hf : ∀ o ∈ xs, o.fits) (hn : n ≤ maxLen) :
    Calls Try.prog 129 #[.slice a n ca, .slice b n cb] w fun e w' => e = .returned (.bool true) ∧ Below w.heap.size w w' := by
  unfold maxLen at hn
  have HA := Lib.hid ha
  have HB := Lib.hid hb
  have HS := Lib.hid hs
  have HX := Lib.hid hx
  have HF := Lib.hid hf
  have HY := Lib.hid (hs.1.symm.trans hx)
  clear ha hb hs hx hf
  go_enter Try.func129, Try.ntmps129
  go_wp2_with fail
  go_loopw [5] (fun i wr => ∃ k : Nat, k ≤ n ∧ i = .int .i64 k ∧ Below w.heap.size w wr) (fun i _ => n - (intOf i).toNat)
  case atStart => exact ⟨0, Nat.zero_le _, rfl, Below.refl _ _⟩
  case round =>
    obtain ⟨k, hk, rfl, hB⟩ := hrel
    have HW := Lib.hid hB
    clear hB
    by_cases hlt : k < n
    · have hkx : k < xs.length := by have := HX.out; omega
      have hky : k < ys.length := by have := HY.out; omega
      rcases HA.out.below HW.out with hnil | ⟨b1, o1, rfl, hb1, hc1⟩
      · rw [hnil] at hkx; simp at hkx
      rcases HB.out.below HW.out with hnil | ⟨b2, o2, rfl, hb2, hc2⟩
      · rw [hnil] at hky; simp at hky
      obtain ⟨c0, c1, cv⟩ := hc1 k hkx
      obtain ⟨d0, d1, dv⟩ := hc2 k hky
      obtain ⟨ek, ev⟩ := HS.out.2 k hkx hky
      have hfk := (HF.out _ (List.getElem_mem hkx)).2.1
      rw [← ek] at d0
      rw [← ev] at d1 dv
      have CV := Lib.hid cv
      have DV := Lib.hid dv
      have HFK := Lib.hid hfk
      clear hc1 hc2 ek ev cv dv hfk
      generalize ys[k].at_ = yat at *
      generalize ys[k].cap = ycap at *
      generalize xs[k].at_ = xat at *
      generalize xs[k].cap = xcap at *
      generalize xs[k].key = xkey at *
      generalize xs[k].vers = xvs at *
      have i1 : (0 : Int) ≤ (k : Int) := by omega
      have i2 : (k : Int) < (n : Int) := by omega
      go_wp2_with fail
      go_region_held3 (fun u => u.cell? ⟨b1, o1 + k * 2, none⟩ = some (.string xkey) ∧ u.cell? ⟨b1, o1 + k * 2 + 1, none⟩ = some (.slice xat xvs.length xcap) ∧ u.cell? ⟨b2, o2 + k * 2, none⟩ = some (.string xkey) ∧ u.cell? ⟨b2, o2 + k * 2 + 1, none⟩ = some (.slice yat xvs.length ycap))
        (first | with_reducible exact q2 | exact ⟨c0, c1, d0, d1⟩)
        (first
          | (go_at_call 171; (with_reducible refine (eqObj_same _ _ _ _ _ _ _ (CV.out.below ((Below.refl _ _).drew)) (DV.out.below ((Below.refl _ _).drew)) HFK.out).mono ?_); rintro e w2 ⟨rfl, hw2⟩; have hw3 := ((Below.refl wr.heap.size wr).drew).trans hw2; have q2 := (show w2.cell? ⟨b1, o1 + k * 2, none⟩ = some (.string xkey) ∧ w2.cell? ⟨b1, o1 + k * 2 + 1, none⟩ = some (.slice xat xvs.length xcap) ∧ w2.cell? ⟨b2, o2 + k * 2, none⟩ = some (.string xkey) ∧ w2.cell? ⟨b2, o2 + k * 2 + 1, none⟩ = some (.slice yat xvs.length ycap) from ⟨(hw3.cell (p := ⟨b1, o1 + k * 2, none⟩) hb1).trans c0, (hw3.cell (p := ⟨b1, o1 + k * 2 + 1, none⟩) hb1).trans c1, (hw3.cell (p := ⟨b2, o2 + k * 2, none⟩) hb2).trans d0, (hw3.cell (p := ⟨b2, o2 + k * 2 + 1, none⟩) hb2).trans d1⟩)))
      all_goals
        have HW3 := Lib.hid (HW.out.trans (hw3.mono HW.out.size))
        clear hw2 hw3 q2
        go_wp2_with fail
        go_roundw
        case rel => exact ⟨k + 1, by omega, by go_num, HW3.out⟩
        case measure => simp [intOf]; omega
    · go_wp2_with fail
      go_ret
      exact ⟨rfl, HW.out⟩

set_option maxHeartbeats 1000000 in
theorem eqVmap_same (a b : Option Addr) (xs ys : List ObjD) (ca cb n : Nat) (w : World) (ha : ObjsIn w a xs) (hb : ObjsIn w b ys) (hs : SameObjs xs ys) (hx : xs.length = n) (hf : ∀ o ∈ xs, o.fits) (hn : n ≤ maxLen) :
    Calls Try.prog 67 #[.agg #[.slice a n ca], .agg #[.slice b n cb]] w fun e w' => e = .returned (.bool true) ∧ Below w.heap.size w w' := by
  have HA := Lib.hid ha
  have HB := Lib.hid hb
  have HS := Lib.hid hs
  have HX := Lib.hid hx
  have HF := Lib.hid hf
  clear ha hb hs hx hf
  go_enter Try.func67, Try.ntmps67
  go_wp2_with fail
  have hb0 : Below w.heap.size w ((w.alloc (.cells #[.slice a n ca] 25)).alloc (.cells #[.slice b n cb] 25)) := ((Below.refl _ _).alloc (Nat.le_refl _) _).alloc (by simp) _
  with_reducible refine (eqObjS_same a b xs ys ca cb n _ (HA.out.below hb0) (HB.out.below hb0) HS.out HX.out HF.out hn).mono ?_
  rintro e w2 ⟨rfl, hw2⟩
  have E2 := Lib.hid (hb0.trans (hw2.mono (by simp; omega)))
  clear hw2 hb0
  go_wp2_with fail
  go_ret
  exact ⟨rfl, E2.out⟩
end Go.Proofs.Ytjijichgoodocaa
