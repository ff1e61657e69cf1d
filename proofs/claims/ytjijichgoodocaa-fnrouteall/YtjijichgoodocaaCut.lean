/- VmapAt and VmapGet, as the program has them. -/
import Derived.Test.YtjijichgoodocaaVmF
import Derived.Test.YtjijichgoodocaaPutV
import Derived.Test.YtjijichgoodocaaLie
namespace Go.Proofs.Ytjijichgoodocaa
open Go.RowKit

def AtPost (os : List ObjD) (key : ByteArray) (id : Int) (w : World) (e : Ending) (w' : World) : Prop :=
  ∃ x : Option VerD, e = .returned (verRes x) ∧ (MapOkTo os os.length → keyOkB key = true → x = atF os key id) ∧ (¬ (MapOkTo os os.length ∧ keyOkB key = true) → x = none) ∧ Below w.heap.size w w'

set_option maxHeartbeats 2000000 in
theorem vmapAt_any (a : Option Addr) (os : List ObjD) (cap : Nat) (key : ByteArray) (id : Int) (w : World) (hv : ObjsIn w a os) (hf : ∀ o ∈ os, o.fits) (hn : os.length ≤ 1048576) (hvl : ∀ o ∈ os, o.vers.length ≤ 1048576) (hkey : key.size ≤ maxLen) :
    Calls Try.prog 22 #[.agg #[.slice a os.length cap], .string key, .int .i64 id] w (AtPost os key id w) := by
  have HV := Lib.hid hv
  have HF := Lib.hid hf
  have HL := Lib.hid hvl
  clear hv hf hvl
  go_enter Try.func22, Try.ntmps22
  go_wp2_with fail
  have hb0 : Below w.heap.size w ((w.alloc (.cells #[.slice a os.length cap] 25)).alloc (.cells #[.int .i64 0, .string ⟨#[]⟩, .bool false] 27)) := ((Below.refl _ _).alloc (Nat.le_refl _) _).alloc (by simp) _
  refine (vmapOk_any a os cap _ (HV.out.below hb0) HF.out (by unfold maxLen; omega)).mono ?_
  rintro e w2 ⟨b, rfl, hb, hb2⟩
  have cm := hb2.cell (p := ⟨w.heap.size, 0, none⟩) (by simp; omega)
  have c0 := hb2.cell (p := ⟨w.heap.size + 1, 0, none⟩) (by simp)
  have c1 := hb2.cell (p := ⟨w.heap.size + 1, 1, none⟩) (by simp)
  have c2 := hb2.cell (p := ⟨w.heap.size + 1, 2, none⟩) (by simp)
  have f0 := hb2.frozen (p := ⟨w.heap.size + 1, 0, none⟩) (by simp)
  have f1 := hb2.frozen (p := ⟨w.heap.size + 1, 1, none⟩) (by simp)
  have f2 := hb2.frozen (p := ⟨w.heap.size + 1, 2, none⟩) (by simp)
  simp [go_sem] at cm c0 c1 c2 f0 f1 f2
  have hs0 : w.heap.size < w2.heap.size := by have := hb2.size; simp at this; omega
  have hs2 : w.heap.size + 1 < w2.heap.size := by have := hb2.size; simp at this; omega
  have HOk := Lib.hid hb
  have B2 := Lib.hid (hb0.trans (hb2.mono (by simp; omega)))
  clear hb0 hb hb2
  cases b
  · have hno : ¬ MapOkTo os os.length := fun h => absurd (HOk.out.2 h) (by decide)
    have HNO := Lib.hid hno
    clear hno
    go_wp2_with fail
    exact bodyPost_ret (v := verRes none) (by simp [results, Try.results22, go_sem, verRes, c0, c1, c2, hs2]) rfl ⟨none, rfl, fun h => absurd h HNO.out, fun _ => rfl, ((B2.out.setCell (p := ⟨w.heap.size + 1, 0, none⟩) (by simp) _).setCell (p := ⟨w.heap.size + 1, 1, none⟩) (by simp) _).setCell (p := ⟨w.heap.size + 1, 2, none⟩) (by simp) _⟩
  · have hyes : MapOkTo os os.length := HOk.out.1 rfl
    have HYES := Lib.hid hyes
    clear hyes
    cases hk : keyOkB key
    · go_wp2_with (go_at_call 60; refine (keyOk_is hk hkey _).mono ?_; rintro e w' ⟨rfl, rfl⟩)
      exact bodyPost_ret (v := verRes none) (by simp [results, Try.results22, go_sem, verRes, c0, c1, c2, hs2]) rfl ⟨none, rfl, fun _ h => absurd h (by simp [hk]), fun _ => rfl, ((B2.out.setCell (p := ⟨w.heap.size + 1, 0, none⟩) (by simp) _).setCell (p := ⟨w.heap.size + 1, 1, none⟩) (by simp) _).setCell (p := ⟨w.heap.size + 1, 2, none⟩) (by simp) _⟩
    · obtain ⟨hok, hup⟩ := (mapOk_iff os).1 HYES.out
      have HOB := Lib.hid hok
      have HUP := Lib.hid hup
      clear hok hup
      go_wp2_with (first
        | (go_at_call 60; refine (keyOk_is hk hkey _).mono ?_; rintro e w' ⟨rfl, rfl⟩)
        | (go_at_call 85; refine (objs_is _ _ _ _).mono ?_; rintro e w' ⟨rfl, rfl⟩))
      refine (objGet_any a os cap key _ (HV.out.below (B2.out.alloc B2.out.size _)) hn).mono ?_
      rintro e w3 ⟨r, hr, rfl, hb3⟩
      rw [cut_found HUP.out hr]
      have k0 := hb3.cell (p := ⟨w.heap.size + 1, 0, none⟩) (by simp; omega)
      have k1 := hb3.cell (p := ⟨w.heap.size + 1, 1, none⟩) (by simp; omega)
      have k2 := hb3.cell (p := ⟨w.heap.size + 1, 2, none⟩) (by simp; omega)
      have g0 := hb3.frozen (p := ⟨w.heap.size + 1, 0, none⟩) (by simp; omega)
      have g1 := hb3.frozen (p := ⟨w.heap.size + 1, 1, none⟩) (by simp; omega)
      have g2 := hb3.frozen (p := ⟨w.heap.size + 1, 2, none⟩) (by simp; omega)
      simp [go_sem, hs2, c0, c1, c2, f0, f1, f2] at k0 k1 k2 g0 g1 g2
      have hs3 : w.heap.size + 1 < w3.heap.size := by have := hb3.size; simp at this; omega
      have B3 := Lib.hid ((B2.out.alloc B2.out.size (.cells #[.slice a os.length cap] 25)).trans (hb3.mono (by simp; omega)))
      clear hb3 hr c0 c1 c2 f0 f1 f2 cm hs2 hs0
      have hs3' : w.heap.size + 1 < w3.heap.size + 1 := by omega
      cases hkf : keyF os key with
      | none =>
        rw [objRes]
        go_wp2_with fail
        refine (visible_any _ none [] 0 id _ (.inl rfl) (by simp)).mono ?_
        rintro e w4 ⟨r, hr, rfl, hb4⟩
        obtain rfl : r = 0 := by have := hr.1; simpa using this
        have k0' := (hb4.cell (p := ⟨w.heap.size + 1, 0, none⟩) (by simp; omega))
        have k1' := (hb4.cell (p := ⟨w.heap.size + 1, 1, none⟩) (by simp; omega))
        have k2' := (hb4.cell (p := ⟨w.heap.size + 1, 2, none⟩) (by simp; omega))
        have g0' := (hb4.frozen (p := ⟨w.heap.size + 1, 0, none⟩) (by simp; omega))
        have g1' := (hb4.frozen (p := ⟨w.heap.size + 1, 1, none⟩) (by simp; omega))
        have g2' := (hb4.frozen (p := ⟨w.heap.size + 1, 2, none⟩) (by simp; omega))
        simp [go_sem, hs3, k0, k1, k2, g0, g1, g2] at k0' k1' k2' g0' g1' g2'
        have hs4 : w.heap.size + 1 < w4.heap.size := by have := hb4.size; simp at this; omega
        have B4 := Lib.hid ((B3.out.alloc B3.out.size (.cells #[.string ⟨#[]⟩, .slice none 0 0] 45)).trans (hb4.mono (by simp; omega)))
        clear hb4 hr k0 k1 k2 g0 g1 g2
        rw [show seenAt [] 0 = none from rfl, verRes]
        go_wp2_with fail
        exact bodyPost_ret (v := verRes none) (by simp [results, Try.results22, go_sem, verRes, k0', k1', k2', hs4]) rfl ⟨none, rfl, fun _ _ => by rw [atF, hkf]; rfl, fun h => absurd ⟨HYES.out, hk⟩ h, ((B4.out.setCell (p := ⟨w.heap.size + 1, 0, none⟩) (by simp) _).setCell (p := ⟨w.heap.size + 1, 1, none⟩) (by simp) _).setCell (p := ⟨w.heap.size + 1, 2, none⟩) (by simp) _⟩
      | some o =>
        have ho : o ∈ os := List.mem_of_find?_eq_some hkf
        have HOV := Lib.hid ((HV.out.mem ho).below (B3.out.alloc B3.out.size (.cells #[.string o.key, .slice o.at_ o.vers.length o.cap] 45)))
        have hol := HL.out o ho
        have HUV := Lib.hid ((versOk_iff _).1 (HOB.out o ho).2.2).2
        rw [objRes]
        go_wp2_with fail
        refine (visible_any _ _ o.vers _ id _ HOV.out hol).mono ?_
        rintro e w4 ⟨r, hr, rfl, hb4⟩
        rw [cut_seen HUV.out hr]
        have k0' := (hb4.cell (p := ⟨w.heap.size + 1, 0, none⟩) (by simp; omega))
        have k1' := (hb4.cell (p := ⟨w.heap.size + 1, 1, none⟩) (by simp; omega))
        have k2' := (hb4.cell (p := ⟨w.heap.size + 1, 2, none⟩) (by simp; omega))
        have g0' := (hb4.frozen (p := ⟨w.heap.size + 1, 0, none⟩) (by simp; omega))
        have g1' := (hb4.frozen (p := ⟨w.heap.size + 1, 1, none⟩) (by simp; omega))
        have g2' := (hb4.frozen (p := ⟨w.heap.size + 1, 2, none⟩) (by simp; omega))
        simp [go_sem, hs3, k0, k1, k2, g0, g1, g2] at k0' k1' k2' g0' g1' g2'
        have hs4 : w.heap.size + 1 < w4.heap.size := by have := hb4.size; simp at this; omega
        have B4 := Lib.hid ((B3.out.alloc B3.out.size (.cells #[.string o.key, .slice o.at_ o.vers.length o.cap] 45)).trans (hb4.mono (by simp; omega)))
        clear hb4 hr k0 k1 k2 g0 g1 g2
        cases hx : seenF o.vers id with
        | none =>
          rw [verRes]
          go_wp2_with fail
          exact bodyPost_ret (v := verRes none) (by simp [results, Try.results22, go_sem, verRes, k0', k1', k2', hs4]) rfl ⟨none, rfl, fun _ _ => by rw [atF, hkf]; exact hx.symm, fun h => absurd ⟨HYES.out, hk⟩ h, ((B4.out.setCell (p := ⟨w.heap.size + 1, 0, none⟩) (by simp) _).setCell (p := ⟨w.heap.size + 1, 1, none⟩) (by simp) _).setCell (p := ⟨w.heap.size + 1, 2, none⟩) (by simp) _⟩
        | some v =>
          rw [verRes]
          go_wp2_with fail
          exact bodyPost_ret (v := verRes (some v)) (by simp [results, Try.results22, go_sem, verRes, k0', k1', k2', hs4]) rfl ⟨(some v), rfl, fun _ _ => by rw [atF, hkf]; exact hx.symm, fun h => absurd ⟨HYES.out, hk⟩ h, ((B4.out.setCell (p := ⟨w.heap.size + 1, 0, none⟩) (by simp) _).setCell (p := ⟨w.heap.size + 1, 1, none⟩) (by simp) _).setCell (p := ⟨w.heap.size + 1, 2, none⟩) (by simp) _⟩

set_option maxHeartbeats 1000000 in
theorem vmapGet_any (a : Option Addr) (os : List ObjD) (cap : Nat) (key : ByteArray) (w : World) (hv : ObjsIn w a os) (hf : ∀ o ∈ os, o.fits) (hn : os.length ≤ 1048576) (hvl : ∀ o ∈ os, o.vers.length ≤ 1048576) (hkey : key.size ≤ maxLen) :
    Calls Try.prog 21 #[.agg #[.slice a os.length cap], .string key] w (AtPost os key 9999 w) := by
  have HV := Lib.hid hv
  have HF := Lib.hid hf
  have HL := Lib.hid hvl
  clear hv hf hvl
  go_enter Try.func21, Try.ntmps21
  go_wp2_with fail
  have hb0 : Below w.heap.size w ((w.alloc (.cells #[.slice a os.length cap] 25)).alloc (.cells #[.int .i64 0, .string ⟨#[]⟩, .bool false] 27)) := ((Below.refl _ _).alloc (Nat.le_refl _) _).alloc (by simp) _
  refine (vmapAt_any a os cap key 9999 _ (HV.out.below hb0) HF.out hn HL.out hkey).mono ?_
  rintro e w2 ⟨x, rfl, hx1, hx2, hb2⟩
  have c0 := hb2.cell (p := ⟨w.heap.size + 1, 0, none⟩) (by simp)
  have c1 := hb2.cell (p := ⟨w.heap.size + 1, 1, none⟩) (by simp)
  have c2 := hb2.cell (p := ⟨w.heap.size + 1, 2, none⟩) (by simp)
  have f0 := hb2.frozen (p := ⟨w.heap.size + 1, 0, none⟩) (by simp)
  have f1 := hb2.frozen (p := ⟨w.heap.size + 1, 1, none⟩) (by simp)
  have f2 := hb2.frozen (p := ⟨w.heap.size + 1, 2, none⟩) (by simp)
  simp [go_sem] at c0 c1 c2 f0 f1 f2
  have hs2 : w.heap.size + 1 < w2.heap.size := by have := hb2.size; simp at this; omega
  have HX1 := Lib.hid hx1
  have HX2 := Lib.hid hx2
  have B2 := Lib.hid (hb0.trans (hb2.mono (by simp; omega)))
  clear hb0 hb2 hx1 hx2
  cases x with
  | none =>
    rw [verRes]
    go_wp2_with fail
    exact bodyPost_ret (v := verRes none) (by simp [results, Try.results21, go_sem, verRes, c0, c1, c2, hs2]) rfl ⟨none, rfl, HX1.out, fun _ => rfl, ((B2.out.setCell (p := ⟨w.heap.size + 1, 0, none⟩) (by simp) _).setCell (p := ⟨w.heap.size + 1, 1, none⟩) (by simp) _).setCell (p := ⟨w.heap.size + 1, 2, none⟩) (by simp) _⟩
  | some v =>
    rw [verRes]
    go_wp2_with fail
    exact bodyPost_ret (v := verRes (some v)) (by simp [results, Try.results21, go_sem, verRes, c0, c1, c2, hs2]) rfl ⟨some v, rfl, HX1.out, HX2.out, ((B2.out.setCell (p := ⟨w.heap.size + 1, 0, none⟩) (by simp) _).setCell (p := ⟨w.heap.size + 1, 1, none⟩) (by simp) _).setCell (p := ⟨w.heap.size + 1, 2, none⟩) (by simp) _⟩
end Go.Proofs.Ytjijichgoodocaa

/- VmapGet and VmapAt, as the model has them. -/
namespace Go.Proofs.Ytjijichgoodocaa
open Go.RowKit

theorem at_key {os : List ObjD} {key : ByteArray} {k : Nat} {b : Bool} (hu : ObjsUp os os.length) (hA : AtIdx os key k) (h1 : ∀ h : k < os.length, Op.bytesLess os[k].key.toList key.toList = false ∧ b = (os[k].key.toList == key.toList)) (h2 : os.length ≤ k → b = false) :
    (b = true → ∃ h : k < os.length, keyF os key = some os[k]) ∧ (b = false → keyF os key = none) := by
  constructor
  · intro hb
    have hk : k < os.length := by
      by_cases h : k < os.length
      · exact h
      · have := h2 (by omega); rw [hb] at this; cases this
    exact ⟨hk, keyF_at hu hk (by rw [← (h1 hk).2, hb])⟩
  · intro hb
    apply keyF_none
    intro i hi
    by_cases hik : i < k
    · have := hA.2 i hi hik
      rw [less_iff] at this
      rw [beq_eq_false_iff_ne]; intro e; rw [e] at this; exact List.lt_irrefl _ this
    · have hk : k < os.length := by omega
      obtain ⟨n1, n2⟩ := h1 hk
      by_cases e : i = k
      · subst e; rw [← n2, hb]
      · have lt := hu.mono hk hi (by omega)
        have nl : ¬ os[k].key.toList < key.toList := by rw [← less_iff, n1]; decide
        rw [beq_eq_false_iff_ne]; intro e2
        rw [e2] at lt
        exact nl lt
def verVal : Option VerD → Value
  | none => .agg #[.int .i64 0, .string ⟨#[]⟩, .bool false]
  | some v => .agg #[.int .i64 v.id, .string v.text, .bool v.gone]
def lastF (os : List ObjD) (key : ByteArray) : Option VerD := (keyF os key).bind fun o => o.vers.getLast?

set_option maxHeartbeats 1000000 in
theorem l2Last_any (a : Option Addr) (os : List ObjD) (cap : Nat) (key : ByteArray) (w : World) (hv : ObjsIn w a os) (hn : os.length ≤ 1048576) (hl : ∀ o ∈ os, o.vers.length ≤ 1048576) (hup : ObjsUp os os.length) :
    Calls Try.prog 81 #[.agg #[.slice a os.length cap], .string key] w fun e w' => e = .returned (verVal (lastF os key)) ∧ Below w.heap.size w w' := by
  have HV := Lib.hid hv
  have HU := Lib.hid hup
  have HL := Lib.hid hl
  clear hv hup hl
  go_enter Try.func81, Try.ntmps81
  go_wp2_with fail
  have hb0 : Below w.heap.size w ((w.alloc (.cells #[.slice a os.length cap] 25)).alloc (.cells #[.int .i64 0, .string ⟨#[]⟩, .bool false] 27)) := ((Below.refl _ _).alloc (Nat.le_refl _) _).alloc (by simp) _
  refine (l2At_any a os cap key _ (HV.out.below hb0) hn).mono ?_
  rintro e w2 ⟨k, b, rfl, hA, h1, h2, hb2⟩
  have cm := hb2.cell (p := ⟨w.heap.size, 0, none⟩) (by simp; omega)
  have c0 := hb2.cell (p := ⟨w.heap.size + 1, 0, none⟩) (by simp)
  have c1 := hb2.cell (p := ⟨w.heap.size + 1, 1, none⟩) (by simp)
  have c2 := hb2.cell (p := ⟨w.heap.size + 1, 2, none⟩) (by simp)
  have f0 := hb2.frozen (p := ⟨w.heap.size + 1, 0, none⟩) (by simp)
  have f1 := hb2.frozen (p := ⟨w.heap.size + 1, 1, none⟩) (by simp)
  have f2 := hb2.frozen (p := ⟨w.heap.size + 1, 2, none⟩) (by simp)
  simp [go_sem] at cm c0 c1 c2 f0 f1 f2
  have hs2 : w.heap.size + 1 < w2.heap.size := by have := hb2.size; simp at this; omega
  have B2 := Lib.hid (hb0.trans (hb2.mono (by simp; omega)))
  obtain ⟨k1, k2⟩ := at_key HU.out hA h1 h2
  clear hb0 hb2 hA h1 h2
  cases b
  · have hkn := Lib.hid (k2 rfl)
    clear k1 k2
    go_wp2_with fail
    exact bodyPost_ret (v := verVal none) (by simp [results, Try.results81, go_sem, verVal, c0, c1, c2, hs2]) rfl ⟨by rw [lastF, hkn.out]; rfl, ((B2.out.setCell (p := ⟨w.heap.size + 1, 0, none⟩) (by simp) _).setCell (p := ⟨w.heap.size + 1, 1, none⟩) (by simp) _).setCell (p := ⟨w.heap.size + 1, 2, none⟩) (by simp) _⟩
  · obtain ⟨hk, hkf⟩ := k1 rfl
    have HKF := Lib.hid hkf
    clear k1 k2 hkf
    rcases HV.out.below B2.out with hnil | ⟨b1, o1, rfl, hb1, hc1⟩
    · rw [hnil] at hk; simp at hk
    obtain ⟨d0, d1, d2⟩ := hc1 k hk
    clear hc1
    have hol := HL.out _ (List.getElem_mem hk)
    by_cases hl0 : os[k].vers.length = 0
    · have hnil : os[k].vers = [] := List.eq_nil_of_length_eq_zero hl0
      have HNIL := Lib.hid hnil
      clear hnil d2
      go_wp2_with fail
      exact bodyPost_ret (v := verVal none) (by simp [results, Try.results81, go_sem, verVal, c0, c1, c2, hs2]) rfl ⟨by rw [lastF, HKF.out]; simp only [Option.bind_some]; rw [HNIL.out]; rfl, ((B2.out.setCell (p := ⟨w.heap.size + 1, 0, none⟩) (by simp) _).setCell (p := ⟨w.heap.size + 1, 1, none⟩) (by simp) _).setCell (p := ⟨w.heap.size + 1, 2, none⟩) (by simp) _⟩
    · obtain ⟨q, hq⟩ : ∃ q, os[k].vers.length = q + 1 := ⟨os[k].vers.length - 1, by omega⟩
      rcases d2 with hnil | ⟨b3, o3, ha3, hb3, hc3⟩
      · rw [hnil] at hq; simp at hq
      have hql : q < os[k].vers.length := by omega
      obtain ⟨v0, v1, v2⟩ := hc3 q hql
      have hlast : os[k].vers.getLast? = some os[k].vers[q] := by
        rw [List.getLast?_eq_getElem?]
        simp [hq]
      have HLAST := Lib.hid hlast
      rw [ha3, hq] at d1
      have hwq : IntKind.i64.wrap (q : Int) = (q : Int) := by rw [IntKind.wrap_i64]; omega
      have hql' : (q : Int) < (q : Int) + 1 := by omega
      have HQ := Lib.hid hq
      clear hc3 hlast hq ha3 hl0 hol
      generalize os[k].vers[q] = v at *
      go_wp2_with fail
      exact bodyPost_ret (v := verVal (some v)) (by simp [results, Try.results81, go_sem, verVal, c0, c1, c2]) rfl ⟨by rw [lastF, HKF.out]; simp only [Option.bind_some]; rw [HLAST.out], ((B2.out.setCell (p := ⟨w.heap.size + 1, 0, none⟩) (by simp) _).setCell (p := ⟨w.heap.size + 1, 1, none⟩) (by simp) _).setCell (p := ⟨w.heap.size + 1, 2, none⟩) (by simp) _⟩

theorem upF_all {vs : List VerD} {id : Int} (h : ∀ v ∈ vs, v.id ≤ id) : upF vs id = vs.getLast? := by
  rw [upF, List.filter_eq_self.2]
  intro x hx
  exact decide_eq_true (h x hx)
theorem verOk_id {v : VerD} (h : verOkB v.id v.text v.gone = true) : 1 ≤ v.id ∧ v.id ≤ 9999 := by
  simp [verOkB, inB] at h
  exact h.1
theorem atF_last {os : List ObjD} {key : ByteArray} (hm : MapOkTo os os.length) : atF os key 9999 = (lastF os key).bind fun v => if v.gone then none else some v := by
  rw [atF, lastF]
  cases hk : keyF os key with
  | none => rfl
  | some o =>
    have ho : o ∈ os := List.mem_of_find?_eq_some hk
    have := ((versOk_iff _).1 (((mapOk_iff os).1 hm).1 o ho).2.2).1
    simp only [Option.bind_some]
    rw [seenF, upF_all fun v hv => (verOk_id (this v hv)).2]
theorem lastF_id {os : List ObjD} {key : ByteArray} (hm : MapOkTo os os.length) {v : VerD} (h : lastF os key = some v) : 1 ≤ v.id := by
  rw [lastF] at h
  cases hk : keyF os key with
  | none => rw [hk] at h; cases h
  | some o =>
    rw [hk] at h
    simp only [Option.bind_some] at h
    have ho : o ∈ os := List.mem_of_find?_eq_some hk
    have := ((versOk_iff _).1 (((mapOk_iff os).1 hm).1 o ho).2.2).1
    exact (verOk_id (this v (List.mem_of_getLast? h))).1

set_option maxHeartbeats 2000000 in
theorem specVmapGet_any (a : Option Addr) (os : List ObjD) (cap : Nat) (key : ByteArray) (w : World) (hv : ObjsIn w a os) (hf : ∀ o ∈ os, o.fits) (hn : os.length ≤ 1048576) (hvl : ∀ o ∈ os, o.vers.length ≤ 1048576) (hkey : key.size ≤ maxLen) :
    Calls Try.prog 26 #[.agg #[.slice a os.length cap], .string key] w (AtPost os key 9999 w) := by
  have HV := Lib.hid hv
  have HF := Lib.hid hf
  have HL := Lib.hid hvl
  clear hv hf hvl
  go_enter Try.func26, Try.ntmps26
  go_wp2_with fail
  have hb0 : Below w.heap.size w ((w.alloc (.cells #[.slice a os.length cap] 25)).alloc (.cells #[.int .i64 0, .string ⟨#[]⟩, .bool false] 27)) := ((Below.refl _ _).alloc (Nat.le_refl _) _).alloc (by simp) _
  refine (l2Ok_any a os cap _ (HV.out.below hb0) HF.out (by unfold maxLen; omega)).mono ?_
  rintro e w2 ⟨b, rfl, hb, hb2⟩
  have cm := hb2.cell (p := ⟨w.heap.size, 0, none⟩) (by simp; omega)
  have c0 := hb2.cell (p := ⟨w.heap.size + 1, 0, none⟩) (by simp)
  have c1 := hb2.cell (p := ⟨w.heap.size + 1, 1, none⟩) (by simp)
  have c2 := hb2.cell (p := ⟨w.heap.size + 1, 2, none⟩) (by simp)
  have f0 := hb2.frozen (p := ⟨w.heap.size + 1, 0, none⟩) (by simp)
  have f1 := hb2.frozen (p := ⟨w.heap.size + 1, 1, none⟩) (by simp)
  have f2 := hb2.frozen (p := ⟨w.heap.size + 1, 2, none⟩) (by simp)
  simp [go_sem] at cm c0 c1 c2 f0 f1 f2
  have hs0 : w.heap.size < w2.heap.size := by have := hb2.size; simp at this; omega
  have hs2 : w.heap.size + 1 < w2.heap.size := by have := hb2.size; simp at this; omega
  have HOk := Lib.hid hb
  have B2 := Lib.hid (hb0.trans (hb2.mono (by simp; omega)))
  clear hb0 hb hb2
  cases b
  · have hno : ¬ MapOkTo os os.length := fun h => absurd (HOk.out.2 h) (by decide)
    have HNO := Lib.hid hno
    clear hno
    go_wp2_with fail
    exact bodyPost_ret (v := verRes none) (by simp [results, Try.results26, go_sem, verRes, c0, c1, c2, hs2]) rfl ⟨none, rfl, fun h => absurd h HNO.out, fun _ => rfl, ((B2.out.setCell (p := ⟨w.heap.size + 1, 0, none⟩) (by simp) _).setCell (p := ⟨w.heap.size + 1, 1, none⟩) (by simp) _).setCell (p := ⟨w.heap.size + 1, 2, none⟩) (by simp) _⟩
  · have hyes : MapOkTo os os.length := HOk.out.1 rfl
    have HYES := Lib.hid hyes
    clear hyes
    cases hk : keyOkB key
    · go_wp2_with (go_at_call 79; refine (l1Key_is hk hkey _).mono ?_; rintro e w' ⟨rfl, rfl⟩)
      exact bodyPost_ret (v := verRes none) (by simp [results, Try.results26, go_sem, verRes, c0, c1, c2, hs2]) rfl ⟨none, rfl, fun _ h => absurd h (by simp [hk]), fun _ => rfl, ((B2.out.setCell (p := ⟨w.heap.size + 1, 0, none⟩) (by simp) _).setCell (p := ⟨w.heap.size + 1, 1, none⟩) (by simp) _).setCell (p := ⟨w.heap.size + 1, 2, none⟩) (by simp) _⟩
    · have HUP := Lib.hid ((mapOk_iff os).1 HYES.out).2
      go_wp2_with (go_at_call 79; refine (l1Key_is hk hkey _).mono ?_; rintro e w' ⟨rfl, rfl⟩)
      refine (l2Last_any a os cap key _ (HV.out.below B2.out) hn HL.out HUP.out).mono ?_
      rintro e w3 ⟨rfl, hb3⟩
      have c0' := hb3.cell (p := ⟨w.heap.size + 1, 0, none⟩) hs2
      have c1' := hb3.cell (p := ⟨w.heap.size + 1, 1, none⟩) hs2
      have c2' := hb3.cell (p := ⟨w.heap.size + 1, 2, none⟩) hs2
      have f0' := hb3.frozen (p := ⟨w.heap.size + 1, 0, none⟩) hs2
      have f1' := hb3.frozen (p := ⟨w.heap.size + 1, 1, none⟩) hs2
      have f2' := hb3.frozen (p := ⟨w.heap.size + 1, 2, none⟩) hs2
      simp [c0, c1, c2, f0, f1, f2] at c0' c1' c2' f0' f1' f2'
      have hs3 : w.heap.size + 1 < w3.heap.size := Nat.lt_of_lt_of_le hs2 hb3.size
      have hs3' : w.heap.size + 1 < w3.heap.size + 1 := by omega
      have B3 := Lib.hid (B2.out.trans (hb3.mono B2.out.size))
      clear hb3 c0 c1 c2 f0 f1 f2 cm hs2 hs0
      have HAT := Lib.hid (atF_last (key := key) HYES.out)
      cases hx : lastF os key with
      | none =>
        rw [verVal]
        go_wp2_with fail
        exact bodyPost_ret (v := verRes none) (by simp [results, Try.results26, go_sem, verRes, c0', c1', c2', hs3, hs3']) rfl ⟨none, rfl, fun _ _ => by rw [HAT.out, hx]; rfl, fun _ => rfl, (((B3.out.setCell (p := ⟨w.heap.size + 1, 0, none⟩) (by simp) _).setCell (p := ⟨w.heap.size + 1, 1, none⟩) (by simp) _).setCell (p := ⟨w.heap.size + 1, 2, none⟩) (by simp) _).alloc (by simp; omega) _⟩
      | some v =>
        have hid := lastF_id HYES.out hx
        have hid0 : (v.id == 0) = false := by simp; omega
        rw [verVal]
        cases hg : v.gone
        · go_wp2_with fail
          exact bodyPost_ret (v := verRes (some v)) (by simp [results, Try.results26, go_sem, verRes, c0', c1', c2', hs3, hs3', hg]) rfl ⟨some v, rfl, fun _ _ => by rw [HAT.out, hx]; simp [hg], fun h => absurd ⟨HYES.out, hk⟩ h, (((B3.out.setCell (p := ⟨w.heap.size + 1, 0, none⟩) (by simp) _).setCell (p := ⟨w.heap.size + 1, 1, none⟩) (by simp) _).setCell (p := ⟨w.heap.size + 1, 2, none⟩) (by simp) _).alloc (by simp; omega) _⟩
        · go_wp2_with fail
          exact bodyPost_ret (v := verRes none) (by simp [results, Try.results26, go_sem, verRes, c0', c1', c2', hs3, hs3']) rfl ⟨none, rfl, fun _ _ => by rw [HAT.out, hx]; simp [hg], fun _ => rfl, (((B3.out.setCell (p := ⟨w.heap.size + 1, 0, none⟩) (by simp) _).setCell (p := ⟨w.heap.size + 1, 1, none⟩) (by simp) _).setCell (p := ⟨w.heap.size + 1, 2, none⟩) (by simp) _).alloc (by simp; omega) _⟩

theorem verRes_form (x : Option VerD) : ∃ (i : Int) (t : ByteArray) (g b : Bool), verRes x = .tuple #[.agg #[.int .i64 i, .string t, .bool g], .bool b] := by
  cases x with
  | none => exact ⟨_, _, _, _, rfl⟩
  | some v => exact ⟨_, _, _, _, rfl⟩
end Go.Proofs.Ytjijichgoodocaa

/- Contracts of SpanCut and SpanJoin, the program's and the model's: each returns just what the plain conditions say, and turns nothing that was in memory. -/
namespace Go.Proofs.Ytjijichgoodocaa
open Go.RowKit

theorem has_is {lo hi key : ByteArray} {b : Bool} (h : spanHasB lo hi key = b) (hlo : lo.size ≤ maxLen) (hhi : hi.size ≤ maxLen) (hkey : key.size ≤ maxLen) (w : World) :
    Calls Try.prog 31 #[.agg #[.string lo, .string hi], .string key] w fun e w' => e = .returned (.bool b) ∧ Below w.heap.size w w' := by rw [← h]; exact spanHas_any lo hi key w hlo hhi hkey
theorem l1Has_is {lo hi key : ByteArray} {b : Bool} (h : hasB lo hi key = b) (w : World) :
    Calls Try.prog 117 #[.agg #[.string lo, .string hi], .string key] w fun e w' => e = .returned (.bool b) ∧ Below w.heap.size w w' := by rw [← h]; exact l1Has_any lo hi key w

def cutOkB (lo hi key : ByteArray) : Bool := spanHasB lo hi key && !(key.toList == lo.toList)

theorem zle1 (n : Nat) : n ≤ n + 1 := by omega
theorem zle2 (n : Nat) : n ≤ n + 1 + 1 := by omega
theorem zlt2 (n : Nat) : n < n + 1 + 1 := by omega
theorem zlt3 (n : Nat) : n < n + 1 + 1 + 1 := by omega
theorem zlt31 (n : Nat) : n + 1 < n + 1 + 1 + 1 := by omega

set_option maxHeartbeats 1000000 in
theorem cut_no (lo hi key : ByteArray) (w : World) (hlo : lo.size ≤ maxLen) (hhi : hi.size ≤ maxLen) (hkey : key.size ≤ maxLen) (hn : cutOkB lo hi key = false) :
    Calls Try.prog 33 #[.agg #[.string lo, .string hi], .string key] w fun e w' => e = .returned (.tuple #[.agg #[.string ⟨#[]⟩, .string ⟨#[]⟩], .agg #[.string ⟨#[]⟩, .string ⟨#[]⟩], .bool false]) ∧ Below w.heap.size w w' := by
  cases h1 : spanHasB lo hi key
  · clear hn
    go_enter Try.func33, Try.ntmps33
    go_wp2_with (go_at_call 31; refine (has_is h1 hlo hhi hkey _).mono ?_; rintro e w1 ⟨rfl, hb1⟩; obtain ⟨hc1, hf1⟩ := bcell hb1)
    refine bodyPost_ret (v := .tuple #[.agg #[.string ⟨#[]⟩, .string ⟨#[]⟩], .agg #[.string ⟨#[]⟩, .string ⟨#[]⟩], .bool false]) (by simp [results, Try.results33, go_sem, hc1]) rfl ⟨rfl, ?_⟩
    refine Below.setCell (Below.setCell (Below.setCell (Below.setCell ?_ (zle1 _) _) (zle1 _) _) (zle2 _) _) (zle2 _) _
    exact ((((Below.refl _ _).alloc (Nat.le_refl _) _).alloc (by simp) _).alloc (by simp; omega) _).trans (hb1.mono (by simp; omega))
  · have h2 : (key.toList == lo.toList) = true := by simpa [cutOkB, h1] using hn
    clear hn
    go_enter Try.func33, Try.ntmps33
    go_wp2_with (go_at_call 31; refine (has_is h1 hlo hhi hkey _).mono ?_; rintro e w1 ⟨rfl, hb1⟩; obtain ⟨hc1, hf1⟩ := bcell hb1)
    refine bodyPost_ret (v := .tuple #[.agg #[.string ⟨#[]⟩, .string ⟨#[]⟩], .agg #[.string ⟨#[]⟩, .string ⟨#[]⟩], .bool false]) (by simp [results, Try.results33, go_sem, hc1]) rfl ⟨rfl, ?_⟩
    refine Below.setCell (Below.setCell (Below.setCell (Below.setCell ?_ (zle1 _) _) (zle1 _) _) (zle2 _) _) (zle2 _) _
    exact ((((Below.refl _ _).alloc (Nat.le_refl _) _).alloc (by simp) _).alloc (by simp; omega) _).trans (hb1.mono (by simp; omega))

set_option maxHeartbeats 1000000 in
theorem cut_yes (lo hi key : ByteArray) (w : World) (hlo : lo.size ≤ maxLen) (hhi : hi.size ≤ maxLen) (hkey : key.size ≤ maxLen) (hn : cutOkB lo hi key = true) :
    Calls Try.prog 33 #[.agg #[.string lo, .string hi], .string key] w fun e w' => e = .returned (.tuple #[.agg #[.string lo, .string key], .agg #[.string key, .string hi], .bool true]) ∧ Below w.heap.size w w' := by
  have h1 : spanHasB lo hi key = true := by simp [cutOkB] at hn; exact hn.1
  have h2 : (key.toList == lo.toList) = false := by simp [cutOkB] at hn; simp; exact hn.2
  clear hn
  go_enter Try.func33, Try.ntmps33
  go_wp2_with (go_at_call 31; refine (has_is h1 hlo hhi hkey _).mono ?_; rintro e w1 ⟨rfl, hb1⟩; obtain ⟨hc1, hf1⟩ := bcell hb1)
  go_region
  go_wp2_with fail
  refine bodyPost_ret (v := .tuple #[.agg #[.string lo, .string key], .agg #[.string key, .string hi], .bool true]) (by simp [results, Try.results33, go_sem, hc1]) rfl ⟨rfl, ?_⟩
  repeat (first | with_reducible refine Below.drew ?_ | with_reducible refine Below.setCell ?_ (zle1 _) _ | with_reducible refine Below.setCell ?_ (zle2 _) _)
  exact ((((Below.refl _ _).alloc (Nat.le_refl _) _).alloc (by simp) _).alloc (by simp; omega) _).trans (hb1.mono (by simp; omega))

theorem cut_split {lo hi key : ByteArray} : cutOkB lo hi key = (spanOkB lo hi && keyOkB key && hasB lo hi key && !(key.toList == lo.toList)) := by
  unfold cutOkB spanHasB; rfl
end Go.Proofs.Ytjijichgoodocaa
