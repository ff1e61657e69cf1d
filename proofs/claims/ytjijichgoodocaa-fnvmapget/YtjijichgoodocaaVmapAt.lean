/- VmapAt and VmapGet, as the program has them. -/
import Derived.Test.YtjijichgoodocaaAsk
namespace Go.Proofs.Ytjijichgoodocaa
open Go.RowKit

def AtPost (os : List ObjD) (key : ByteArray) (id : Int) (w : World) (e : Ending) (w' : World) : Prop :=
  ∃ x : Option VerD, e = .returned (verRes x) ∧ (MapOkTo os os.length → keyOkB key = true → x = atF os key id) ∧ (¬ (MapOkTo os os.length ∧ keyOkB key = true) → x = none) ∧ Below w.heap.size w w'

set_option maxHeartbeats 2000000 in
theorem vmapAt_any (a : Option Addr) (os : List ObjD) (cap : Nat) (key : ByteArray) (id : Int) (w : World) (hv : ObjsIn w a os) (hf : ∀ o ∈ os, o.fits) (hn : os.length ≤ 1048576) (hvl : ∀ o ∈ os, o.vers.length ≤ 1048576) (hkey : key.size ≤ maxLen) :
    Calls Try.prog 22 #[.agg #[.slice a os.length cap], .string key, .int .i64 id] w (AtPost os key id w) := by
  have HV := Lib.hid hv
  have HF := Lib.hid hf
  have HL := Lib.hid hvl
  clear hv hf hvl
  go_enter Try.func22, Try.ntmps22
  go_wp2_with fail
  have hb0 : Below w.heap.size w ((w.alloc (.cells #[.slice a os.length cap] 25)).alloc (.cells #[.int .i64 0, .string ⟨#[]⟩, .bool false] 27)) := ((Below.refl _ _).alloc (Nat.le_refl _) _).alloc (by simp) _
  refine (vmapOk_any a os cap _ (HV.out.below hb0) HF.out (by unfold maxLen; omega)).mono ?_
  rintro e w2 ⟨b, rfl, hb, hb2⟩
  have cm := hb2.cell (p := ⟨w.heap.size, 0, none⟩) (by simp; omega)
  have c0 := hb2.cell (p := ⟨w.heap.size + 1, 0, none⟩) (by simp)
  have c1 := hb2.cell (p := ⟨w.heap.size + 1, 1, none⟩) (by simp)
  have c2 := hb2.cell (p := ⟨w.heap.size + 1, 2, none⟩) (by simp)
  have f0 := hb2.frozen (p := ⟨w.heap.size + 1, 0, none⟩) (by simp)
  have f1 := hb2.frozen (p := ⟨w.heap.size + 1, 1, none⟩) (by simp)
  have f2 := hb2.frozen (p := ⟨w.heap.size + 1, 2, none⟩) (by simp)
  simp [go_sem] at cm c0 c1 c2 f0 f1 f2
  have hs0 : w.heap.size < w2.heap.size := by have := hb2.size; simp at this; omega
  have hs2 : w.heap.size + 1 < w2.heap.size := by have := hb2.size; simp at this; omega
  have HOk := Lib.hid hb
  have B2 := Lib.hid (hb0.trans (hb2.mono (by simp; omega)))
  clear hb0 hb hb2
  cases b
  · have hno : ¬ MapOkTo os os.length := fun h => absurd (HOk.out.2 h) (by decide)
    have HNO := Lib.hid hno
    clear hno
    go_wp2_with fail
    exact bodyPost_ret (v := verRes none) (by simp [results, Try.results22, go_sem, verRes, c0, c1, c2, hs2]) rfl ⟨none, rfl, fun h => absurd h HNO.out, fun _ => rfl, ((B2.out.setCell (p := ⟨w.heap.size + 1, 0, none⟩) (by simp) _).setCell (p := ⟨w.heap.size + 1, 1, none⟩) (by simp) _).setCell (p := ⟨w.heap.size + 1, 2, none⟩) (by simp) _⟩
  · have hyes : MapOkTo os os.length := HOk.out.1 rfl
    have HYES := Lib.hid hyes
    clear hyes
    cases hk : keyOkB key
    · go_wp2_with (go_at_call 60; refine (keyOk_is hk hkey _).mono ?_; rintro e w' ⟨rfl, rfl⟩)
      exact bodyPost_ret (v := verRes none) (by simp [results, Try.results22, go_sem, verRes, c0, c1, c2, hs2]) rfl ⟨none, rfl, fun _ h => absurd h (by simp [hk]), fun _ => rfl, ((B2.out.setCell (p := ⟨w.heap.size + 1, 0, none⟩) (by simp) _).setCell (p := ⟨w.heap.size + 1, 1, none⟩) (by simp) _).setCell (p := ⟨w.heap.size + 1, 2, none⟩) (by simp) _⟩
    · obtain ⟨hok, hup⟩ := (mapOk_iff os).1 HYES.out
      have HOB := Lib.hid hok
      have HUP := Lib.hid hup
      clear hok hup
      go_wp2_with (first
        | (go_at_call 60; refine (keyOk_is hk hkey _).mono ?_; rintro e w' ⟨rfl, rfl⟩)
        | (go_at_call 85; refine (objs_is _ _ _ _).mono ?_; rintro e w' ⟨rfl, rfl⟩))
      refine (objGet_any a os cap key _ (HV.out.below (B2.out.alloc B2.out.size _)) hn).mono ?_
      rintro e w3 ⟨r, hr, rfl, hb3⟩
      rw [cut_found HUP.out hr]
      have k0 := hb3.cell (p := ⟨w.heap.size + 1, 0, none⟩) (by simp; omega)
      have k1 := hb3.cell (p := ⟨w.heap.size + 1, 1, none⟩) (by simp; omega)
      have k2 := hb3.cell (p := ⟨w.heap.size + 1, 2, none⟩) (by simp; omega)
      have g0 := hb3.frozen (p := ⟨w.heap.size + 1, 0, none⟩) (by simp; omega)
      have g1 := hb3.frozen (p := ⟨w.heap.size + 1, 1, none⟩) (by simp; omega)
      have g2 := hb3.frozen (p := ⟨w.heap.size + 1, 2, none⟩) (by simp; omega)
      simp [go_sem, hs2, c0, c1, c2, f0, f1, f2] at k0 k1 k2 g0 g1 g2
      have hs3 : w.heap.size + 1 < w3.heap.size := by have := hb3.size; simp at this; omega
      have B3 := Lib.hid ((B2.out.alloc B2.out.size (.cells #[.slice a os.length cap] 25)).trans (hb3.mono (by simp; omega)))
      clear hb3 hr c0 c1 c2 f0 f1 f2 cm hs2 hs0
      have hs3' : w.heap.size + 1 < w3.heap.size + 1 := by omega
      cases hkf : keyF os key with
      | none =>
        rw [objRes]
        go_wp2_with fail
        refine (visible_any _ none [] 0 id _ (.inl rfl) (by simp)).mono ?_
        rintro e w4 ⟨r, hr, rfl, hb4⟩
        obtain rfl : r = 0 := by have := hr.1; simpa using this
        have k0' := (hb4.cell (p := ⟨w.heap.size + 1, 0, none⟩) (by simp; omega))
        have k1' := (hb4.cell (p := ⟨w.heap.size + 1, 1, none⟩) (by simp; omega))
        have k2' := (hb4.cell (p := ⟨w.heap.size + 1, 2, none⟩) (by simp; omega))
        have g0' := (hb4.frozen (p := ⟨w.heap.size + 1, 0, none⟩) (by simp; omega))
        have g1' := (hb4.frozen (p := ⟨w.heap.size + 1, 1, none⟩) (by simp; omega))
        have g2' := (hb4.frozen (p := ⟨w.heap.size + 1, 2, none⟩) (by simp; omega))
        simp [go_sem, hs3, k0, k1, k2, g0, g1, g2] at k0' k1' k2' g0' g1' g2'
        have hs4 : w.heap.size + 1 < w4.heap.size := by have := hb4.size; simp at this; omega
        have B4 := Lib.hid ((B3.out.alloc B3.out.size (.cells #[.string ⟨#[]⟩, .slice none 0 0] 45)).trans (hb4.mono (by simp; omega)))
        clear hb4 hr k0 k1 k2 g0 g1 g2
        rw [show seenAt [] 0 = none from rfl, verRes]
        go_wp2_with fail
        exact bodyPost_ret (v := verRes none) (by simp [results, Try.results22, go_sem, verRes, k0', k1', k2', hs4]) rfl ⟨none, rfl, fun _ _ => by rw [atF, hkf]; rfl, fun h => absurd ⟨HYES.out, hk⟩ h, ((B4.out.setCell (p := ⟨w.heap.size + 1, 0, none⟩) (by simp) _).setCell (p := ⟨w.heap.size + 1, 1, none⟩) (by simp) _).setCell (p := ⟨w.heap.size + 1, 2, none⟩) (by simp) _⟩
      | some o =>
        have ho : o ∈ os := List.mem_of_find?_eq_some hkf
        have HOV := Lib.hid ((HV.out.mem ho).below (B3.out.alloc B3.out.size (.cells #[.string o.key, .slice o.at_ o.vers.length o.cap] 45)))
        have hol := HL.out o ho
        have HUV := Lib.hid ((versOk_iff _).1 (HOB.out o ho).2.2).2
        rw [objRes]
        go_wp2_with fail
        refine (visible_any _ _ o.vers _ id _ HOV.out hol).mono ?_
        rintro e w4 ⟨r, hr, rfl, hb4⟩
        rw [cut_seen HUV.out hr]
        have k0' := (hb4.cell (p := ⟨w.heap.size + 1, 0, none⟩) (by simp; omega))
        have k1' := (hb4.cell (p := ⟨w.heap.size + 1, 1, none⟩) (by simp; omega))
        have k2' := (hb4.cell (p := ⟨w.heap.size + 1, 2, none⟩) (by simp; omega))
        have g0' := (hb4.frozen (p := ⟨w.heap.size + 1, 0, none⟩) (by simp; omega))
        have g1' := (hb4.frozen (p := ⟨w.heap.size + 1, 1, none⟩) (by simp; omega))
        have g2' := (hb4.frozen (p := ⟨w.heap.size + 1, 2, none⟩) (by simp; omega))
        simp [go_sem, hs3, k0, k1, k2, g0, g1, g2] at k0' k1' k2' g0' g1' g2'
        have hs4 : w.heap.size + 1 < w4.heap.size := by have := hb4.size; simp at this; omega
        have B4 := Lib.hid ((B3.out.alloc B3.out.size (.cells #[.string o.key, .slice o.at_ o.vers.length o.cap] 45)).trans (hb4.mono (by simp; omega)))
        clear hb4 hr k0 k1 k2 g0 g1 g2
        cases hx : seenF o.vers id with
        | none =>
          rw [verRes]
          go_wp2_with fail
          exact bodyPost_ret (v := verRes none) (by simp [results, Try.results22, go_sem, verRes, k0', k1', k2', hs4]) rfl ⟨none, rfl, fun _ _ => by rw [atF, hkf]; exact hx.symm, fun h => absurd ⟨HYES.out, hk⟩ h, ((B4.out.setCell (p := ⟨w.heap.size + 1, 0, none⟩) (by simp) _).setCell (p := ⟨w.heap.size + 1, 1, none⟩) (by simp) _).setCell (p := ⟨w.heap.size + 1, 2, none⟩) (by simp) _⟩
        | some v =>
          rw [verRes]
          go_wp2_with fail
          exact bodyPost_ret (v := verRes (some v)) (by simp [results, Try.results22, go_sem, verRes, k0', k1', k2', hs4]) rfl ⟨(some v), rfl, fun _ _ => by rw [atF, hkf]; exact hx.symm, fun h => absurd ⟨HYES.out, hk⟩ h, ((B4.out.setCell (p := ⟨w.heap.size + 1, 0, none⟩) (by simp) _).setCell (p := ⟨w.heap.size + 1, 1, none⟩) (by simp) _).setCell (p := ⟨w.heap.size + 1, 2, none⟩) (by simp) _⟩

set_option maxHeartbeats 1000000 in
theorem vmapGet_any (a : Option Addr) (os : List ObjD) (cap : Nat) (key : ByteArray) (w : World) (hv : ObjsIn w a os) (hf : ∀ o ∈ os, o.fits) (hn : os.length ≤ 1048576) (hvl : ∀ o ∈ os, o.vers.length ≤ 1048576) (hkey : key.size ≤ maxLen) :
    Calls Try.prog 21 #[.agg #[.slice a os.length cap], .string key] w (AtPost os key 9999 w) := by
  have HV := Lib.hid hv
  have HF := Lib.hid hf
  have HL := Lib.hid hvl
  clear hv hf hvl
  go_enter Try.func21, Try.ntmps21
  go_wp2_with fail
  have hb0 : Below w.heap.size w ((w.alloc (.cells #[.slice a os.length cap] 25)).alloc (.cells #[.int .i64 0, .string ⟨#[]⟩, .bool false] 27)) := ((Below.refl _ _).alloc (Nat.le_refl _) _).alloc (by simp) _
  refine (vmapAt_any a os cap key 9999 _ (HV.out.below hb0) HF.out hn HL.out hkey).mono ?_
  rintro e w2 ⟨x, rfl, hx1, hx2, hb2⟩
  have c0 := hb2.cell (p := ⟨w.heap.size + 1, 0, none⟩) (by simp)
  have c1 := hb2.cell (p := ⟨w.heap.size + 1, 1, none⟩) (by simp)
  have c2 := hb2.cell (p := ⟨w.heap.size + 1, 2, none⟩) (by simp)
  have f0 := hb2.frozen (p := ⟨w.heap.size + 1, 0, none⟩) (by simp)
  have f1 := hb2.frozen (p := ⟨w.heap.size + 1, 1, none⟩) (by simp)
  have f2 := hb2.frozen (p := ⟨w.heap.size + 1, 2, none⟩) (by simp)
  simp [go_sem] at c0 c1 c2 f0 f1 f2
  have hs2 : w.heap.size + 1 < w2.heap.size := by have := hb2.size; simp at this; omega
  have HX1 := Lib.hid hx1
  have HX2 := Lib.hid hx2
  have B2 := Lib.hid (hb0.trans (hb2.mono (by simp; omega)))
  clear hb0 hb2 hx1 hx2
  cases x with
  | none =>
    rw [verRes]
    go_wp2_with fail
    exact bodyPost_ret (v := verRes none) (by simp [results, Try.results21, go_sem, verRes, c0, c1, c2, hs2]) rfl ⟨none, rfl, HX1.out, fun _ => rfl, ((B2.out.setCell (p := ⟨w.heap.size + 1, 0, none⟩) (by simp) _).setCell (p := ⟨w.heap.size + 1, 1, none⟩) (by simp) _).setCell (p := ⟨w.heap.size + 1, 2, none⟩) (by simp) _⟩
  | some v =>
    rw [verRes]
    go_wp2_with fail
    exact bodyPost_ret (v := verRes (some v)) (by simp [results, Try.results21, go_sem, verRes, c0, c1, c2, hs2]) rfl ⟨some v, rfl, HX1.out, HX2.out, ((B2.out.setCell (p := ⟨w.heap.size + 1, 0, none⟩) (by simp) _).setCell (p := ⟨w.heap.size + 1, 1, none⟩) (by simp) _).setCell (p := ⟨w.heap.size + 1, 2, none⟩) (by simp) _⟩
end Go.Proofs.Ytjijichgoodocaa
