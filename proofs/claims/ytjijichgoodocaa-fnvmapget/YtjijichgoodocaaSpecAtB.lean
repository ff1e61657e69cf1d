/- VmapAt, as the model has it: a loop over the versions of the key. -/
import Derived.Test.YtjijichgoodocaaSpecGet
import Derived.Test.YtjijichgoodocaaMark
namespace Go.Proofs.Ytjijichgoodocaa
open Go.RowKit

theorem upF_zero (vs : List VerD) (id : Int) : upF (vs.take 0) id = none := rfl
theorem upF_snoc (vs : List VerD) (id : Int) (i : Nat) (h : i < vs.length) : upF (vs.take (i + 1)) id = if vs[i].id ≤ id then some vs[i] else upF (vs.take i) id := by
  rw [upF, upF, List.take_succ_eq_append_getElem h, List.filter_append]
  by_cases hi : vs[i].id ≤ id
  · simp [hi, List.filter_cons]
  · simp [hi, List.filter_cons]

def idOf (x : Option VerD) : Int := match x with | none => 0 | some v => v.id
def textOf (x : Option VerD) : ByteArray := match x with | none => ⟨#[]⟩ | some v => v.text
def goneOf (x : Option VerD) : Bool := match x with | none => false | some v => v.gone
/-- Block B holds this version, or the zero one. -/
structure Box3 (u : World) (B : Nat) (x : Option VerD) : Prop where
  lt : B < u.heap.size
  c0 : u.cell? ⟨B, 0, none⟩ = some (.int .i64 (idOf x))
  c1 : u.cell? ⟨B, 1, none⟩ = some (.string (textOf x))
  c2 : u.cell? ⟨B, 2, none⟩ = some (.bool (goneOf x))
  f0 : u.frozen? ⟨B, 0, none⟩ = false
  f1 : u.frozen? ⟨B, 1, none⟩ = false
  f2 : u.frozen? ⟨B, 2, none⟩ = false
theorem Box3.below {u v : World} {B : Nat} {x : Option VerD} (h : Box3 u B x) (hb : Below u.heap.size u v) : Box3 v B x :=
  ⟨Nat.lt_of_lt_of_le h.lt hb.size, (hb.cell (p := ⟨B, 0, none⟩) h.lt).trans h.c0, (hb.cell (p := ⟨B, 1, none⟩) h.lt).trans h.c1, (hb.cell (p := ⟨B, 2, none⟩) h.lt).trans h.c2, (hb.frozen (p := ⟨B, 0, none⟩) h.lt).trans h.f0, (hb.frozen (p := ⟨B, 1, none⟩) h.lt).trans h.f1, (hb.frozen (p := ⟨B, 2, none⟩) h.lt).trans h.f2⟩
theorem Box3.set {u : World} {B : Nat} {x : Option VerD} (h : Box3 u B x) (v : VerD) : Box3 (((u.setCell ⟨B, 0, none⟩ (.int .i64 v.id)).setCell ⟨B, 1, none⟩ (.string v.text)).setCell ⟨B, 2, none⟩ (.bool v.gone)) B (some v) := by
  refine ⟨by simpa [World.setCell] using h.lt, ?_, ?_, ?_, by simp only [World.frozen?_setCell]; exact h.f0, by simp only [World.frozen?_setCell]; exact h.f1, by simp only [World.frozen?_setCell]; exact h.f2⟩
  · rw [cell_off (by omega), cell_off (by omega)]; exact World.cell?_setCell_same _ _ _ h.c0
  · rw [cell_off (by omega)]; exact World.cell?_setCell_same _ _ _ (u := .string (textOf x)) (by rw [cell_off (by omega)]; exact h.c1)
  · exact World.cell?_setCell_same _ _ _ (u := .bool (goneOf x)) (by rw [cell_off (by omega), cell_off (by omega)]; exact h.c2)
theorem Box3.other {u : World} {B B' o : Nat} {x : Option VerD} {y : Value} (h : Box3 u B x) (hn : B' ≠ B) : Box3 (u.setCell ⟨B', o, none⟩ y) B x := by
  have k : ∀ o', (u.setCell ⟨B', o, none⟩ y).cell? ⟨B, o', none⟩ = u.cell? ⟨B, o', none⟩ := fun o' => World.cell?_setCell_other _ _ _ _ (fun e => hn (congrArg Addr.block e))
  exact ⟨by simpa [World.setCell] using h.lt, (k 0).trans h.c0, (k 1).trans h.c1, (k 2).trans h.c2, by rw [World.frozen?_setCell]; exact h.f0, by rw [World.frozen?_setCell]; exact h.f1, by rw [World.frozen?_setCell]; exact h.f2⟩
theorem VersIn.setAbove {u : World} {a : Option Addr} {vs : List VerD} {n g o : Nat} {x : Value} {u0 : World} (h : VersIn u0 a vs) (hb : Below u0.heap.size u0 u) (hn : u0.heap.size ≤ g) : VersIn (u.setCell ⟨g, o, none⟩ x) a vs :=
  h.below (hb.setCell (p := ⟨g, o, none⟩) hn x)

set_option maxHeartbeats 2000000 in
theorem specVmapAt_any (a : Option Addr) (os : List ObjD) (cap : Nat) (key : ByteArray) (id : Int) (w : World) (hv : ObjsIn w a os) (hf : ∀ o ∈ os, o.fits) (hn : os.length ≤ 1048576) (hvl : ∀ o ∈ os, o.vers.length ≤ 1048576) (hkey : key.size ≤ maxLen) :
    Calls Try.prog 25 #[.agg #[.slice a os.length cap], .string key, .int .i64 id] w (AtPost os key id w) := by
  have HV := Lib.hid hv
  have HF := Lib.hid hf
  have HL := Lib.hid hvl
  clear hv hf hvl
  go_enter Try.func25, Try.ntmps25
  go_wp2_with fail
  have hb0 : Below w.heap.size w (((w.alloc (.cells #[.slice a os.length cap] 25)).alloc (.cells #[.int .i64 0, .string ⟨#[]⟩, .bool false] 27)).alloc (.cells #[.int .i64 0, .string ⟨#[]⟩, .bool false] 27)) := (((Below.refl _ _).alloc (Nat.le_refl _) _).alloc (by simp) _).alloc (by simp; omega) _
  refine (l2Ok_any a os cap _ (HV.out.below hb0) HF.out (by unfold maxLen; omega)).mono ?_
  rintro e w2 ⟨b, rfl, hb, hb2⟩
  have cm := hb2.cell (p := ⟨w.heap.size, 0, none⟩) (by simp; omega)
  simp [go_sem] at cm
  have X6 : Box3 w2 (w.heap.size + 1) none := Box3.below (u := ((w.alloc (.cells #[.slice a os.length cap] 25)).alloc (.cells #[.int .i64 0, .string ⟨#[]⟩, .bool false] 27)).alloc (.cells #[.int .i64 0, .string ⟨#[]⟩, .bool false] 27)) ⟨by simp, by simp [go_sem, idOf], by simp [go_sem, textOf], by simp [go_sem, goneOf], by simp [go_sem], by simp [go_sem], by simp [go_sem]⟩ hb2
  have X8 : Box3 w2 (w.heap.size + 1 + 1) none := Box3.below (u := ((w.alloc (.cells #[.slice a os.length cap] 25)).alloc (.cells #[.int .i64 0, .string ⟨#[]⟩, .bool false] 27)).alloc (.cells #[.int .i64 0, .string ⟨#[]⟩, .bool false] 27)) ⟨by simp, by simp [go_sem, idOf], by simp [go_sem, textOf], by simp [go_sem, goneOf], by simp [go_sem], by simp [go_sem], by simp [go_sem]⟩ hb2
  have hs0 : w.heap.size < w2.heap.size := by have := hb2.size; simp at this; omega
  have HOk := Lib.hid hb
  have B2 := Lib.hid (hb0.trans (hb2.mono (by simp; omega)))
  clear hb0 hb hb2
  have c0 := X6.c0; have c1 := X6.c1; have c2 := X6.c2; have f0 := X6.f0; have f1 := X6.f1; have f2 := X6.f2
  have d0 := X8.c0; have d1 := X8.c1; have d2 := X8.c2; have g0 := X8.f0; have g1 := X8.f1; have g2 := X8.f2
  simp only [idOf, textOf, goneOf] at c0 c1 c2 d0 d1 d2
  cases b
  · have hno : ¬ MapOkTo os os.length := fun h => absurd (HOk.out.2 h) (by decide)
    have HNO := Lib.hid hno
    clear hno
    go_wp2_with fail
    exact bodyPost_ret (v := verRes none) (by simp [results, Try.results25, go_sem, verRes, c0, c1, c2]) rfl ⟨none, rfl, fun h => absurd h HNO.out, fun _ => rfl, ((B2.out.setCell (p := ⟨w.heap.size + 1, 0, none⟩) (by simp) _).setCell (p := ⟨w.heap.size + 1, 1, none⟩) (by simp) _).setCell (p := ⟨w.heap.size + 1, 2, none⟩) (by simp) _⟩
  · have hyes : MapOkTo os os.length := HOk.out.1 rfl
    have HYES := Lib.hid hyes
    clear hyes
    cases hk : keyOkB key
    · go_wp2_with (go_at_call 79; refine (l1Key_is hk hkey _).mono ?_; rintro e w' ⟨rfl, rfl⟩)
      exact bodyPost_ret (v := verRes none) (by simp [results, Try.results25, go_sem, verRes, c0, c1, c2]) rfl ⟨none, rfl, fun _ h => absurd h (by simp [hk]), fun _ => rfl, ((B2.out.setCell (p := ⟨w.heap.size + 1, 0, none⟩) (by simp) _).setCell (p := ⟨w.heap.size + 1, 1, none⟩) (by simp) _).setCell (p := ⟨w.heap.size + 1, 2, none⟩) (by simp) _⟩
    · have HUP := Lib.hid ((mapOk_iff os).1 HYES.out).2
      go_wp2_with (go_at_call 79; refine (l1Key_is hk hkey _).mono ?_; rintro e w' ⟨rfl, rfl⟩)
      refine (l2At_any a os cap key _ (HV.out.below B2.out) hn).mono ?_
      rintro e w3 ⟨k, b, rfl, hA, h1, h2, hb3⟩
      obtain ⟨k1, k2⟩ := at_key HUP.out hA h1 h2
      have cm3 := (hb3.cell (p := ⟨w.heap.size, 0, none⟩) hs0).trans cm
      have Y6 := Lib.hid (X6.below hb3)
      have Y8 := Lib.hid (X8.below hb3)
      have hs3 : w.heap.size < w3.heap.size := Nat.lt_of_lt_of_le hs0 hb3.size
      have B3 := Lib.hid (B2.out.trans (hb3.mono B2.out.size))
      clear c0 c1 c2 f0 f1 f2 d0 d1 d2 g0 g1 g2 X6 X8 cm hb3 hA h1 h2 hs0
      cases b
      · have HKN := Lib.hid (k2 rfl)
        clear k1 k2
        go_wp2_with fail
        go_loop [11] (fun i => i = .int .i64 0) (fun _ => 0)
        case atStart => rfl
        case round =>
          obtain rfl := hrel
          have c0 := Y6.out.c0; have c1 := Y6.out.c1; have c2 := Y6.out.c2; have f0 := Y6.out.f0; have f1 := Y6.out.f1; have f2 := Y6.out.f2
          have d0 := Y8.out.c0; have d1 := Y8.out.c1; have d2 := Y8.out.c2
          simp only [idOf, textOf, goneOf] at c0 c1 c2 d0 d1 d2
          go_wp2_with fail
          exact bodyPost_ret (v := verRes none) (by simp [results, Try.results25, go_sem, verRes, c0, c1, c2]) rfl ⟨none, rfl, fun _ _ => by rw [atF, HKN.out]; rfl, fun _ => rfl, ((B3.out.setCell (p := ⟨w.heap.size + 1, 0, none⟩) (by simp) _).setCell (p := ⟨w.heap.size + 1, 1, none⟩) (by simp) _).setCell (p := ⟨w.heap.size + 1, 2, none⟩) (by simp) _⟩
      · obtain ⟨hkl, hkf⟩ := k1 rfl
        have HKF := Lib.hid hkf
        have hol := HL.out _ (List.getElem_mem hkl)
        have HVO := Lib.hid ((versOk_iff _).1 (((mapOk_iff os).1 HYES.out).1 _ (List.getElem_mem hkl)).2.2).1
        clear k1 k2 hkf
        go_wp2_with fail
        go_loopw [11] (fun i wr => ∃ q : Nat, q ≤ os[k].vers.length ∧ i = .int .i64 q ∧ Below w.heap.size w wr ∧ wr.cell? ⟨w.heap.size, 0, none⟩ = some (.slice a os.length cap) ∧ Box3 wr (w.heap.size + 1) none ∧ Box3 wr (w.heap.size + 1 + 1) (upF (os[k].vers.take q) id)) (fun i _ => os[k].vers.length - (intOf i).toNat)
        case atStart => exact ⟨0, Nat.zero_le _, rfl, B3.out, cm3, Y6.out, Y8.out⟩
        case round =>
          obtain ⟨q, hq, rfl, hB, hcm, hX6, hX8⟩ := hrel
          have HB := Lib.hid hB
          have H6 := Lib.hid hX6
          have H8 := Lib.hid hX8
          clear hB hX6 hX8 cm3
          have d0 := H8.out.c0; have d1 := H8.out.c1; have d2 := H8.out.c2; have g0 := H8.out.f0; have g1 := H8.out.f1; have g2 := H8.out.f2
          rcases HV.out.below HB.out with hnil | ⟨b1, o1, rfl, hb1, hc1⟩
          · rw [hnil] at hkl; simp at hkl
          obtain ⟨e0, e1, e2⟩ := hc1 k hkl
          clear hc1
          by_cases hlt : q < os[k].vers.length
          · rcases e2 with hnil | ⟨b3, o3, ha3, hb3, hc3⟩
            · rw [hnil] at hlt; simp at hlt
            obtain ⟨v0, v1, v2⟩ := hc3 q hlt
            rw [ha3] at e1
            have HSN := Lib.hid (upF_snoc os[k].vers id q hlt)
            clear hc3 ha3
            by_cases hle : os[k].vers[q].id ≤ id
            · go_wp2_with fail
              go_roundw
              case rel => exact ⟨q + 1, by omega, by go_num, ((HB.out.setCell (p := ⟨w.heap.size + 1 + 1, 0, none⟩) (by simp; omega) _).setCell (p := ⟨w.heap.size + 1 + 1, 1, none⟩) (by simp; omega) _).setCell (p := ⟨w.heap.size + 1 + 1, 2, none⟩) (by simp; omega) _, by simp [go_sem, hcm], ((H6.out.other (by omega)).other (by omega)).other (by omega), by rw [HSN.out, if_pos hle]; exact H8.out.set _⟩
              case measure => simp [intOf]; omega
            · go_wp2_with fail
              go_roundw
              case rel => exact ⟨q + 1, by omega, by go_num, HB.out, hcm, H6.out, by rw [HSN.out, if_neg hle]; exact H8.out⟩
              case measure => simp [intOf]; omega
          · obtain rfl : q = os[k].vers.length := by omega
            have hup : upF (os[k].vers.take os[k].vers.length) id = upF os[k].vers id := by rw [List.take_of_length_le (Nat.le_refl _)]
            rw [hup] at d0 d1 d2
            have c0 := H6.out.c0; have c1 := H6.out.c1; have c2 := H6.out.c2; have f0 := H6.out.f0; have f1 := H6.out.f1; have f2 := H6.out.f2
            have HANS := Lib.hid (show atF os key id = seenF os[k].vers id by rw [atF, HKF.out]; rfl)
            clear hup e2
            cases hx : upF os[k].vers id with
            | none =>
              rw [hx] at d0 d1 d2
              simp only [idOf, textOf, goneOf] at c0 c1 c2 d0 d1 d2
              go_wp2_with fail
              exact bodyPost_ret (v := verRes none) (by simp [results, Try.results25, go_sem, verRes, c0, c1, c2]) rfl ⟨none, rfl, fun _ _ => by rw [HANS.out, seenF, hx]; rfl, fun _ => rfl, ((HB.out.setCell (p := ⟨w.heap.size + 1, 0, none⟩) (by simp) _).setCell (p := ⟨w.heap.size + 1, 1, none⟩) (by simp) _).setCell (p := ⟨w.heap.size + 1, 2, none⟩) (by simp) _⟩
            | some v =>
              have hmem : v ∈ os[k].vers := (List.mem_filter.1 (List.mem_of_getLast? hx)).1
              have hid := (verOk_id (HVO.out v hmem)).1
              have hid0 : (v.id == 0) = false := by simp; omega
              rw [hx] at d0 d1 d2
              simp only [idOf, textOf, goneOf] at c0 c1 c2 d0 d1 d2
              cases hg : v.gone
              · rw [hg] at d2
                go_wp2_with fail
                exact bodyPost_ret (v := verRes (some v)) (by simp [results, Try.results25, go_sem, verRes, c0, c1, c2, hg]) rfl ⟨some v, rfl, fun _ _ => by rw [HANS.out, seenF, hx]; simp [hg], fun h => absurd ⟨HYES.out, hk⟩ h, ((HB.out.setCell (p := ⟨w.heap.size + 1, 0, none⟩) (by simp) _).setCell (p := ⟨w.heap.size + 1, 1, none⟩) (by simp) _).setCell (p := ⟨w.heap.size + 1, 2, none⟩) (by simp) _⟩
              · rw [hg] at d2
                go_wp2_with fail
                exact bodyPost_ret (v := verRes none) (by simp [results, Try.results25, go_sem, verRes, c0, c1, c2]) rfl ⟨none, rfl, fun _ _ => by rw [HANS.out, seenF, hx]; simp [hg], fun _ => rfl, ((HB.out.setCell (p := ⟨w.heap.size + 1, 0, none⟩) (by simp) _).setCell (p := ⟨w.heap.size + 1, 1, none⟩) (by simp) _).setCell (p := ⟨w.heap.size + 1, 2, none⟩) (by simp) _⟩
end Go.Proofs.Ytjijichgoodocaa
