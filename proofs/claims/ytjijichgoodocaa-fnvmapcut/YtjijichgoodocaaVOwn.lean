/- VmapAt, as the model has it: a loop over the versions of the key. -/
import Derived.Test.YtjijichgoodocaaSpecGet
import Derived.Test.YtjijichgoodocaaMark
import Derived.Test.YtjijichgoodocaaVmMk
import Derived.RangeFuncBox
import Derived.Laws.OwnMore
import Derived.Lib.AppendZeros
namespace Go.Proofs.Ytjijichgoodocaa
open Go.RowKit

theorem upF_zero (vs : List VerD) (id : Int) : upF (vs.take 0) id = none := rfl
theorem upF_snoc (vs : List VerD) (id : Int) (i : Nat) (h : i < vs.length) : upF (vs.take (i + 1)) id = if vs[i].id ≤ id then some vs[i] else upF (vs.take i) id := by
  rw [upF, upF, List.take_succ_eq_append_getElem h, List.filter_append]
  by_cases hi : vs[i].id ≤ id
  · simp [hi, List.filter_cons]
  · simp [hi, List.filter_cons]

def idOf (x : Option VerD) : Int := match x with | none => 0 | some v => v.id
def textOf (x : Option VerD) : ByteArray := match x with | none => ⟨#[]⟩ | some v => v.text
def goneOf (x : Option VerD) : Bool := match x with | none => false | some v => v.gone
/-- Block B holds this version, or the zero one. -/
structure Box3 (u : World) (B : Nat) (x : Option VerD) : Prop where
  lt : B < u.heap.size
  c0 : u.cell? ⟨B, 0, none⟩ = some (.int .i64 (idOf x))
  c1 : u.cell? ⟨B, 1, none⟩ = some (.string (textOf x))
  c2 : u.cell? ⟨B, 2, none⟩ = some (.bool (goneOf x))
  f0 : u.frozen? ⟨B, 0, none⟩ = false
  f1 : u.frozen? ⟨B, 1, none⟩ = false
  f2 : u.frozen? ⟨B, 2, none⟩ = false
theorem Box3.below {u v : World} {B : Nat} {x : Option VerD} (h : Box3 u B x) (hb : Below u.heap.size u v) : Box3 v B x :=
  ⟨Nat.lt_of_lt_of_le h.lt hb.size, (hb.cell (p := ⟨B, 0, none⟩) h.lt).trans h.c0, (hb.cell (p := ⟨B, 1, none⟩) h.lt).trans h.c1, (hb.cell (p := ⟨B, 2, none⟩) h.lt).trans h.c2, (hb.frozen (p := ⟨B, 0, none⟩) h.lt).trans h.f0, (hb.frozen (p := ⟨B, 1, none⟩) h.lt).trans h.f1, (hb.frozen (p := ⟨B, 2, none⟩) h.lt).trans h.f2⟩
theorem Box3.set {u : World} {B : Nat} {x : Option VerD} (h : Box3 u B x) (v : VerD) : Box3 (((u.setCell ⟨B, 0, none⟩ (.int .i64 v.id)).setCell ⟨B, 1, none⟩ (.string v.text)).setCell ⟨B, 2, none⟩ (.bool v.gone)) B (some v) := by
  refine ⟨by simpa [World.setCell] using h.lt, ?_, ?_, ?_, by simp only [World.frozen?_setCell]; exact h.f0, by simp only [World.frozen?_setCell]; exact h.f1, by simp only [World.frozen?_setCell]; exact h.f2⟩
  · rw [cell_off (by omega), cell_off (by omega)]; exact World.cell?_setCell_same _ _ _ h.c0
  · rw [cell_off (by omega)]; exact World.cell?_setCell_same _ _ _ (u := .string (textOf x)) (by rw [cell_off (by omega)]; exact h.c1)
  · exact World.cell?_setCell_same _ _ _ (u := .bool (goneOf x)) (by rw [cell_off (by omega), cell_off (by omega)]; exact h.c2)
theorem Box3.other {u : World} {B B' o : Nat} {x : Option VerD} {y : Value} (h : Box3 u B x) (hn : B' ≠ B) : Box3 (u.setCell ⟨B', o, none⟩ y) B x := by
  have k : ∀ o', (u.setCell ⟨B', o, none⟩ y).cell? ⟨B, o', none⟩ = u.cell? ⟨B, o', none⟩ := fun o' => World.cell?_setCell_other _ _ _ _ (fun e => hn (congrArg Addr.block e))
  exact ⟨by simpa [World.setCell] using h.lt, (k 0).trans h.c0, (k 1).trans h.c1, (k 2).trans h.c2, by rw [World.frozen?_setCell]; exact h.f0, by rw [World.frozen?_setCell]; exact h.f1, by rw [World.frozen?_setCell]; exact h.f2⟩
theorem VersIn.setAbove {u : World} {a : Option Addr} {vs : List VerD} {n g o : Nat} {x : Value} {u0 : World} (h : VersIn u0 a vs) (hb : Below u0.heap.size u0 u) (hn : u0.heap.size ≤ g) : VersIn (u.setCell ⟨g, o, none⟩ x) a vs :=
  h.below (hb.setCell (p := ⟨g, o, none⟩) hn x)

set_option maxHeartbeats 2000000 in
theorem specVmapAt_any (a : Option Addr) (os : List ObjD) (cap : Nat) (key : ByteArray) (id : Int) (w : World) (hv : ObjsIn w a os) (hf : ∀ o ∈ os, o.fits) (hn : os.length ≤ 1048576) (hvl : ∀ o ∈ os, o.vers.length ≤ 1048576) (hkey : key.size ≤ maxLen) :
    Calls Try.prog 25 #[.agg #[.slice a os.length cap], .string key, .int .i64 id] w (AtPost os key id w) := by
  have HV := Lib.hid hv
  have HF := Lib.hid hf
  have HL := Lib.hid hvl
  clear hv hf hvl
  go_enter Try.func25, Try.ntmps25
  go_wp2_with fail
  have hb0 : Below w.heap.size w (((w.alloc (.cells #[.slice a os.length cap] 25)).alloc (.cells #[.int .i64 0, .string ⟨#[]⟩, .bool false] 27)).alloc (.cells #[.int .i64 0, .string ⟨#[]⟩, .bool false] 27)) := (((Below.refl _ _).alloc (Nat.le_refl _) _).alloc (by simp) _).alloc (by simp; omega) _
  refine (l2Ok_any a os cap _ (HV.out.below hb0) HF.out (by unfold maxLen; omega)).mono ?_
  rintro e w2 ⟨b, rfl, hb, hb2⟩
  have cm := hb2.cell (p := ⟨w.heap.size, 0, none⟩) (by simp; omega)
  simp [go_sem] at cm
  have X6 : Box3 w2 (w.heap.size + 1) none := Box3.below (u := ((w.alloc (.cells #[.slice a os.length cap] 25)).alloc (.cells #[.int .i64 0, .string ⟨#[]⟩, .bool false] 27)).alloc (.cells #[.int .i64 0, .string ⟨#[]⟩, .bool false] 27)) ⟨by simp, by simp [go_sem, idOf], by simp [go_sem, textOf], by simp [go_sem, goneOf], by simp [go_sem], by simp [go_sem], by simp [go_sem]⟩ hb2
  have X8 : Box3 w2 (w.heap.size + 1 + 1) none := Box3.below (u := ((w.alloc (.cells #[.slice a os.length cap] 25)).alloc (.cells #[.int .i64 0, .string ⟨#[]⟩, .bool false] 27)).alloc (.cells #[.int .i64 0, .string ⟨#[]⟩, .bool false] 27)) ⟨by simp, by simp [go_sem, idOf], by simp [go_sem, textOf], by simp [go_sem, goneOf], by simp [go_sem], by simp [go_sem], by simp [go_sem]⟩ hb2
  have hs0 : w.heap.size < w2.heap.size := by have := hb2.size; simp at this; omega
  have HOk := Lib.hid hb
  have B2 := Lib.hid (hb0.trans (hb2.mono (by simp; omega)))
  clear hb0 hb hb2
  have c0 := X6.c0; have c1 := X6.c1; have c2 := X6.c2; have f0 := X6.f0; have f1 := X6.f1; have f2 := X6.f2
  have d0 := X8.c0; have d1 := X8.c1; have d2 := X8.c2; have g0 := X8.f0; have g1 := X8.f1; have g2 := X8.f2
  simp only [idOf, textOf, goneOf] at c0 c1 c2 d0 d1 d2
  cases b
  · have hno : ¬ MapOkTo os os.length := fun h => absurd (HOk.out.2 h) (by decide)
    have HNO := Lib.hid hno
    clear hno
    go_wp2_with fail
    exact bodyPost_ret (v := verRes none) (by simp [results, Try.results25, go_sem, verRes, c0, c1, c2]) rfl ⟨none, rfl, fun h => absurd h HNO.out, fun _ => rfl, ((B2.out.setCell (p := ⟨w.heap.size + 1, 0, none⟩) (by simp) _).setCell (p := ⟨w.heap.size + 1, 1, none⟩) (by simp) _).setCell (p := ⟨w.heap.size + 1, 2, none⟩) (by simp) _⟩
  · have hyes : MapOkTo os os.length := HOk.out.1 rfl
    have HYES := Lib.hid hyes
    clear hyes
    cases hk : keyOkB key
    · go_wp2_with (go_at_call 79; refine (l1Key_is hk hkey _).mono ?_; rintro e w' ⟨rfl, rfl⟩)
      exact bodyPost_ret (v := verRes none) (by simp [results, Try.results25, go_sem, verRes, c0, c1, c2]) rfl ⟨none, rfl, fun _ h => absurd h (by simp [hk]), fun _ => rfl, ((B2.out.setCell (p := ⟨w.heap.size + 1, 0, none⟩) (by simp) _).setCell (p := ⟨w.heap.size + 1, 1, none⟩) (by simp) _).setCell (p := ⟨w.heap.size + 1, 2, none⟩) (by simp) _⟩
    · have HUP := Lib.hid ((mapOk_iff os).1 HYES.out).2
      go_wp2_with (go_at_call 79; refine (l1Key_is hk hkey _).mono ?_; rintro e w' ⟨rfl, rfl⟩)
      refine (l2At_any a os cap key _ (HV.out.below B2.out) hn).mono ?_
      rintro e w3 ⟨k, b, rfl, hA, h1, h2, hb3⟩
      obtain ⟨k1, k2⟩ := at_key HUP.out hA h1 h2
      have cm3 := (hb3.cell (p := ⟨w.heap.size, 0, none⟩) hs0).trans cm
      have Y6 := Lib.hid (X6.below hb3)
      have Y8 := Lib.hid (X8.below hb3)
      have hs3 : w.heap.size < w3.heap.size := Nat.lt_of_lt_of_le hs0 hb3.size
      have B3 := Lib.hid (B2.out.trans (hb3.mono B2.out.size))
      clear c0 c1 c2 f0 f1 f2 d0 d1 d2 g0 g1 g2 X6 X8 cm hb3 hA h1 h2 hs0
      cases b
      · have HKN := Lib.hid (k2 rfl)
        clear k1 k2
        go_wp2_with fail
        go_loop [11] (fun i => i = .int .i64 0) (fun _ => 0)
        case atStart => rfl
        case round =>
          obtain rfl := hrel
          have c0 := Y6.out.c0; have c1 := Y6.out.c1; have c2 := Y6.out.c2; have f0 := Y6.out.f0; have f1 := Y6.out.f1; have f2 := Y6.out.f2
          have d0 := Y8.out.c0; have d1 := Y8.out.c1; have d2 := Y8.out.c2
          simp only [idOf, textOf, goneOf] at c0 c1 c2 d0 d1 d2
          go_wp2_with fail
          exact bodyPost_ret (v := verRes none) (by simp [results, Try.results25, go_sem, verRes, c0, c1, c2]) rfl ⟨none, rfl, fun _ _ => by rw [atF, HKN.out]; rfl, fun _ => rfl, ((B3.out.setCell (p := ⟨w.heap.size + 1, 0, none⟩) (by simp) _).setCell (p := ⟨w.heap.size + 1, 1, none⟩) (by simp) _).setCell (p := ⟨w.heap.size + 1, 2, none⟩) (by simp) _⟩
      · obtain ⟨hkl, hkf⟩ := k1 rfl
        have HKF := Lib.hid hkf
        have hol := HL.out _ (List.getElem_mem hkl)
        have HVO := Lib.hid ((versOk_iff _).1 (((mapOk_iff os).1 HYES.out).1 _ (List.getElem_mem hkl)).2.2).1
        clear k1 k2 hkf
        go_wp2_with fail
        go_loopw [11] (fun i wr => ∃ q : Nat, q ≤ os[k].vers.length ∧ i = .int .i64 q ∧ Below w.heap.size w wr ∧ wr.cell? ⟨w.heap.size, 0, none⟩ = some (.slice a os.length cap) ∧ Box3 wr (w.heap.size + 1) none ∧ Box3 wr (w.heap.size + 1 + 1) (upF (os[k].vers.take q) id)) (fun i _ => os[k].vers.length - (intOf i).toNat)
        case atStart => exact ⟨0, Nat.zero_le _, rfl, B3.out, cm3, Y6.out, Y8.out⟩
        case round =>
          obtain ⟨q, hq, rfl, hB, hcm, hX6, hX8⟩ := hrel
          have HB := Lib.hid hB
          have H6 := Lib.hid hX6
          have H8 := Lib.hid hX8
          clear hB hX6 hX8 cm3
          have d0 := H8.out.c0; have d1 := H8.out.c1; have d2 := H8.out.c2; have g0 := H8.out.f0; have g1 := H8.out.f1; have g2 := H8.out.f2
          rcases HV.out.below HB.out with hnil | ⟨b1, o1, rfl, hb1, hc1⟩
          · rw [hnil] at hkl; simp at hkl
          obtain ⟨e0, e1, e2⟩ := hc1 k hkl
          clear hc1
          by_cases hlt : q < os[k].vers.length
          · rcases e2 with hnil | ⟨b3, o3, ha3, hb3, hc3⟩
            · rw [hnil] at hlt; simp at hlt
            obtain ⟨v0, v1, v2⟩ := hc3 q hlt
            rw [ha3] at e1
            have HSN := Lib.hid (upF_snoc os[k].vers id q hlt)
            clear hc3 ha3
            by_cases hle : os[k].vers[q].id ≤ id
            · go_wp2_with fail
              go_roundw
              case rel => exact ⟨q + 1, by omega, by go_num, ((HB.out.setCell (p := ⟨w.heap.size + 1 + 1, 0, none⟩) (by simp; omega) _).setCell (p := ⟨w.heap.size + 1 + 1, 1, none⟩) (by simp; omega) _).setCell (p := ⟨w.heap.size + 1 + 1, 2, none⟩) (by simp; omega) _, by simp [go_sem, hcm], ((H6.out.other (by omega)).other (by omega)).other (by omega), by rw [HSN.out, if_pos hle]; exact H8.out.set _⟩
              case measure => simp [intOf]; omega
            · go_wp2_with fail
              go_roundw
              case rel => exact ⟨q + 1, by omega, by go_num, HB.out, hcm, H6.out, by rw [HSN.out, if_neg hle]; exact H8.out⟩
              case measure => simp [intOf]; omega
          · obtain rfl : q = os[k].vers.length := by omega
            have hup : upF (os[k].vers.take os[k].vers.length) id = upF os[k].vers id := by rw [List.take_of_length_le (Nat.le_refl _)]
            rw [hup] at d0 d1 d2
            have c0 := H6.out.c0; have c1 := H6.out.c1; have c2 := H6.out.c2; have f0 := H6.out.f0; have f1 := H6.out.f1; have f2 := H6.out.f2
            have HANS := Lib.hid (show atF os key id = seenF os[k].vers id by rw [atF, HKF.out]; rfl)
            clear hup e2
            cases hx : upF os[k].vers id with
            | none =>
              rw [hx] at d0 d1 d2
              simp only [idOf, textOf, goneOf] at c0 c1 c2 d0 d1 d2
              go_wp2_with fail
              exact bodyPost_ret (v := verRes none) (by simp [results, Try.results25, go_sem, verRes, c0, c1, c2]) rfl ⟨none, rfl, fun _ _ => by rw [HANS.out, seenF, hx]; rfl, fun _ => rfl, ((HB.out.setCell (p := ⟨w.heap.size + 1, 0, none⟩) (by simp) _).setCell (p := ⟨w.heap.size + 1, 1, none⟩) (by simp) _).setCell (p := ⟨w.heap.size + 1, 2, none⟩) (by simp) _⟩
            | some v =>
              have hmem : v ∈ os[k].vers := (List.mem_filter.1 (List.mem_of_getLast? hx)).1
              have hid := (verOk_id (HVO.out v hmem)).1
              have hid0 : (v.id == 0) = false := by simp; omega
              rw [hx] at d0 d1 d2
              simp only [idOf, textOf, goneOf] at c0 c1 c2 d0 d1 d2
              cases hg : v.gone
              · rw [hg] at d2
                go_wp2_with fail
                exact bodyPost_ret (v := verRes (some v)) (by simp [results, Try.results25, go_sem, verRes, c0, c1, c2, hg]) rfl ⟨some v, rfl, fun _ _ => by rw [HANS.out, seenF, hx]; simp [hg], fun h => absurd ⟨HYES.out, hk⟩ h, ((HB.out.setCell (p := ⟨w.heap.size + 1, 0, none⟩) (by simp) _).setCell (p := ⟨w.heap.size + 1, 1, none⟩) (by simp) _).setCell (p := ⟨w.heap.size + 1, 2, none⟩) (by simp) _⟩
              · rw [hg] at d2
                go_wp2_with fail
                exact bodyPost_ret (v := verRes none) (by simp [results, Try.results25, go_sem, verRes, c0, c1, c2]) rfl ⟨none, rfl, fun _ _ => by rw [HANS.out, seenF, hx]; simp [hg], fun _ => rfl, ((HB.out.setCell (p := ⟨w.heap.size + 1, 0, none⟩) (by simp) _).setCell (p := ⟨w.heap.size + 1, 1, none⟩) (by simp) _).setCell (p := ⟨w.heap.size + 1, 2, none⟩) (by simp) _⟩
end Go.Proofs.Ytjijichgoodocaa

/- Versions and objects that a call has made by appends: rows that it owns, and versions that it holds. -/
namespace Go.Proofs.Ytjijichgoodocaa
open Go.RowKit

theorem infoVer : (Try.prog.info? 27).map (fun i => (i.zero, i.size, i.bytes)) = some (some (.agg #[.int .i64 0, .string ⟨#[]⟩, .bool false]), 3, 32) := by kernel_rfl
theorem infoObj : (Try.prog.info? 45).map (fun i => (i.zero, i.size, i.bytes)) = some (some (.agg #[.string ⟨#[]⟩, .slice none 0 0]), 2, 40) := by kernel_rfl
def verCells (v : VerD) : List Value := [.int .i64 v.id, .string v.text, .bool v.gone]
def objCells (o : ObjD) : List Value := [.string o.key, .slice o.at_ o.vers.length o.cap]
theorem vers_len (vs : List VerD) : (vs.flatMap verCells).length = vs.length * 3 := flat_len verCells 3 (fun _ => rfl) vs
theorem objs_len (vs : List ObjD) : (vs.flatMap objCells).length = vs.length * 2 := flat_len objCells 2 (fun _ => rfl) vs
theorem vers_one (vs : List VerD) : ∀ u ∈ vs.flatMap verCells, u.oneCell' = true := fun u hu => by
  obtain ⟨v, _, h⟩ := List.mem_flatMap.1 hu
  simp [verCells] at h
  rcases h with rfl | rfl | rfl <;> rfl
theorem obj_one (o : ObjD) : ∀ u ∈ objCells o, u.oneCell' = true := fun u h => by
  simp [objCells] at h
  rcases h with rfl | rfl <;> rfl
theorem objs_one (vs : List ObjD) : ∀ u ∈ vs.flatMap objCells, u.oneCell' = true := fun u hu => by
  obtain ⟨v, _, h⟩ := List.mem_flatMap.1 hu
  exact obj_one v u h
theorem ver_one (v : VerD) : ∀ u ∈ verCells v, u.oneCell' = true := fun u h => by
  simp [verCells] at h
  rcases h with rfl | rfl | rfl <;> rfl
theorem emptyVers {u : World} {B g : Nat} (h : u.heap[g]? = some (.cells #[] 27 (0, 0))) (hb : B ≤ g) : u.ownsRow B 27 3 (.slice (some ⟨g, 0, none⟩) 0 0) 0 [] :=
  ⟨by simp, .inr ⟨g, 0, #[], rfl, hb, h, Nat.le_refl _, Nat.zero_le _, by simp, by simp⟩⟩
theorem emptyObjs {u : World} {B g : Nat} (h : u.heap[g]? = some (.cells #[] 45 (0, 0))) (hb : B ≤ g) : u.ownsRow B 45 2 (.slice (some ⟨g, 0, none⟩) 0 0) 0 [] :=
  ⟨by simp, .inr ⟨g, 0, #[], rfl, hb, h, Nat.le_refl _, Nat.zero_le _, by simp, by simp⟩⟩
theorem newsObj (w : World) (o : ObjD) (ty : TypeId) (g : Nat) (hg : w.heap.size = g) : ∀ j u, (objCells o)[j]? = some u → (w.alloc (.cells #[.string o.key, .slice o.at_ o.vers.length o.cap] ty)).cell? ((⟨g, 0, none⟩ : Addr).add j) = some u := by
  subst hg
  exact World.news_of_block (heap_alloc_new w _)
theorem newsVer (w : World) (v : VerD) (ty : TypeId) (g : Nat) (hg : w.heap.size = g) : ∀ j u, (verCells v)[j]? = some u → (w.alloc (.cells #[.int .i64 v.id, .string v.text, .bool v.gone] ty)).cell? ((⟨g, 0, none⟩ : Addr).add j) = some u := by
  subst hg
  exact World.news_of_block (heap_alloc_new w _)
/-- The cells of a slice of versions, as an append takes them. -/
theorem vers_news {w : World} {b off : Nat} {vs : List VerD} (hc : ∀ i (h : i < vs.length), w.cell? ⟨b, off + i * 3, none⟩ = some (.int .i64 vs[i].id) ∧ w.cell? ⟨b, off + i * 3 + 1, none⟩ = some (.string vs[i].text) ∧ w.cell? ⟨b, off + i * 3 + 2, none⟩ = some (.bool vs[i].gone)) :
    ∀ j u, (vs.flatMap verCells)[j]? = some u → w.cell? ((⟨b, off, none⟩ : Addr).add j) = some u := fun j u hu => by
  have hadd : (⟨b, off, none⟩ : Addr).add j = ⟨b, off + j, none⟩ := by unfold Addr.add; split <;> simp_all
  have hl := vers_len vs
  have hj : j < vs.length * 3 := by
    rcases Nat.lt_or_ge j (vs.length * 3) with h | h
    · exact h
    · rw [List.getElem?_eq_none (by omega)] at hu; cases hu
  have hi : j / 3 < vs.length := by omega
  rw [hadd]
  have hat := flat_at verCells 3 (fun _ => rfl) vs (j / 3) (j % 3) hi (by omega)
  rw [show j / 3 * 3 + j % 3 = j by omega, hu] at hat
  have hm : j % 3 = 0 ∨ j % 3 = 1 ∨ j % 3 = 2 := by omega
  rcases hm with h0 | h0 | h0
  · rw [h0] at hat
    have := (hc (j / 3) hi).1
    rw [show off + j / 3 * 3 = off + j by omega] at this
    rw [this]; simpa [verCells] using hat.symm
  · rw [h0] at hat
    have := (hc (j / 3) hi).2.1
    rw [show off + j / 3 * 3 + 1 = off + j by omega] at this
    rw [this]; simpa [verCells] using hat.symm
  · rw [h0] at hat
    have := (hc (j / 3) hi).2.2
    rw [show off + j / 3 * 3 + 2 = off + j by omega] at this
    rw [this]; simpa [verCells] using hat.symm

/-- Whatever lies there lies in a block of versions. -/
def OfVer (w : World) (a : Option Addr) : Prop := ∀ b off, a = some ⟨b, off, none⟩ → ∃ c q, w.heap[b]? = some (.cells c 27 q)
theorem own_versH {w : World} {base : Nat} {v : Value} {vs : List VerD} (h : w.ownsRow base 27 3 v vs.length (vs.flatMap verCells)) :
    ∃ a cap, v = .slice a vs.length cap ∧ VersIn w a vs ∧ Free w a (vs.length * 3) ∧ Lies base w.heap.size a ∧ OfVer w a ∧ PlainV a vs cap := by
  have h' := h.2
  rcases Joins.ownsRow_forms h with ⟨rfl, h0⟩ | ⟨g, cap, rfl⟩
  · have : vs = [] := List.eq_nil_of_length_eq_zero h0
    subst this
    exact ⟨none, 0, rfl, .inl rfl, .inl rfl, (fun b off e => by cases e), (fun b off e => by cases e), .inr ⟨rfl, rfl, rfl⟩, Nat.le_refl _, Nat.zero_le _⟩
  · have hg := h.lt g rfl
    refine ⟨some ⟨g, 0, none⟩, cap, rfl, .inr ⟨g, 0, rfl, hg.2, fun i hi => ?_⟩, own_free h, (fun b off e => by cases e; exact hg), (fun b off e => by
      cases e
      rcases h' with ⟨e, _⟩ | ⟨g', c', cur, e, _, hh, _⟩
      · cases e
      · cases e; exact ⟨cur, _, hh⟩), .inl ⟨_, _, rfl⟩, ?_⟩
    case refine_2 =>
      rcases h' with ⟨e, _⟩ | ⟨g', c', cur, e, _, hh, q1, q2, _⟩
      · cases e
      · cases e; exact ⟨q1, q2⟩
    have e0 := h.cellAt (i * 3) (by omega)
    have e1 := h.cellAt (i * 3 + 1) (by omega)
    have e2 := h.cellAt (i * 3 + 2) (by omega)
    have f0 := flat_at verCells 3 (fun _ => rfl) vs i 0 hi (by omega)
    have f1 := flat_at verCells 3 (fun _ => rfl) vs i 1 hi (by omega)
    have f2 := flat_at verCells 3 (fun _ => rfl) vs i 2 hi (by omega)
    rw [Nat.add_zero] at f0
    simp only [Nat.zero_add]
    exact ⟨e0.trans f0, e1.trans f1, e2.trans f2⟩

theorem turned_of_grown {w w' : World} {row : Option Nat} (hg : w.grownBy w' row) : Turned (fun k => row = some k) w w' :=
  ⟨hg.os, hg.tape, hg.output, hg.size, fun k hk hn => hg.block k hk (fun e => hn e.symm)⟩
/-- Versions that the call holds for these objects. -/
structure HeldVs (w : World) (lo : Nat) (cs : List ObjD) : Prop where
  in2 : ∀ o ∈ cs, VersIn w o.at_ o.vers
  fr2 : ∀ o ∈ cs, Free w o.at_ (o.vers.length * 3)
  l2 : ∀ o ∈ cs, Lies lo w.heap.size o.at_
  ty : ∀ o ∈ cs, OfVer w o.at_
  ap2 : cs.Pairwise fun x y => Apart x.at_ y.at_
  pl : ∀ o ∈ cs, o.plain
theorem HeldVs.nil (w : World) (lo : Nat) : HeldVs w lo [] := ⟨(fun o h => by cases h), (fun o h => by cases h), (fun o h => by cases h), (fun o h => by cases h), .nil, (fun o h => by cases h)⟩
theorem HeldVs.turned {S : Nat → Prop} {w w' : World} {lo : Nat} {cs : List ObjD} (h : HeldVs w lo cs) (hS : ∀ o ∈ cs, OffS S o.at_) (ht : Turned S w w') : HeldVs w' lo cs :=
  ⟨fun o ho => (h.in2 o ho).turned (hS o ho) ht, fun o ho => (h.fr2 o ho).turned (hS o ho) ht, fun o ho => (h.l2 o ho).mono (Nat.le_refl _) ht.size, fun o ho b off e => by
    obtain ⟨c, q, hc⟩ := h.ty o ho b off e
    exact ⟨c, q, (ht.block b (h.l2 o ho b off e).2 (hS o ho b off e)).trans hc⟩, h.ap2, h.pl⟩
theorem HeldVs.below {w w' : World} {lo : Nat} {cs : List ObjD} (h : HeldVs w lo cs) (hb : Below w.heap.size w w') : HeldVs w' lo cs :=
  h.turned (S := fun _ => False) (fun _ _ _ _ _ q => q) ((Turned.of_below hb).mono (fun _ _ q => q))
theorem HeldVs.grown {w w' : World} {lo : Nat} {row : Option Nat} {cs : List ObjD} (h : HeldVs w lo cs) (hg : w.grownBy w' row) (hr : ∀ b, row = some b → ∀ c q, w.heap[b]? ≠ some (.cells c 27 q)) : HeldVs w' lo cs :=
  h.turned (fun o ho b off e k => by
    obtain ⟨c, q, hc⟩ := h.ty o ho b off e
    exact hr b k c q hc) (turned_of_grown hg)
theorem HeldVs.lower {w : World} {lo lo' : Nat} {cs : List ObjD} (h : HeldVs w lo cs) (hl : lo' ≤ lo) : HeldVs w lo' cs := ⟨h.in2, h.fr2, fun o ho => (h.l2 o ho).mono hl (Nat.le_refl _), h.ty, h.ap2, h.pl⟩
theorem objRow_not_ver {w : World} {base k : Nat} {v : Value} {xs : List Value} (h : w.ownsRow base 45 2 v k xs) : ∀ b, v.ownBlock = some b → ∀ c q, w.heap[b]? ≠ some (.cells c 27 q) := fun b e c q hc => by
  rcases h.2 with ⟨rfl, _⟩ | ⟨g, cap, cur, rfl, _, hh, _⟩
  · simp [Value.ownBlock] at e
  · obtain rfl : g = b := by simpa [Value.ownBlock] using e
    rw [hh] at hc
    injection hc with hc
    injection hc with _ hc _
    exact absurd hc (by decide)
theorem boxed_not_ver {w : World} {B : Nat} {t : TypeId} {u : Value} (h : Boxed w B t u) (ht : t ≠ 27) : ∀ b, (some B : Option Nat) = some b → ∀ c q, w.heap[b]? ≠ some (.cells c 27 q) := fun b e c q hc => by
  cases e
  rw [show w.heap[B]? = _ from h] at hc
  injection hc with hc
  injection hc with _ hc _
  exact ht hc
/-- One more. -/
theorem HeldVs.push {w w' : World} {lo : Nat} {cs : List ObjD} (h : HeldVs w lo cs) (hb : Below w.heap.size w w') (o : ObjD) (h1 : VersIn w' o.at_ o.vers) (h2 : Free w' o.at_ (o.vers.length * 3)) (h3 : Lies w.heap.size w'.heap.size o.at_) (h4 : OfVer w' o.at_) (h5 : o.plain) (hlo : lo ≤ w.heap.size) : HeldVs w' lo (cs ++ [o]) := by
  have h' := h.below hb
  have hm : ∀ {P : ObjD → Prop}, (∀ c ∈ cs, P c) → P o → ∀ c ∈ cs ++ [o], P c := fun p q c hc => by
    rcases List.mem_append.1 hc with hc | hc
    · exact p c hc
    · rw [List.mem_singleton] at hc; subst hc; exact q
  refine ⟨hm h'.in2 h1, hm h'.fr2 h2, hm h'.l2 (h3.mono hlo (Nat.le_refl _)), hm h'.ty h4, ?_, hm h'.pl h5⟩
  rw [List.pairwise_append]
  refine ⟨h.ap2, List.pairwise_singleton _ _, fun x hx y hy => ?_⟩
  rw [List.mem_singleton] at hy; subst hy
  intro x1 o1 y1 p1 e1 e2
  have q1 := (h.l2 x hx _ _ e1).2
  have q2 := (h3 _ _ e2).1
  omega
/-- A row of objects that the call owns, with the versions that it holds, is a map of its own. -/
theorem vmAt_own {w : World} {base lo : Nat} {v : Value} {cs : List ObjD} (h : w.ownsRow base 45 2 v cs.length (cs.flatMap objCells)) (hv : HeldVs w lo cs) (hb : lo ≤ base) :
    ∃ a cap, v = .slice a cs.length cap ∧ VmAt w lo w.heap.size a cs := by
  have hty := objRow_not_ver h
  rcases Joins.ownsRow_forms h with ⟨rfl, h0⟩ | ⟨g, cap, rfl⟩
  · have : cs = [] := List.eq_nil_of_length_eq_zero h0
    subst this
    exact ⟨none, 0, rfl, VmAt.nil _ _ _ (Nat.le_refl _)⟩
  · have hg := h.lt g rfl
    refine ⟨some ⟨g, 0, none⟩, cap, rfl, .inr ⟨g, 0, rfl, hg.2, fun i hi => ?_⟩, own_free h, (fun b off e => by cases e; exact ⟨Nat.le_trans hb hg.1, hg.2⟩), Nat.le_refl _, hv.fr2, hv.l2, fun o ho x p y q e1 e2 exy => ?_, hv.ap2, hv.pl⟩
    · have e0 := h.cellAt (i * 2) (by omega)
      have e1 := h.cellAt (i * 2 + 1) (by omega)
      have f0 := flat_at objCells 2 (fun _ => rfl) cs i 0 hi (by omega)
      have f1 := flat_at objCells 2 (fun _ => rfl) cs i 1 hi (by omega)
      rw [Nat.add_zero] at f0
      simp only [Nat.zero_add]
      exact ⟨e0.trans f0, e1.trans f1, hv.in2 _ (List.getElem_mem hi)⟩
    · cases e1
      subst exy
      obtain ⟨c, q', hc⟩ := hv.ty o ho _ _ e2
      exact hty g rfl c q' hc
end Go.Proofs.Ytjijichgoodocaa
