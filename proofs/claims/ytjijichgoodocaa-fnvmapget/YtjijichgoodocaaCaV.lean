/- What is seen of a key, as the promises use it: four values and what they stand for. -/
import Derived.Test.YtjijichgoodocaaFvM
import Derived.Test.YtjijichgoodocaaSpecAtB
import Derived.Test.YtjijichgoodocaaDrawM
import Derived.Test.YtjijichgoodocaaSpecAt
import Derived.Deep.QuietTactic
import Derived.BigQuiet
namespace Go.Proofs.Ytjijichgoodocaa
open Go.RowKit

def VerIs (i : Int) (t : ByteArray) (g b : Bool) (x : Option VerD) : Prop := verRes x = .tuple #[.agg #[.int .i64 i, .string t, .bool g], .bool b]
theorem VerIs.one {i i' : Int} {t t' : ByteArray} {g b g' b' : Bool} {x : Option VerD} (h : VerIs i t g b x) (k : VerIs i' t' g' b' x) : i = i' ∧ t = t' ∧ g = g' ∧ b = b' := by
  unfold VerIs at h k
  rw [h] at k
  simp at k
  exact ⟨k.1.1, k.1.2.1, k.1.2.2, k.2⟩
theorem VerIs.some_ {i : Int} {t : ByteArray} {g : Bool} {x : Option VerD} (h : VerIs i t g true x) : x = some ⟨i, t, g⟩ := by
  unfold VerIs at h
  cases x with
  | none => simp [verRes] at h
  | some v => 
    simp [verRes] at h
    obtain ⟨h1, h2, h3⟩ := h
    cases v
    simp at h1 h2 h3
    rw [h1, h2, h3]
theorem VerIs.none_ {i : Int} {t : ByteArray} {g : Bool} {x : Option VerD} (h : VerIs i t g false x) : x = none ∧ i = 0 ∧ t = ⟨#[]⟩ ∧ g = false := by
  unfold VerIs at h
  cases x with
  | none => simp [verRes] at h; exact ⟨rfl, h.1.symm, h.2.1.symm, by simpa using h.2.2.symm⟩
  | some v => simp [verRes] at h
theorem VerIs.of_some (v : VerD) : VerIs v.id v.text v.gone true (some v) := rfl
theorem VerIs.bool {i : Int} {t : ByteArray} {g b : Bool} {x : Option VerD} (h : VerIs i t g b x) : b = x.isSome := by
  cases b
  · rw [h.none_.1]; rfl
  · rw [h.some_]; rfl
/-- A map that reads so, wherever it lies, and is small. -/
structure Mr (w : World) (a : Option Addr) (os : List ObjD) : Prop where
  inn : ObjsIn w a os
  fits : ∀ o ∈ os, o.fits
  pl : ∀ o ∈ os, o.plain
  len : os.length ≤ 1000
  vl : ∀ o ∈ os, o.vers.length ≤ 1000
theorem Mr.below {w u : World} {a : Option Addr} {os : List ObjD} (h : Mr w a os) (hb : Below w.heap.size w u) : Mr u a os := ⟨h.inn.below hb, h.fits, h.pl, h.len, h.vl⟩
theorem Mr.n {w : World} {a : Option Addr} {os : List ObjD} (h : Mr w a os) : os.length ≤ 1048576 := Nat.le_trans h.len (by omega)
theorem Mr.nm {w : World} {a : Option Addr} {os : List ObjD} (h : Mr w a os) : os.length ≤ maxLen := Nat.le_trans h.len (by unfold maxLen; omega)
theorem Mr.vn {w : World} {a : Option Addr} {os : List ObjD} (h : Mr w a os) : ∀ o ∈ os, o.vers.length ≤ 1048576 := fun o ho => Nat.le_trans (h.vl o ho) (by omega)
theorem Md.mr {lo : Nat} {w : World} {a : Option Addr} {os : List ObjD} (h : Md lo w a os) : Mr w a os := ⟨h.inn, h.fits, h.pl, Nat.le_trans h.len (by omega), fun o ho => Nat.le_trans (h.vl o ho) (by omega)⟩
def SeenV (x : Option VerD) (w : World) (e : Ending) (w' : World) : Prop := ∃ i t g b, VerIs i t g b x ∧ e = .returned (.tuple #[.agg #[.int .i64 i, .string t, .bool g], .bool b]) ∧ Below w.heap.size w w'
theorem SeenV.of_at {os : List ObjD} {key : ByteArray} {id : Int} {w w' : World} {e : Ending} (h : AtPost os key id w e w') : SeenV (atR os key id) w e w' := by
  obtain ⟨x, he, h1, h2, hb⟩ := h
  obtain ⟨i, t, g, b, hx⟩ := verRes_form x
  have := atR_of h1 h2
  subst this
  exact ⟨i, t, g, b, hx, by rw [he, hx], hb⟩
theorem vmapAt_v {a : Option Addr} {os : List ObjD} {w : World} (h : Mr w a os) (cap : Nat) (key : ByteArray) (id : Int) (hkey : key.size ≤ maxLen) : Calls Try.prog 22 #[.agg #[.slice a os.length cap], .string key, .int .i64 id] w (SeenV (atR os key id) w) :=
  (vmapAt_any a os cap key id w h.inn h.fits h.n h.vn hkey).mono fun _ _ q => SeenV.of_at q

theorem specVmapAt_v {a : Option Addr} {os : List ObjD} {w : World} (h : Mr w a os) (cap : Nat) (key : ByteArray) (id : Int) (hkey : key.size ≤ maxLen) : Calls Try.prog 25 #[.agg #[.slice a os.length cap], .string key, .int .i64 id] w (SeenV (atR os key id) w) :=
  (specVmapAt_any a os cap key id w h.inn h.fits h.n h.vn hkey).mono fun _ _ q => SeenV.of_at q

theorem vmapGet_v {a : Option Addr} {os : List ObjD} {w : World} (h : Mr w a os) (cap : Nat) (key : ByteArray) (hkey : key.size ≤ maxLen) : Calls Try.prog 21 #[.agg #[.slice a os.length cap], .string key] w (SeenV (atR os key 9999) w) :=
  (vmapGet_any a os cap key w h.inn h.fits h.n h.vn hkey).mono fun _ _ q => SeenV.of_at q

theorem specVmapGet_v {a : Option Addr} {os : List ObjD} {w : World} (h : Mr w a os) (cap : Nat) (key : ByteArray) (hkey : key.size ≤ maxLen) : Calls Try.prog 26 #[.agg #[.slice a os.length cap], .string key] w (SeenV (atR os key 9999) w) :=
  (specVmapGet_any a os cap key w h.inn h.fits h.n h.vn hkey).mono fun _ _ q => SeenV.of_at q

/-- Kept whole, so that no walk takes it apart. -/
def MokIs (b : Bool) (os : List ObjD) : Prop := b = true ↔ MapOkTo os os.length
theorem mok_ex (os : List ObjD) : ∃ b, MokIs b os := by
  unfold MokIs
  by_cases h : MapOkTo os os.length
  · exact ⟨true, by simp [h]⟩
  · exact ⟨false, by simp [h]⟩
theorem vmapOk_is {b : Bool} {a : Option Addr} {os : List ObjD} {w : World} (hb : MokIs b os) (h : Mr w a os) (cap : Nat) : Calls Try.prog 19 #[.agg #[.slice a os.length cap]] w fun e w' => e = .returned (.bool b) ∧ Below w.heap.size w w' :=
  (vmapOk_any a os cap w h.inn h.fits h.nm).mono fun e w' ⟨b', he, hk, hbl⟩ => ⟨by rw [he, show b' = b from by rw [Bool.eq_iff_iff, hk, show (b = true ↔ MapOkTo os os.length) from hb]], hbl⟩
theorem specVmapOk_is {b : Bool} {a : Option Addr} {os : List ObjD} {w : World} (hb : MokIs b os) (h : Mr w a os) (cap : Nat) : Calls Try.prog 20 #[.agg #[.slice a os.length cap]] w fun e w' => e = .returned (.bool b) ∧ Below w.heap.size w w' :=
  (specVmapOk_any a os cap w h.inn h.fits h.nm).mono fun e w' ⟨b', he, hk, hbl⟩ => ⟨by rw [he, show b' = b from by rw [Bool.eq_iff_iff, hk, show (b = true ↔ MapOkTo os os.length) from hb]], hbl⟩

end Go.Proofs.Ytjijichgoodocaa

/- Comparing two maps: a law's own loops. -/
namespace Go.Proofs.Ytjijichgoodocaa
open Go.RowKit

theorem below_drewV {B : Nat} {a w : World} (h : Below B a w) (n : Nat) : Below B a (w.drewN n) := ⟨h.os, h.tape, h.output, h.size, h.block⟩

set_option maxRecDepth 100000 in
set_option maxHeartbeats 2000000 in
theorem caVers_same (a b : Option Addr) (vs : List VerD) (ca cb : Nat) (w : World) (ha : VersIn w a vs) (hb : VersIn w b vs) (hn : vs.length ≤ maxLen) :
    Calls Try.prog 84 #[.slice a vs.length ca, .slice b vs.length cb] w fun e w' => e = .returned (.bool true) ∧ ∃ n, w' = w.drewN n := by
  unfold maxLen at hn
  have HA := Lib.hid ha
  have HB := Lib.hid hb
  clear ha hb
  go_enter Try.func84, Try.ntmps84
  go_wp2_with fail
  go_loopw [5] (fun i wr => ∃ (k n : Nat), k ≤ vs.length ∧ i = .int .i64 k ∧ wr = w.drewN n) (fun i _ => vs.length - (intOf i).toNat)
  case atStart => exact ⟨0, 0, Nat.zero_le _, rfl, rfl⟩
  case round =>
    obtain ⟨k, n, hk, rfl, rfl⟩ := hrel
    by_cases hlt : k < vs.length
    · rcases HA.out with hnil | ⟨b1, o1, rfl, hb1, hc1⟩
      · rw [hnil] at hlt; simp at hlt
      rcases HB.out with hnil | ⟨b2, o2, rfl, hb2, hc2⟩
      · rw [hnil] at hlt; simp at hlt
      obtain ⟨c0, c1, c2⟩ := hc1 k hlt
      obtain ⟨d0, d1, d2⟩ := hc2 k hlt
      clear hc1 hc2
      have i1 : (0 : Int) ≤ (k : Int) := by omega
      have i2 : (k : Int) < (vs.length : Int) := by omega
      go_wp2_with fail
      go_quiet (fail)
      go_wp2_with fail
      go_roundw
      case rel => exact ⟨k + 1, _, by omega, by go_num, rfl⟩
      case measure => simp [intOf]; omega
    · go_wp2_with fail
      go_ret
      exact ⟨rfl, n, rfl⟩

set_option maxRecDepth 100000 in
set_option maxHeartbeats 4000000 in
theorem caMap_same (a b : Option Addr) (xs ys : List ObjD) (ca cb n m : Nat) (w : World) (ha : ObjsIn w a xs) (hb : ObjsIn w b ys) (hs : SameObjs xs ys) (hx : xs.length = n) (hy : ys.length = m) (hf : ∀ o ∈ xs, o.fits) (hn : n ≤ maxLen) :
    Calls Try.prog 18 #[.agg #[.slice a n ca], .agg #[.slice b m cb]] w fun e w' => e = .returned (.bool true) ∧ Below w.heap.size w w' := by
  unfold maxLen at hn
  obtain rfl : m = n := by rw [← hx, ← hy]; exact hs.1.symm
  have HA := Lib.hid ha
  have HB := Lib.hid hb
  have HS := Lib.hid hs
  have HX := Lib.hid hx
  have HY := Lib.hid hy
  have HF := Lib.hid hf
  clear ha hb hs hx hy hf
  obtain ⟨W0, hW0⟩ : ∃ W0, (w.alloc (.cells #[.slice a m ca] 25)).alloc (.cells #[.slice b m cb] 25) = W0 := ⟨_, rfl⟩
  have B0 : Below w.heap.size w W0 := by rw [← hW0]; exact ((Below.refl _ _).alloc (Nat.le_refl _) _).alloc (by simp) _
  have x0 : W0.cell? ⟨w.heap.size, 0, none⟩ = some (.slice a m ca) := by rw [← hW0]; simp [go_sem]
  have y0 : W0.cell? ⟨w.heap.size + 1, 0, none⟩ = some (.slice b m cb) := by rw [← hW0]; simp [go_sem]
  have z1 : w.heap.size + 1 < W0.heap.size := by rw [← hW0]; simp
  have z0 : w.heap.size < W0.heap.size := by omega
  have HB0 := Lib.hid B0
  clear B0
  go_enter Try.func18, Try.ntmps18
  go_wp2_with fail
  clear hW0
  go_loopw [5] (fun i wr => ∃ (k : Nat), k ≤ m ∧ i = .int .i64 k ∧ Below W0.heap.size W0 wr) (fun i _ => m - (intOf i).toNat)
  case atStart => exact ⟨0, Nat.zero_le _, rfl, Below.refl _ _⟩
  case round =>
    obtain ⟨k, hk, rfl, hB⟩ := hrel
    obtain ⟨V, rfl⟩ : ∃ V, V = wr := ⟨_, rfl⟩
    have x1 := (hB.cell (p := ⟨w.heap.size, 0, none⟩) z0).trans x0
    have y1 := (hB.cell (p := ⟨w.heap.size + 1, 0, none⟩) z1).trans y0
    have HW := Lib.hid (HB0.out.trans (hB.mono HB0.out.size))
    have HV := Lib.hid hB
    clear hB x0 y0
    by_cases hlt : k < m
    · have hkx : k < xs.length := by have := HX.out; omega
      have hky : k < ys.length := by have := HY.out; omega
      rcases HA.out.below HW.out with hnil | ⟨b1, o1, rfl, hb1, hc1⟩
      · rw [hnil] at hkx; simp at hkx
      rcases HB.out.below HW.out with hnil | ⟨b2, o2, rfl, hb2, hc2⟩
      · rw [hnil] at hky; simp at hky
      obtain ⟨c0, c1, cv⟩ := hc1 k hkx
      obtain ⟨d0, d1, dv⟩ := hc2 k hky
      obtain ⟨ek, ev⟩ := HS.out.2 k hkx hky
      have hfk := (HF.out _ (List.getElem_mem hkx)).2.1
      rw [← ek] at d0
      rw [← ev] at d1 dv
      have CV := Lib.hid cv
      have DV := Lib.hid dv
      have HFK := Lib.hid hfk
      clear hc1 hc2 ek ev cv dv hfk
      generalize ys[k].at_ = yat at *
      generalize ys[k].cap = ycap at *
      generalize xs[k].at_ = xat at *
      generalize xs[k].cap = xcap at *
      generalize xs[k].key = xkey at *
      generalize xs[k].vers = xvs at *
      have i1 : (0 : Int) ≤ (k : Int) := by omega
      have i2 : (k : Int) < (m : Int) := by omega
      have q1 := And.intro x1 (And.intro y1 (And.intro c0 (And.intro c1 (And.intro d0 d1))))
      have q2 := q1
      go_wp2_with fail
      go_region_held3 (fun u => u.cell? ⟨w.heap.size, 0, none⟩ = some (.slice (some ⟨b1, o1, none⟩) m ca) ∧ u.cell? ⟨w.heap.size + 1, 0, none⟩ = some (.slice (some ⟨b2, o2, none⟩) m cb) ∧ u.cell? ⟨b1, o1 + k * 2, none⟩ = some (.string xkey) ∧ u.cell? ⟨b1, o1 + k * 2 + 1, none⟩ = some (.slice xat xvs.length xcap) ∧ u.cell? ⟨b2, o2 + k * 2, none⟩ = some (.string xkey) ∧ u.cell? ⟨b2, o2 + k * 2 + 1, none⟩ = some (.slice yat xvs.length ycap))
        (first | with_reducible exact q2 | exact q1 | fail)
        (first
          | (go_at_call 84; (with_reducible refine (caVers_same _ _ _ _ _ _ (CV.out.below ((Below.refl _ _).drew)) (DV.out.below ((Below.refl _ _).drew)) HFK.out).mono ?_); rintro e w2 ⟨rfl, nn, hw2⟩; have hcc : ∀ p, w2.cell? p = V.cell? p := (fun p => by rw [hw2]; rfl); have q2 := And.intro ((hcc _).trans x1) (And.intro ((hcc _).trans y1) (And.intro ((hcc _).trans c0) (And.intro ((hcc _).trans c1) (And.intro ((hcc _).trans d0) ((hcc _).trans d1))))); have hb3 : Below V.heap.size V w2 := (by rw [hw2]; exact below_drewV ((Below.refl _ _).drew) _); clear hw2 hcc)
          | fail)
      all_goals
        have HW3 := Lib.hid (HV.out.trans (hb3.mono HV.out.size))
        clear hb3 q2
        go_wp2_with fail
        go_roundw
        case rel => exact ⟨k + 1, by omega, by go_num, HW3.out⟩
        case measure => simp [intOf]; omega
    · go_wp2_with fail
      go_ret
      exact ⟨rfl, HW.out⟩
end Go.Proofs.Ytjijichgoodocaa
