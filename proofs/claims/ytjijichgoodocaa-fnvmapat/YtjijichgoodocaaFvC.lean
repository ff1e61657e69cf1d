/- What is seen of a key, as the promises use it: four values and what they stand for. -/
import Derived.Test.YtjijichgoodocaaFvM
import Derived.Test.YtjijichgoodocaaSpecAtB
import Derived.Test.YtjijichgoodocaaDrawM
namespace Go.Proofs.Ytjijichgoodocaa
open Go.RowKit

def VerIs (i : Int) (t : ByteArray) (g b : Bool) (x : Option VerD) : Prop := verRes x = .tuple #[.agg #[.int .i64 i, .string t, .bool g], .bool b]
theorem VerIs.one {i i' : Int} {t t' : ByteArray} {g b g' b' : Bool} {x : Option VerD} (h : VerIs i t g b x) (k : VerIs i' t' g' b' x) : i = i' ∧ t = t' ∧ g = g' ∧ b = b' := by
  unfold VerIs at h k
  rw [h] at k
  simp at k
  exact ⟨k.1.1, k.1.2.1, k.1.2.2, k.2⟩
theorem VerIs.some_ {i : Int} {t : ByteArray} {g : Bool} {x : Option VerD} (h : VerIs i t g true x) : x = some ⟨i, t, g⟩ := by
  unfold VerIs at h
  cases x with
  | none => simp [verRes] at h
  | some v => 
    simp [verRes] at h
    obtain ⟨h1, h2, h3⟩ := h
    cases v
    simp at h1 h2 h3
    rw [h1, h2, h3]
theorem VerIs.none_ {i : Int} {t : ByteArray} {g : Bool} {x : Option VerD} (h : VerIs i t g false x) : x = none ∧ i = 0 ∧ t = ⟨#[]⟩ ∧ g = false := by
  unfold VerIs at h
  cases x with
  | none => simp [verRes] at h; exact ⟨rfl, h.1.symm, h.2.1.symm, by simpa using h.2.2.symm⟩
  | some v => simp [verRes] at h
theorem VerIs.of_some (v : VerD) : VerIs v.id v.text v.gone true (some v) := rfl
theorem VerIs.bool {i : Int} {t : ByteArray} {g b : Bool} {x : Option VerD} (h : VerIs i t g b x) : b = x.isSome := by
  cases b
  · rw [h.none_.1]; rfl
  · rw [h.some_]; rfl
/-- A map that reads so, wherever it lies, and is small. -/
structure Mr (w : World) (a : Option Addr) (os : List ObjD) : Prop where
  inn : ObjsIn w a os
  fits : ∀ o ∈ os, o.fits
  pl : ∀ o ∈ os, o.plain
  len : os.length ≤ 1000
  vl : ∀ o ∈ os, o.vers.length ≤ 1000
theorem Mr.below {w u : World} {a : Option Addr} {os : List ObjD} (h : Mr w a os) (hb : Below w.heap.size w u) : Mr u a os := ⟨h.inn.below hb, h.fits, h.pl, h.len, h.vl⟩
theorem Mr.n {w : World} {a : Option Addr} {os : List ObjD} (h : Mr w a os) : os.length ≤ 1048576 := Nat.le_trans h.len (by omega)
theorem Mr.nm {w : World} {a : Option Addr} {os : List ObjD} (h : Mr w a os) : os.length ≤ maxLen := Nat.le_trans h.len (by unfold maxLen; omega)
theorem Mr.vn {w : World} {a : Option Addr} {os : List ObjD} (h : Mr w a os) : ∀ o ∈ os, o.vers.length ≤ 1048576 := fun o ho => Nat.le_trans (h.vl o ho) (by omega)
theorem Md.mr {lo : Nat} {w : World} {a : Option Addr} {os : List ObjD} (h : Md lo w a os) : Mr w a os := ⟨h.inn, h.fits, h.pl, Nat.le_trans h.len (by omega), fun o ho => Nat.le_trans (h.vl o ho) (by omega)⟩
def SeenV (x : Option VerD) (w : World) (e : Ending) (w' : World) : Prop := ∃ i t g b, VerIs i t g b x ∧ e = .returned (.tuple #[.agg #[.int .i64 i, .string t, .bool g], .bool b]) ∧ Below w.heap.size w w'
theorem SeenV.of_at {os : List ObjD} {key : ByteArray} {id : Int} {w w' : World} {e : Ending} (h : AtPost os key id w e w') : SeenV (atR os key id) w e w' := by
  obtain ⟨x, he, h1, h2, hb⟩ := h
  obtain ⟨i, t, g, b, hx⟩ := verRes_form x
  have := atR_of h1 h2
  subst this
  exact ⟨i, t, g, b, hx, by rw [he, hx], hb⟩
theorem vmapAt_v {a : Option Addr} {os : List ObjD} {w : World} (h : Mr w a os) (cap : Nat) (key : ByteArray) (id : Int) (hkey : key.size ≤ maxLen) : Calls Try.prog 22 #[.agg #[.slice a os.length cap], .string key, .int .i64 id] w (SeenV (atR os key id) w) :=
  (vmapAt_any a os cap key id w h.inn h.fits h.n h.vn hkey).mono fun _ _ q => SeenV.of_at q

theorem specVmapAt_v {a : Option Addr} {os : List ObjD} {w : World} (h : Mr w a os) (cap : Nat) (key : ByteArray) (id : Int) (hkey : key.size ≤ maxLen) : Calls Try.prog 25 #[.agg #[.slice a os.length cap], .string key, .int .i64 id] w (SeenV (atR os key id) w) :=
  (specVmapAt_any a os cap key id w h.inn h.fits h.n h.vn hkey).mono fun _ _ q => SeenV.of_at q

theorem vmapGet_v {a : Option Addr} {os : List ObjD} {w : World} (h : Mr w a os) (cap : Nat) (key : ByteArray) (hkey : key.size ≤ maxLen) : Calls Try.prog 21 #[.agg #[.slice a os.length cap], .string key] w (SeenV (atR os key 9999) w) :=
  (vmapGet_any a os cap key w h.inn h.fits h.n h.vn hkey).mono fun _ _ q => SeenV.of_at q

theorem specVmapGet_v {a : Option Addr} {os : List ObjD} {w : World} (h : Mr w a os) (cap : Nat) (key : ByteArray) (hkey : key.size ≤ maxLen) : Calls Try.prog 26 #[.agg #[.slice a os.length cap], .string key] w (SeenV (atR os key 9999) w) :=
  (specVmapGet_any a os cap key w h.inn h.fits h.n h.vn hkey).mono fun _ _ q => SeenV.of_at q

/-- Kept whole, so that no walk takes it apart. -/
def MokIs (b : Bool) (os : List ObjD) : Prop := b = true ↔ MapOkTo os os.length
theorem mok_ex (os : List ObjD) : ∃ b, MokIs b os := by
  unfold MokIs
  by_cases h : MapOkTo os os.length
  · exact ⟨true, by simp [h]⟩
  · exact ⟨false, by simp [h]⟩
theorem vmapOk_is {b : Bool} {a : Option Addr} {os : List ObjD} {w : World} (hb : MokIs b os) (h : Mr w a os) (cap : Nat) : Calls Try.prog 19 #[.agg #[.slice a os.length cap]] w fun e w' => e = .returned (.bool b) ∧ Below w.heap.size w w' :=
  (vmapOk_any a os cap w h.inn h.fits h.nm).mono fun e w' ⟨b', he, hk, hbl⟩ => ⟨by rw [he, show b' = b from by rw [Bool.eq_iff_iff, hk, show (b = true ↔ MapOkTo os os.length) from hb]], hbl⟩
theorem specVmapOk_is {b : Bool} {a : Option Addr} {os : List ObjD} {w : World} (hb : MokIs b os) (h : Mr w a os) (cap : Nat) : Calls Try.prog 20 #[.agg #[.slice a os.length cap]] w fun e w' => e = .returned (.bool b) ∧ Below w.heap.size w w' :=
  (specVmapOk_any a os cap w h.inn h.fits h.nm).mono fun e w' ⟨b', he, hk, hbl⟩ => ⟨by rw [he, show b' = b from by rw [Bool.eq_iff_iff, hk, show (b = true ↔ MapOkTo os os.length) from hb]], hbl⟩

end Go.Proofs.Ytjijichgoodocaa
