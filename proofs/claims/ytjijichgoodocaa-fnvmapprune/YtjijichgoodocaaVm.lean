/- How versions and objects lie in memory; the sizes that the laws reckon of them. -/
import Derived.Test.YtjijichgoodocaaRows
import Derived.WalkKit
import Derived.WalkSpells
import Derived.WalkLawsBesides
import Derived.Lib.Hide
import Derived.Deep.RegionHeld3
import Derived.Deep.QuietTactic
import Derived.BigQuiet
import Derived.IntWalk
namespace Go.Proofs.Ytjijichgoodocaa
open Go.RowKit

structure VerD where
  id : Int
  text : ByteArray
  gone : Bool

def VerD.val (v : VerD) : Value := .agg #[.int .i64 v.id, .string v.text, .bool v.gone]

/-- A slice of versions, as it reads in u. -/
def VersIn (u : World) (a : Option Addr) (vs : List VerD) : Prop :=
  vs = [] ∨ ∃ b off, a = some ⟨b, off, none⟩ ∧ b < u.heap.size ∧ ∀ i (h : i < vs.length), u.cell? ⟨b, off + i * 3, none⟩ = some (.int .i64 vs[i].id) ∧ u.cell? ⟨b, off + i * 3 + 1, none⟩ = some (.string vs[i].text) ∧ u.cell? ⟨b, off + i * 3 + 2, none⟩ = some (.bool vs[i].gone)

theorem VersIn.below {u v : World} {a : Option Addr} {vs : List VerD} (h : VersIn u a vs) (hb : Below u.heap.size u v) : VersIn v a vs := by
  rcases h with h | ⟨b, off, e, hlt, hc⟩
  · exact .inl h
  · refine .inr ⟨b, off, e, Nat.lt_of_lt_of_le hlt hb.size, fun i hi => ?_⟩
    rw [hb.cell (p := ⟨b, off + i * 3, none⟩) hlt, hb.cell (p := ⟨b, off + i * 3 + 1, none⟩) hlt, hb.cell (p := ⟨b, off + i * 3 + 2, none⟩) hlt]
    exact hc i hi

/-- What a size function hands back: -1, or what is left. -/
def SzPost (left : Int) (total : Nat) (w : World) (e : Ending) (w' : World) : Prop :=
  ∃ z : Int, e = .returned (.int .i64 z) ∧ (z = -1 ∨ 0 ≤ z ∧ z + total = left) ∧ Below w.heap.size w w'

set_option maxHeartbeats 400000 in
theorem szVer_any (i : Int) (s : ByteArray) (g : Bool) (left : Int) (w : World) (hs : s.size ≤ maxLen) (h0 : 0 ≤ left) (hl : left ≤ 1048576) :
    Calls Try.prog 64 #[.agg #[.int .i64 i, .string s, .bool g], .int .i64 left] w (SzPost left s.size w) := by
  unfold maxLen at hs
  by_cases h : left < s.size
  · go_enter Try.func64, Try.ntmps64
    go_wp2
    go_ret
    exact ⟨-1, rfl, .inl rfl, (Below.refl _ _).alloc (Nat.le_refl _) _⟩
  · go_enter Try.func64, Try.ntmps64
    go_wp2
    go_ret
    exact ⟨left - s.size, rfl, .inr ⟨by omega, by omega⟩, (Below.refl _ _).alloc (Nat.le_refl _) _⟩

def textsTo (vs : List VerD) (k : Nat) : Nat := ((vs.take k).map fun v => v.text.size).sum
theorem textsTo_zero (vs : List VerD) : textsTo vs 0 = 0 := by simp [textsTo]
theorem textsTo_succ (vs : List VerD) (k : Nat) (h : k < vs.length) : textsTo vs (k + 1) = textsTo vs k + vs[k].text.size := by
  unfold textsTo
  rw [List.take_succ_eq_append_getElem h, List.map_append, List.sum_append]
  simp
def versSize (vs : List VerD) : Nat := vs.length + textsTo vs vs.length

set_option maxHeartbeats 1000000 in
theorem szVerS_any (a : Option Addr) (vs : List VerD) (cap : Nat) (left : Int) (w : World) (hv : VersIn w a vs) (ht : ∀ v ∈ vs, v.text.size ≤ maxLen) (hn : vs.length ≤ maxLen) (h0 : 0 ≤ left) (hl : left ≤ 1048576) :
    Calls Try.prog 190 #[.slice a vs.length cap, .int .i64 left] w (SzPost left (versSize vs) w) := by
  unfold maxLen at hn
  have HV := Lib.hid hv
  have HT := Lib.hid ht
  clear hv ht
  by_cases h : left < vs.length
  · go_enter Try.func190, Try.ntmps190
    go_wp2_with fail
    go_ret
    exact ⟨-1, rfl, .inl rfl, Below.refl _ _⟩
  · go_enter Try.func190, Try.ntmps190
    go_wp2_with fail
    go_loopw [1, 5] (fun l i wr => ∃ (k : Nat) (z : Int), k ≤ vs.length ∧ i = .int .i64 k ∧ l = .int .i64 z ∧ 0 ≤ z ∧ z + vs.length + textsTo vs k = left ∧ Below w.heap.size w wr) (fun _ i _ => vs.length - (intOf i).toNat)
    case atStart => exact ⟨0, left - vs.length, Nat.zero_le _, rfl, rfl, by omega, by rw [textsTo_zero]; omega, Below.refl _ _⟩
    case round =>
      obtain ⟨k, z, hk, rfl, rfl, hz0, hz, hB⟩ := hrel
      have HZ := Lib.hid hz
      have HB := Lib.hid hB
      clear hz hB
      by_cases hlt : k < vs.length
      · rcases HV.out.below HB.out with hnil | ⟨b, off, rfl, hb, hc⟩
        · rw [hnil] at hlt; simp at hlt
        · obtain ⟨c0, c1, c2⟩ := hc k hlt
          clear hc
          go_wp2_with fail
          with_reducible refine (szVer_any _ _ _ _ _ (HT.out _ (List.getElem_mem hlt)) hz0 (by have := HZ.out; omega)).mono ?_
          rintro e w2 ⟨z2, rfl, hz2, hb2⟩
          have HB2 := Lib.hid (HB.out.trans (hb2.mono HB.out.size))
          clear hb2
          rcases hz2 with rfl | ⟨hp, hsum⟩
          · go_wp2_with fail
            go_ret
            exact ⟨-1, rfl, .inl rfl, HB2.out⟩
          · have HS := Lib.hid hsum
            clear hsum
            go_wp2_with fail
            go_roundw
            case rel => exact ⟨k + 1, z2, by omega, by go_num, rfl, hp, by rw [textsTo_succ vs k hlt]; have := HZ.out; have := HS.out; omega, HB2.out⟩
            case measure => simp [intOf]; omega
      · go_wp2_with fail
        go_ret
        obtain rfl : k = vs.length := by omega
        exact ⟨z, rfl, .inr ⟨hz0, by unfold versSize; have := HZ.out; omega⟩, HB.out⟩

structure ObjD where
  key : ByteArray
  at_ : Option Addr
  cap : Nat
  vers : List VerD

/-- A slice of objects, as it reads in u. -/
def ObjsIn (u : World) (a : Option Addr) (os : List ObjD) : Prop :=
  os = [] ∨ ∃ b off, a = some ⟨b, off, none⟩ ∧ b < u.heap.size ∧ ∀ i (h : i < os.length), u.cell? ⟨b, off + i * 2, none⟩ = some (.string os[i].key) ∧ u.cell? ⟨b, off + i * 2 + 1, none⟩ = some (.slice os[i].at_ os[i].vers.length os[i].cap) ∧ VersIn u os[i].at_ os[i].vers

theorem ObjsIn.below {u v : World} {a : Option Addr} {os : List ObjD} (h : ObjsIn u a os) (hb : Below u.heap.size u v) : ObjsIn v a os := by
  rcases h with h | ⟨b, off, e, hlt, hc⟩
  · exact .inl h
  · refine .inr ⟨b, off, e, Nat.lt_of_lt_of_le hlt hb.size, fun i hi => ?_⟩
    obtain ⟨c0, c1, c2⟩ := hc i hi
    rw [hb.cell (p := ⟨b, off + i * 2, none⟩) hlt, hb.cell (p := ⟨b, off + i * 2 + 1, none⟩) hlt]
    exact ⟨c0, c1, c2.below hb⟩

/-- What fits of an object, whatever it holds. -/
def ObjD.fits (o : ObjD) : Prop := o.key.size ≤ maxLen ∧ o.vers.length ≤ maxLen ∧ ∀ v ∈ o.vers, v.text.size ≤ maxLen

set_option maxHeartbeats 1000000 in
theorem szObj_any (o : ObjD) (left : Int) (w : World) (hv : VersIn w o.at_ o.vers) (hf : o.fits) (h0 : 0 ≤ left) (hl : left ≤ 1048576) :
    Calls Try.prog 169 #[.agg #[.string o.key, .slice o.at_ o.vers.length o.cap], .int .i64 left] w (SzPost left (o.key.size + versSize o.vers) w) := by
  obtain ⟨hk, hn, ht⟩ := hf
  have HV := Lib.hid hv
  have HT := Lib.hid ht
  have HN := Lib.hid hn
  clear hv ht hn
  unfold maxLen at hk
  by_cases h : left < o.key.size
  · go_enter Try.func169, Try.ntmps169
    go_wp2_with fail
    go_ret
    exact ⟨-1, rfl, .inl rfl, (Below.refl _ _).alloc (Nat.le_refl _) _⟩
  · go_enter Try.func169, Try.ntmps169
    go_wp2_with fail
    with_reducible refine (szVerS_any _ _ _ _ _ ?hv HT.out HN.out (by omega) (by omega)).mono ?_
    case hv => exact HV.out.below ((Below.refl _ _).alloc (Nat.le_refl _) _)
    rintro e w2 ⟨z2, rfl, hz2, hb2⟩
    have HB2 := Lib.hid (((Below.refl w.heap.size w).alloc (Nat.le_refl _) _).trans (hb2.mono (by simp)))
    clear hb2
    rcases hz2 with rfl | ⟨hp, hsum⟩
    · go_wp2_with fail
      go_ret
      exact ⟨-1, rfl, .inl rfl, HB2.out⟩
    · have HS := Lib.hid hsum
      clear hsum
      go_wp2_with fail
      go_ret
      exact ⟨z2, rfl, .inr ⟨hp, by have := HS.out; omega⟩, HB2.out⟩

def objsTo (os : List ObjD) (k : Nat) : Nat := ((os.take k).map fun o => o.key.size + versSize o.vers).sum
theorem objsTo_zero (os : List ObjD) : objsTo os 0 = 0 := by simp [objsTo]
theorem objsTo_succ (os : List ObjD) (k : Nat) (h : k < os.length) : objsTo os (k + 1) = objsTo os k + (os[k].key.size + versSize os[k].vers) := by
  unfold objsTo
  rw [List.take_succ_eq_append_getElem h, List.map_append, List.sum_append]
  simp
def mapSize (os : List ObjD) : Nat := os.length + objsTo os os.length

set_option maxHeartbeats 1000000 in
theorem szObjS_any (a : Option Addr) (os : List ObjD) (cap : Nat) (left : Int) (w : World) (hv : ObjsIn w a os) (hf : ∀ o ∈ os, o.fits) (hn : os.length ≤ maxLen) (h0 : 0 ≤ left) (hl : left ≤ 1048576) :
    Calls Try.prog 127 #[.slice a os.length cap, .int .i64 left] w (SzPost left (mapSize os) w) := by
  unfold maxLen at hn
  have HV := Lib.hid hv
  have HT := Lib.hid hf
  clear hv hf
  by_cases h : left < os.length
  · go_enter Try.func127, Try.ntmps127
    go_wp2_with fail
    go_ret
    exact ⟨-1, rfl, .inl rfl, Below.refl _ _⟩
  · go_enter Try.func127, Try.ntmps127
    go_wp2_with fail
    go_loopw [1, 5] (fun l i wr => ∃ (k : Nat) (z : Int), k ≤ os.length ∧ i = .int .i64 k ∧ l = .int .i64 z ∧ 0 ≤ z ∧ z + os.length + objsTo os k = left ∧ Below w.heap.size w wr) (fun _ i _ => os.length - (intOf i).toNat)
    case atStart => exact ⟨0, left - os.length, Nat.zero_le _, rfl, rfl, by omega, by rw [objsTo_zero]; omega, Below.refl _ _⟩
    case round =>
      obtain ⟨k, z, hk, rfl, rfl, hz0, hz, hB⟩ := hrel
      have HZ := Lib.hid hz
      have HB := Lib.hid hB
      clear hz hB
      by_cases hlt : k < os.length
      · rcases HV.out.below HB.out with hnil | ⟨b, off, rfl, hb, hc⟩
        · rw [hnil] at hlt; simp at hlt
        · obtain ⟨c0, c1, c2⟩ := hc k hlt
          have C2 := Lib.hid c2
          clear hc c2
          go_wp2_with fail
          with_reducible refine (szObj_any os[k] _ _ C2.out (HT.out _ (List.getElem_mem hlt)) hz0 (by have := HZ.out; omega)).mono ?_
          rintro e w2 ⟨z2, rfl, hz2, hb2⟩
          have HB2 := Lib.hid (HB.out.trans (hb2.mono HB.out.size))
          clear hb2
          rcases hz2 with rfl | ⟨hp, hsum⟩
          · go_wp2_with fail
            go_ret
            exact ⟨-1, rfl, .inl rfl, HB2.out⟩
          · have HS := Lib.hid hsum
            clear hsum
            go_wp2_with fail
            go_roundw
            case rel => exact ⟨k + 1, z2, by omega, by go_num, rfl, hp, by rw [objsTo_succ os k hlt]; have := HZ.out; have := HS.out; omega, HB2.out⟩
            case measure => simp [intOf]; omega
      · go_wp2_with fail
        go_ret
        obtain rfl : k = os.length := by omega
        exact ⟨z, rfl, .inr ⟨hz0, by unfold mapSize; have := HZ.out; omega⟩, HB.out⟩

set_option maxHeartbeats 1000000 in
theorem szVmap_any (a : Option Addr) (os : List ObjD) (cap : Nat) (left : Int) (w : World) (hv : ObjsIn w a os) (hf : ∀ o ∈ os, o.fits) (hn : os.length ≤ maxLen) (h0 : 0 ≤ left) (hl : left ≤ 1048576) :
    Calls Try.prog 63 #[.agg #[.slice a os.length cap], .int .i64 left] w (SzPost left (mapSize os) w) := by
  have HV := Lib.hid hv
  have HT := Lib.hid hf
  have HN := Lib.hid hn
  clear hv hf hn
  go_enter Try.func63, Try.ntmps63
  go_wp2_with fail
  with_reducible refine (szObjS_any _ _ _ _ _ ?hv HT.out HN.out h0 hl).mono ?_
  case hv => exact HV.out.below ((Below.refl _ _).alloc (Nat.le_refl _) _)
  rintro e w2 ⟨z2, rfl, hz2, hb2⟩
  have HB2 := Lib.hid (((Below.refl w.heap.size w).alloc (Nat.le_refl _) _).trans (hb2.mono (by simp)))
  clear hb2
  rcases hz2 with rfl | ⟨hp, hsum⟩
  · go_wp2_with fail
    go_ret
    exact ⟨-1, rfl, .inl rfl, HB2.out⟩
  · have HS := Lib.hid hsum
    clear hsum
    go_wp2_with fail
    go_ret
    exact ⟨z2, rfl, .inr ⟨hp, HS.out⟩, HB2.out⟩
end Go.Proofs.Ytjijichgoodocaa
