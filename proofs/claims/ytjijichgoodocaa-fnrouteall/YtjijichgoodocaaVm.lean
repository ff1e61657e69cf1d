/- Contracts of the functions that draw keys and spans: what they hand back are strings that fit; only the reader's own place moves on. -/
import Derived.Test.YtjijichgoodocaaDraw
import Derived.Lib.SmallJoins
import Derived.OpenShut
import Derived.WalkKit
import Derived.ProofKit
import Derived.ChangeSame
import Derived.Test.YtjijichgoodocaaRows
import Derived.WalkSpells
import Derived.WalkLawsBesides
import Derived.Lib.Hide
import Derived.Deep.RegionHeld3
import Derived.Deep.QuietTactic
import Derived.BigQuiet
import Derived.IntWalk
namespace Go.Proofs.Ytjijichgoodocaa
open Go.RowKit

def SomeStr (rb p : Nat) (w : World) (e : Ending) (w' : World) : Prop := ∃ s : ByteArray, s.size ≤ maxLen ∧ e = .returned (.string s) ∧ RdAt rb p w' ∧ Only rb w w'

set_option maxHeartbeats 1000000 in
theorem of_any (rb p lb L : Nat) (w : World) (h : RdAt rb p w) (hp : p < 1000000) (hne : lb ≠ rb) (hlb : lb < w.heap.size) (hL : 1 ≤ L) (hL2 : L ≤ 1000)
    (hc : ∀ i, i < L → ∃ s : ByteArray, w.cell? ⟨lb, i, none⟩ = some (.string s) ∧ s.size ≤ maxLen) :
    Calls Try.prog 132 #[.pointer (some ⟨rb, 0, none⟩), .slice (some ⟨lb, 0, none⟩) L L] w (SomeStr rb (p + 1) w) := by
  have HC := Lib.hid hc
  clear hc
  have H := Lib.hid h
  clear h
  go_enter Try.func132, Try.ntmps132
  go_wp2_with fail
  refine (pick_any rb p (L : Int) _ H.out hp (by omega) (by omega)).mono ?_
  rintro e w1 ⟨n, hn0, hn1, rfl, hr, ho⟩
  obtain ⟨k, rfl⟩ := Int.eq_ofNat_of_zero_le hn0
  obtain ⟨s, hs, hsz⟩ := HC.out k (by omega)
  have hs1 : w1.cell? ⟨lb, k, none⟩ = some (.string s) := (ho.cell (p := ⟨lb, k, none⟩) hlb hne).trans hs
  have hk : k < L := by omega
  have HR := Lib.hid hr
  have HO := Lib.hid ho
  clear hr ho hs
  go_wp2_with fail
  go_ret
  exact ⟨s, hsz, rfl, HR.out, HO.out⟩

def strsOk (l : List Value) : Bool := l.all fun v => match v with | .string s => decide (s.size ≤ 1000) | _ => false

theorem strs_at {l : List Value} (h : strsOk l = true) (i : Nat) (hi : i < l.length) : ∃ s : ByteArray, l[i]? = some (.string s) ∧ s.size ≤ maxLen := by
  unfold strsOk at h
  rw [List.all_eq_true] at h
  have hm := h l[i] (List.getElem_mem hi)
  have e : l[i]? = some l[i] := List.getElem?_eq_getElem hi
  split at hm
  · rename_i s hs
    refine ⟨s, by rw [e, hs], ?_⟩
    have : s.size ≤ 1000 := by simpa using hm
    unfold maxLen; omega
  · simp at hm

theorem ofNew_any (rb p L : Nat) (w : World) (g : Nat) (arr : Array Value) (hg : w.heap.size = g) (h : RdAt rb p w) (hp : p < 1000000) (hs : strsOk arr.toList = true) (hL : arr.size = L) (h1 : 1 ≤ L) (h2 : L ≤ 1000) :
    Calls Try.prog 132 #[.pointer (some ⟨rb, 0, none⟩), .slice (some ⟨g, 0, none⟩) L L] (w.alloc (.cells arr 9)) (SomeStr rb (p + 1) w) := by
  subst hg
  have hb : Below w.heap.size w (w.alloc (.cells arr 9)) := (Below.refl _ _).alloc (Nat.le_refl _) _
  refine (of_any rb p w.heap.size L _ (h.below hb) hp (by have := h.lt; omega) (by simp) h1 h2 fun i hi => ?_).mono ?_
  · obtain ⟨s, e, hz⟩ := strs_at hs i (by simpa [hL] using hi)
    refine ⟨s, ?_, hz⟩
    rw [World.cell?_alloc_new]
    simpa using e
  · rintro e w1 ⟨s, hz, rfl, hr, ho⟩
    exact ⟨s, hz, rfl, hr, (Only.of_below hb).trans ho⟩

set_option maxHeartbeats 1000000 in
theorem l20Key_any (rb p : Nat) (w : World) (h : RdAt rb p w) (hp : p < 1000000) :
    Calls Try.prog 100 #[.pointer (some ⟨rb, 0, none⟩)] w (SomeStr rb (p + 1) w) := by
  have H := Lib.hid h
  clear h
  go_enter Try.func100, Try.ntmps100
  go_wp2_with fail
  with_reducible refine (ofNew_any rb p 12 w _ _ rfl H.out hp ?hs ?hL (by omega) (by omega)).mono ?_
  case hs => rfl
  case hL => rfl
  rintro e w1 ⟨s, hsz, rfl, hr, ho⟩
  have HR := Lib.hid hr
  have HO := Lib.hid ho
  clear hr ho
  go_wp2_with fail
  go_ret
  exact ⟨s, hsz, rfl, HR.out, HO.out⟩

def SomeStr2 (rb p : Nat) (w : World) (e : Ending) (w' : World) : Prop := ∃ (s : ByteArray) (q : Nat), q ≤ p ∧ s.size ≤ maxLen ∧ e = .returned (.string s) ∧ RdAt rb q w' ∧ Only rb w w'

set_option maxHeartbeats 1000000 in
theorem l20AnyKey_any (rb p : Nat) (w : World) (h : RdAt rb p w) (hp : p < 100000) :
    Calls Try.prog 72 #[.pointer (some ⟨rb, 0, none⟩)] w (SomeStr2 rb (p + 2) w) := by
  have H := Lib.hid h
  clear h
  go_enter Try.func72, Try.ntmps72
  go_wp2_with fail
  refine (pick_any rb p 10 _ H.out (by omega) (by omega) (by omega)).mono ?_
  rintro e w1 ⟨n, hn0, hn1, rfl, hr, ho⟩
  have HR := Lib.hid hr
  have HO := Lib.hid ho
  clear hr ho
  by_cases hz : n = 0
  · subst hz
    go_wp2_with fail
    with_reducible refine (ofNew_any rb (p + 1) 5 w1 _ _ rfl HR.out (by omega) ?hs ?hL (by omega) (by omega)).mono ?_
    case hs => rfl
    case hL => rfl
    rintro e w2 ⟨s, hsz, rfl, hr2, ho2⟩
    have HR2 := Lib.hid hr2
    have HO2 := Lib.hid ho2
    clear hr2 ho2
    go_wp2_with fail
    go_ret
    exact ⟨s, p + 1 + 1, by omega, hsz, rfl, HR2.out, HO.out.trans HO2.out⟩
  · have hb : (n == 0) = false := by simpa using hz
    go_wp2_with fail
    refine (l20Key_any rb (p + 1) _ HR.out (by omega)).mono ?_
    rintro e w2 ⟨s, hsz, rfl, hr2, ho2⟩
    have HR2 := Lib.hid hr2
    have HO2 := Lib.hid ho2
    clear hr2 ho2
    go_wp2_with fail
    go_ret
    exact ⟨s, p + 1 + 1, by omega, hsz, rfl, HR2.out, HO.out.trans HO2.out⟩

def SomeSpan (rb p : Nat) (w : World) (e : Ending) (w' : World) : Prop := ∃ (lo hi : ByteArray) (q : Nat), q ≤ p ∧ lo.size ≤ maxLen ∧ hi.size ≤ maxLen ∧ e = .returned (.agg #[.string lo, .string hi]) ∧ RdAt rb q w' ∧ Only rb w w'

set_option maxHeartbeats 1000000 in
theorem l20Span_any (rb p : Nat) (w : World) (h : RdAt rb p w) (hp : p < 100000) :
    Calls Try.prog 144 #[.pointer (some ⟨rb, 0, none⟩)] w (SomeSpan rb (p + 2) w) := by
  have hlt := h.lt
  have H := Lib.hid h
  clear h
  go_enter Try.func144, Try.ntmps144
  go_wp2_with fail
  with_reducible refine (ofNew_any rb p 6 _ _ _ ?hg ?hr (by omega) ?hs ?hL (by omega) (by omega)).mono ?_
  case hg => simp
  case hr => exact H.out.alloc _
  case hs => rfl
  case hL => rfl
  rintro e w1 ⟨lo, hlo, rfl, hr, ho⟩
  have c0 : w1.cell? ⟨w.heap.size, 0, none⟩ = some (.string ⟨#[]⟩) := by rw [ho.cell (p := ⟨w.heap.size, 0, none⟩) (by simp) (Nat.ne_of_gt hlt)]; simp
  have c1 : w1.cell? ⟨w.heap.size, 1, none⟩ = some (.string ⟨#[]⟩) := by rw [ho.cell (p := ⟨w.heap.size, 1, none⟩) (by simp) (Nat.ne_of_gt hlt)]; simp
  have f0 : w1.frozen? ⟨w.heap.size, 0, none⟩ = false := by rw [ho.frozen (p := ⟨w.heap.size, 0, none⟩) (by simp) (Nat.ne_of_gt hlt)]; simp
  have f1 : w1.frozen? ⟨w.heap.size, 1, none⟩ = false := by rw [ho.frozen (p := ⟨w.heap.size, 1, none⟩) (by simp) (Nat.ne_of_gt hlt)]; simp
  have z1 : w.heap.size < w1.heap.size := by have := ho.size; simp at this; omega
  have HR := Lib.hid hr
  have HO := Lib.hid (((Only.refl rb w).alloc _).trans ho)
  clear hr ho H
  go_wp2_with fail
  with_reducible refine (ofNew_any rb (p + 1) 6 w1 _ _ rfl HR.out (by omega) ?hs2 ?hL2 (by omega) (by omega)).mono ?_
  case hs2 => rfl
  case hL2 => rfl
  rintro e w2 ⟨hi, hhi, rfl, hr, ho⟩
  have d0 : w2.cell? ⟨w.heap.size, 0, none⟩ = some (.string ⟨#[]⟩) := by rw [ho.cell (p := ⟨w.heap.size, 0, none⟩) z1 (Nat.ne_of_gt hlt), c0]
  have d1 : w2.cell? ⟨w.heap.size, 1, none⟩ = some (.string ⟨#[]⟩) := by rw [ho.cell (p := ⟨w.heap.size, 1, none⟩) z1 (Nat.ne_of_gt hlt), c1]
  have e0 : w2.frozen? ⟨w.heap.size, 0, none⟩ = false := by rw [ho.frozen (p := ⟨w.heap.size, 0, none⟩) z1 (Nat.ne_of_gt hlt), f0]
  have e1 : w2.frozen? ⟨w.heap.size, 1, none⟩ = false := by rw [ho.frozen (p := ⟨w.heap.size, 1, none⟩) z1 (Nat.ne_of_gt hlt), f1]
  have HR2 := Lib.hid hr
  have HO2 := Lib.hid (HO.out.trans ho)
  clear hr ho HR HO c0 c1 f0 f1
  have hsz : (⟨#[]⟩ : ByteArray).size ≤ maxLen := by unfold maxLen; exact Nat.zero_le _
  cases h3 : hi.toList.isEmpty
  · cases h4 : (Op.bytesLess hi.toList lo.toList || hi.toList == lo.toList)
    · go_wp2_with fail
      refine bodyPost_ret (v := .agg #[.string lo, .string hi]) (by simp [results, Try.results144, go_sem, d0, d1]) rfl ⟨lo, hi, p + 1 + 1, by omega, hlo, hhi, rfl, ?_, ?_⟩
      · exact (HR2.out.setNew (a := ⟨w.heap.size, 0, none⟩) hlt _).setNew (a := ⟨w.heap.size, 1, none⟩) hlt _
      · exact (HO2.out.setNew (p := ⟨w.heap.size, 0, none⟩) (Nat.le_refl _) _).setNew (p := ⟨w.heap.size, 1, none⟩) (Nat.le_refl _) _
    · go_wp2_with fail
      refine bodyPost_ret (v := .agg #[.string lo, .string ⟨#[]⟩]) (by simp [results, Try.results144, go_sem, d0, d1]) rfl ⟨lo, ⟨#[]⟩, p + 1 + 1, by omega, hlo, hsz, rfl, ?_, ?_⟩
      · exact (HR2.out.setNew (a := ⟨w.heap.size, 0, none⟩) hlt _).setNew (a := ⟨w.heap.size, 1, none⟩) hlt _
      · exact (HO2.out.setNew (p := ⟨w.heap.size, 0, none⟩) (Nat.le_refl _) _).setNew (p := ⟨w.heap.size, 1, none⟩) (Nat.le_refl _) _
  · go_wp2_with fail
    refine bodyPost_ret (v := .agg #[.string lo, .string hi]) (by simp [results, Try.results144, go_sem, d0, d1]) rfl ⟨lo, hi, p + 1 + 1, by omega, hlo, hhi, rfl, ?_, ?_⟩
    · exact (HR2.out.setNew (a := ⟨w.heap.size, 0, none⟩) hlt _).setNew (a := ⟨w.heap.size, 1, none⟩) hlt _
    · exact (HO2.out.setNew (p := ⟨w.heap.size, 0, none⟩) (Nat.le_refl _) _).setNew (p := ⟨w.heap.size, 1, none⟩) (Nat.le_refl _) _
end Go.Proofs.Ytjijichgoodocaa

/- The reader is opened on a code. -/
namespace Go.Proofs.Ytjijichgoodocaa
open Go.RowKit

/-- The bytes of a code: none, or a row of cells that were there. -/
def BytesIn (w : World) (a : Option Addr) (len cap : Nat) : Prop :=
  len ≤ cap ∧ cap ≤ maxLen ∧ (len = 0 ∨ ∃ (b off : Nat) (zs : List Int), a = some ⟨b, off, none⟩ ∧ b < w.heap.size ∧ ∀ i, i < len → w.cell? ⟨b, off + i, none⟩ = some (.int .u8 (zs.getD i 0)) ∧ 0 ≤ zs.getD i 0 ∧ zs.getD i 0 ≤ 255)

def Opened (rb : Nat) (w : World) (e : Ending) (w' : World) : Prop := e = .returned (.pointer (some ⟨rb, 0, none⟩)) ∧ RdAt rb 0 w' ∧ Below w.heap.size w w'

theorem opened_mk {w : World} {b off len cap : Nat} {zs : List Int} {t : TypeId} (hb : b < w.heap.size) (hl : len ≤ 2000) (hc : ∀ i, i < len → w.cell? ⟨b, off + i, none⟩ = some (.int .u8 (zs.getD i 0)) ∧ 0 ≤ zs.getD i 0 ∧ zs.getD i 0 ≤ 255) :
    RdAt w.heap.size 0 (w.alloc (.cells #[.slice (some ⟨b, off, none⟩) len cap, .int .i64 0] t)) := by
  refine ⟨some ⟨b, off, none⟩, len, cap, zs, by simp, by simp, by simp, by simp, hl, .inr ⟨b, off, rfl, hb, fun i hi => ?_⟩⟩
  have hw : Below w.heap.size w (w.alloc (.cells #[.slice (some ⟨b, off, none⟩) len cap, .int .i64 0] t)) := (Below.refl _ _).alloc (Nat.le_refl _) _
  rw [hw.cell (p := ⟨b, off + i, none⟩) hb]
  exact hc i hi
theorem opened_mk0 {w : World} {a : Option Addr} {cap : Nat} {t : TypeId} : RdAt w.heap.size 0 (w.alloc (.cells #[.slice a 0 cap, .int .i64 0] t)) :=
  ⟨a, 0, cap, [], by simp, by simp, by simp, by simp, by omega, .inl rfl⟩

set_option maxHeartbeats 1000000 in
theorem l20Open_any (a : Option Addr) (len cap rb : Nat) (w : World) (hrb : w.heap.size = rb) (h : BytesIn w a len cap) :
    Calls Try.prog 70 #[.slice a len cap] w (Opened rb w) := by
  subst hrb
  obtain ⟨hlc, hcm, h⟩ := h
  unfold maxLen at hcm
  rcases h with rfl | ⟨b, off, zs, rfl, hb, hc⟩
  · go_enter Try.func70, Try.ntmps70
    go_wp2
    go_ret
    exact ⟨rfl, opened_mk0, (Below.refl _ _).alloc (Nat.le_refl _) _⟩
  · have HC := Lib.hid hc
    clear hc
    by_cases hl : 2000 < len
    · have h2 : (2000 : Int) ≤ (cap : Int) := by omega
      go_enter Try.func70, Try.ntmps70
      go_wp2
      go_ret
      exact ⟨rfl, opened_mk hb (by omega) (fun i hi => HC.out i (by omega)), (Below.refl _ _).alloc (Nat.le_refl _) _⟩
    · go_enter Try.func70, Try.ntmps70
      go_wp2
      go_ret
      exact ⟨rfl, opened_mk hb (by omega) HC.out, (Below.refl _ _).alloc (Nat.le_refl _) _⟩

theorem BytesIn.below {w w' : World} {a : Option Addr} {len cap : Nat} (h : BytesIn w a len cap) (hb : Below w.heap.size w w') : BytesIn w' a len cap := by
  obtain ⟨h1, h2, h3⟩ := h
  refine ⟨h1, h2, ?_⟩
  rcases h3 with h3 | ⟨b, off, zs, e, hlt, hc⟩
  · exact .inl h3
  · refine .inr ⟨b, off, zs, e, Nat.lt_of_lt_of_le hlt hb.size, fun i hi => ?_⟩
    rw [hb.cell (p := ⟨b, off + i, none⟩) hlt]
    exact hc i hi
theorem BytesIn.alloc {w : World} {a : Option Addr} {len cap : Nat} (h : BytesIn w a len cap) (o : Obj) : BytesIn (w.alloc o) a len cap := h.below ((Below.refl _ _).alloc (Nat.le_refl _) _)

end Go.Proofs.Ytjijichgoodocaa

/- What a slice of bytes that came in is to the walk of a law. -/
namespace Go.Proofs.Ytjijichgoodocaa
open Go.ChangeShapes Go.WideShapes Go.ChangeAt Go.RowKit Go.Joins

theorem bytesIn_of {w : World} {a : Option Addr} {len cap : Nat} {zs : List Int}
    (h : (a = none ∧ len = 0 ∧ cap = 0 ∧ zs = []) ∨ ∃ x, a = some x ∧ len ≤ cap ∧ cap ≤ maxLen ∧ zs.length = cap ∧ (∀ i, i < zs.length → w.cell? (x.add i) = some (.int .u8 (zs.getD i 0))) ∧ ∀ n ∈ zs, (Lit.int .u8 n).wf = true) :
    BytesIn w a len cap := by
  rcases h with ⟨rfl, rfl, rfl, rfl⟩ | ⟨x, rfl, hl, hc, hz, hcell, hw⟩
  · exact ⟨Nat.le_refl _, Nat.zero_le _, .inl rfl⟩
  · refine ⟨hl, hc, ?_⟩
    by_cases h0 : len = 0
    · exact .inl h0
    · obtain ⟨b, off, rfl, hb⟩ := ints_at hcell (by omega)
      have hlt := World.block_lt_of_cell? w _ (hb 0 (by omega))
      refine .inr ⟨b, off, zs, rfl, hlt, fun i hi => ⟨hb i (by omega), ?_⟩⟩
      have := range_u8 hw i
      simpa using this
end Go.Proofs.Ytjijichgoodocaa

/- How versions and objects lie in memory; the sizes that the laws reckon of them. -/
namespace Go.Proofs.Ytjijichgoodocaa
open Go.RowKit

structure VerD where
  id : Int
  text : ByteArray
  gone : Bool

def VerD.val (v : VerD) : Value := .agg #[.int .i64 v.id, .string v.text, .bool v.gone]

/-- A slice of versions, as it reads in u. -/
def VersIn (u : World) (a : Option Addr) (vs : List VerD) : Prop :=
  vs = [] ∨ ∃ b off, a = some ⟨b, off, none⟩ ∧ b < u.heap.size ∧ ∀ i (h : i < vs.length), u.cell? ⟨b, off + i * 3, none⟩ = some (.int .i64 vs[i].id) ∧ u.cell? ⟨b, off + i * 3 + 1, none⟩ = some (.string vs[i].text) ∧ u.cell? ⟨b, off + i * 3 + 2, none⟩ = some (.bool vs[i].gone)

theorem VersIn.below {u v : World} {a : Option Addr} {vs : List VerD} (h : VersIn u a vs) (hb : Below u.heap.size u v) : VersIn v a vs := by
  rcases h with h | ⟨b, off, e, hlt, hc⟩
  · exact .inl h
  · refine .inr ⟨b, off, e, Nat.lt_of_lt_of_le hlt hb.size, fun i hi => ?_⟩
    rw [hb.cell (p := ⟨b, off + i * 3, none⟩) hlt, hb.cell (p := ⟨b, off + i * 3 + 1, none⟩) hlt, hb.cell (p := ⟨b, off + i * 3 + 2, none⟩) hlt]
    exact hc i hi

/-- What a size function hands back: -1, or what is left. -/
def SzPost (left : Int) (total : Nat) (w : World) (e : Ending) (w' : World) : Prop :=
  ∃ z : Int, e = .returned (.int .i64 z) ∧ (z = -1 ∨ 0 ≤ z ∧ z + total = left) ∧ Below w.heap.size w w'

set_option maxHeartbeats 400000 in
theorem szVer_any (i : Int) (s : ByteArray) (g : Bool) (left : Int) (w : World) (hs : s.size ≤ maxLen) (h0 : 0 ≤ left) (hl : left ≤ 1048576) :
    Calls Try.prog 64 #[.agg #[.int .i64 i, .string s, .bool g], .int .i64 left] w (SzPost left s.size w) := by
  unfold maxLen at hs
  by_cases h : left < s.size
  · go_enter Try.func64, Try.ntmps64
    go_wp2
    go_ret
    exact ⟨-1, rfl, .inl rfl, (Below.refl _ _).alloc (Nat.le_refl _) _⟩
  · go_enter Try.func64, Try.ntmps64
    go_wp2
    go_ret
    exact ⟨left - s.size, rfl, .inr ⟨by omega, by omega⟩, (Below.refl _ _).alloc (Nat.le_refl _) _⟩

def textsTo (vs : List VerD) (k : Nat) : Nat := ((vs.take k).map fun v => v.text.size).sum
theorem textsTo_zero (vs : List VerD) : textsTo vs 0 = 0 := by simp [textsTo]
theorem textsTo_succ (vs : List VerD) (k : Nat) (h : k < vs.length) : textsTo vs (k + 1) = textsTo vs k + vs[k].text.size := by
  unfold textsTo
  rw [List.take_succ_eq_append_getElem h, List.map_append, List.sum_append]
  simp
def versSize (vs : List VerD) : Nat := vs.length + textsTo vs vs.length

set_option maxHeartbeats 1000000 in
theorem szVerS_any (a : Option Addr) (vs : List VerD) (cap : Nat) (left : Int) (w : World) (hv : VersIn w a vs) (ht : ∀ v ∈ vs, v.text.size ≤ maxLen) (hn : vs.length ≤ maxLen) (h0 : 0 ≤ left) (hl : left ≤ 1048576) :
    Calls Try.prog 190 #[.slice a vs.length cap, .int .i64 left] w (SzPost left (versSize vs) w) := by
  unfold maxLen at hn
  have HV := Lib.hid hv
  have HT := Lib.hid ht
  clear hv ht
  by_cases h : left < vs.length
  · go_enter Try.func190, Try.ntmps190
    go_wp2_with fail
    go_ret
    exact ⟨-1, rfl, .inl rfl, Below.refl _ _⟩
  · go_enter Try.func190, Try.ntmps190
    go_wp2_with fail
    go_loopw [1, 5] (fun l i wr => ∃ (k : Nat) (z : Int), k ≤ vs.length ∧ i = .int .i64 k ∧ l = .int .i64 z ∧ 0 ≤ z ∧ z + vs.length + textsTo vs k = left ∧ Below w.heap.size w wr) (fun _ i _ => vs.length - (intOf i).toNat)
    case atStart => exact ⟨0, left - vs.length, Nat.zero_le _, rfl, rfl, by omega, by rw [textsTo_zero]; omega, Below.refl _ _⟩
    case round =>
      obtain ⟨k, z, hk, rfl, rfl, hz0, hz, hB⟩ := hrel
      have HZ := Lib.hid hz
      have HB := Lib.hid hB
      clear hz hB
      by_cases hlt : k < vs.length
      · rcases HV.out.below HB.out with hnil | ⟨b, off, rfl, hb, hc⟩
        · rw [hnil] at hlt; simp at hlt
        · obtain ⟨c0, c1, c2⟩ := hc k hlt
          clear hc
          go_wp2_with fail
          with_reducible refine (szVer_any _ _ _ _ _ (HT.out _ (List.getElem_mem hlt)) hz0 (by have := HZ.out; omega)).mono ?_
          rintro e w2 ⟨z2, rfl, hz2, hb2⟩
          have HB2 := Lib.hid (HB.out.trans (hb2.mono HB.out.size))
          clear hb2
          rcases hz2 with rfl | ⟨hp, hsum⟩
          · go_wp2_with fail
            go_ret
            exact ⟨-1, rfl, .inl rfl, HB2.out⟩
          · have HS := Lib.hid hsum
            clear hsum
            go_wp2_with fail
            go_roundw
            case rel => exact ⟨k + 1, z2, by omega, by go_num, rfl, hp, by rw [textsTo_succ vs k hlt]; have := HZ.out; have := HS.out; omega, HB2.out⟩
            case measure => simp [intOf]; omega
      · go_wp2_with fail
        go_ret
        obtain rfl : k = vs.length := by omega
        exact ⟨z, rfl, .inr ⟨hz0, by unfold versSize; have := HZ.out; omega⟩, HB.out⟩

structure ObjD where
  key : ByteArray
  at_ : Option Addr
  cap : Nat
  vers : List VerD

/-- A slice of objects, as it reads in u. -/
def ObjsIn (u : World) (a : Option Addr) (os : List ObjD) : Prop :=
  os = [] ∨ ∃ b off, a = some ⟨b, off, none⟩ ∧ b < u.heap.size ∧ ∀ i (h : i < os.length), u.cell? ⟨b, off + i * 2, none⟩ = some (.string os[i].key) ∧ u.cell? ⟨b, off + i * 2 + 1, none⟩ = some (.slice os[i].at_ os[i].vers.length os[i].cap) ∧ VersIn u os[i].at_ os[i].vers

theorem ObjsIn.below {u v : World} {a : Option Addr} {os : List ObjD} (h : ObjsIn u a os) (hb : Below u.heap.size u v) : ObjsIn v a os := by
  rcases h with h | ⟨b, off, e, hlt, hc⟩
  · exact .inl h
  · refine .inr ⟨b, off, e, Nat.lt_of_lt_of_le hlt hb.size, fun i hi => ?_⟩
    obtain ⟨c0, c1, c2⟩ := hc i hi
    rw [hb.cell (p := ⟨b, off + i * 2, none⟩) hlt, hb.cell (p := ⟨b, off + i * 2 + 1, none⟩) hlt]
    exact ⟨c0, c1, c2.below hb⟩

/-- What fits of an object, whatever it holds. -/
def ObjD.fits (o : ObjD) : Prop := o.key.size ≤ maxLen ∧ o.vers.length ≤ maxLen ∧ ∀ v ∈ o.vers, v.text.size ≤ maxLen

set_option maxHeartbeats 1000000 in
theorem szObj_any (o : ObjD) (left : Int) (w : World) (hv : VersIn w o.at_ o.vers) (hf : o.fits) (h0 : 0 ≤ left) (hl : left ≤ 1048576) :
    Calls Try.prog 169 #[.agg #[.string o.key, .slice o.at_ o.vers.length o.cap], .int .i64 left] w (SzPost left (o.key.size + versSize o.vers) w) := by
  obtain ⟨hk, hn, ht⟩ := hf
  have HV := Lib.hid hv
  have HT := Lib.hid ht
  have HN := Lib.hid hn
  clear hv ht hn
  unfold maxLen at hk
  by_cases h : left < o.key.size
  · go_enter Try.func169, Try.ntmps169
    go_wp2_with fail
    go_ret
    exact ⟨-1, rfl, .inl rfl, (Below.refl _ _).alloc (Nat.le_refl _) _⟩
  · go_enter Try.func169, Try.ntmps169
    go_wp2_with fail
    with_reducible refine (szVerS_any _ _ _ _ _ ?hv HT.out HN.out (by omega) (by omega)).mono ?_
    case hv => exact HV.out.below ((Below.refl _ _).alloc (Nat.le_refl _) _)
    rintro e w2 ⟨z2, rfl, hz2, hb2⟩
    have HB2 := Lib.hid (((Below.refl w.heap.size w).alloc (Nat.le_refl _) _).trans (hb2.mono (by simp)))
    clear hb2
    rcases hz2 with rfl | ⟨hp, hsum⟩
    · go_wp2_with fail
      go_ret
      exact ⟨-1, rfl, .inl rfl, HB2.out⟩
    · have HS := Lib.hid hsum
      clear hsum
      go_wp2_with fail
      go_ret
      exact ⟨z2, rfl, .inr ⟨hp, by have := HS.out; omega⟩, HB2.out⟩

def objsTo (os : List ObjD) (k : Nat) : Nat := ((os.take k).map fun o => o.key.size + versSize o.vers).sum
theorem objsTo_zero (os : List ObjD) : objsTo os 0 = 0 := by simp [objsTo]
theorem objsTo_succ (os : List ObjD) (k : Nat) (h : k < os.length) : objsTo os (k + 1) = objsTo os k + (os[k].key.size + versSize os[k].vers) := by
  unfold objsTo
  rw [List.take_succ_eq_append_getElem h, List.map_append, List.sum_append]
  simp
def mapSize (os : List ObjD) : Nat := os.length + objsTo os os.length

set_option maxHeartbeats 1000000 in
theorem szObjS_any (a : Option Addr) (os : List ObjD) (cap : Nat) (left : Int) (w : World) (hv : ObjsIn w a os) (hf : ∀ o ∈ os, o.fits) (hn : os.length ≤ maxLen) (h0 : 0 ≤ left) (hl : left ≤ 1048576) :
    Calls Try.prog 127 #[.slice a os.length cap, .int .i64 left] w (SzPost left (mapSize os) w) := by
  unfold maxLen at hn
  have HV := Lib.hid hv
  have HT := Lib.hid hf
  clear hv hf
  by_cases h : left < os.length
  · go_enter Try.func127, Try.ntmps127
    go_wp2_with fail
    go_ret
    exact ⟨-1, rfl, .inl rfl, Below.refl _ _⟩
  · go_enter Try.func127, Try.ntmps127
    go_wp2_with fail
    go_loopw [1, 5] (fun l i wr => ∃ (k : Nat) (z : Int), k ≤ os.length ∧ i = .int .i64 k ∧ l = .int .i64 z ∧ 0 ≤ z ∧ z + os.length + objsTo os k = left ∧ Below w.heap.size w wr) (fun _ i _ => os.length - (intOf i).toNat)
    case atStart => exact ⟨0, left - os.length, Nat.zero_le _, rfl, rfl, by omega, by rw [objsTo_zero]; omega, Below.refl _ _⟩
    case round =>
      obtain ⟨k, z, hk, rfl, rfl, hz0, hz, hB⟩ := hrel
      have HZ := Lib.hid hz
      have HB := Lib.hid hB
      clear hz hB
      by_cases hlt : k < os.length
      · rcases HV.out.below HB.out with hnil | ⟨b, off, rfl, hb, hc⟩
        · rw [hnil] at hlt; simp at hlt
        · obtain ⟨c0, c1, c2⟩ := hc k hlt
          have C2 := Lib.hid c2
          clear hc c2
          go_wp2_with fail
          with_reducible refine (szObj_any os[k] _ _ C2.out (HT.out _ (List.getElem_mem hlt)) hz0 (by have := HZ.out; omega)).mono ?_
          rintro e w2 ⟨z2, rfl, hz2, hb2⟩
          have HB2 := Lib.hid (HB.out.trans (hb2.mono HB.out.size))
          clear hb2
          rcases hz2 with rfl | ⟨hp, hsum⟩
          · go_wp2_with fail
            go_ret
            exact ⟨-1, rfl, .inl rfl, HB2.out⟩
          · have HS := Lib.hid hsum
            clear hsum
            go_wp2_with fail
            go_roundw
            case rel => exact ⟨k + 1, z2, by omega, by go_num, rfl, hp, by rw [objsTo_succ os k hlt]; have := HZ.out; have := HS.out; omega, HB2.out⟩
            case measure => simp [intOf]; omega
      · go_wp2_with fail
        go_ret
        obtain rfl : k = os.length := by omega
        exact ⟨z, rfl, .inr ⟨hz0, by unfold mapSize; have := HZ.out; omega⟩, HB.out⟩

set_option maxHeartbeats 1000000 in
theorem szVmap_any (a : Option Addr) (os : List ObjD) (cap : Nat) (left : Int) (w : World) (hv : ObjsIn w a os) (hf : ∀ o ∈ os, o.fits) (hn : os.length ≤ maxLen) (h0 : 0 ≤ left) (hl : left ≤ 1048576) :
    Calls Try.prog 63 #[.agg #[.slice a os.length cap], .int .i64 left] w (SzPost left (mapSize os) w) := by
  have HV := Lib.hid hv
  have HT := Lib.hid hf
  have HN := Lib.hid hn
  clear hv hf hn
  go_enter Try.func63, Try.ntmps63
  go_wp2_with fail
  with_reducible refine (szObjS_any _ _ _ _ _ ?hv HT.out HN.out h0 hl).mono ?_
  case hv => exact HV.out.below ((Below.refl _ _).alloc (Nat.le_refl _) _)
  rintro e w2 ⟨z2, rfl, hz2, hb2⟩
  have HB2 := Lib.hid (((Below.refl w.heap.size w).alloc (Nat.le_refl _) _).trans (hb2.mono (by simp)))
  clear hb2
  rcases hz2 with rfl | ⟨hp, hsum⟩
  · go_wp2_with fail
    go_ret
    exact ⟨-1, rfl, .inl rfl, HB2.out⟩
  · have HS := Lib.hid hsum
    clear hsum
    go_wp2_with fail
    go_ret
    exact ⟨z2, rfl, .inr ⟨hp, HS.out⟩, HB2.out⟩
end Go.Proofs.Ytjijichgoodocaa
