/- What is seen of a key, as the program finds it. -/
import Derived.Test.YtjijichgoodocaaUpTo
import Derived.Test.YtjijichgoodocaaPmapI
namespace Go.Proofs.Ytjijichgoodocaa
open Go.RowKit

def verRes : Option VerD → Value
  | none => .tuple #[.agg #[.int .i64 0, .string ⟨#[]⟩, .bool false], .bool false]
  | some v => .tuple #[.agg #[.int .i64 v.id, .string v.text, .bool v.gone], .bool true]
def objRes : Option ObjD → Value
  | none => .tuple #[.agg #[.string ⟨#[]⟩, .slice none 0 0], .bool false]
  | some o => .tuple #[.agg #[.string o.key, .slice o.at_ o.vers.length o.cap], .bool true]
def lastAt {α : Type} (xs : List α) (r : Nat) : Option α := if r = 0 then none else xs[r - 1]?
theorem lastAt_zero {α : Type} (xs : List α) : lastAt xs 0 = none := rfl
theorem lastAt_succ {α : Type} (xs : List α) (q : Nat) (h : q < xs.length) : lastAt xs (q + 1) = some xs[q] := by simp [lastAt, h]

def VerLatest (vs : List VerD) (id : Int) (w : World) (e : Ending) (w' : World) : Prop := ∃ r : Nat, Cut (verP vs id) vs.length r ∧ e = .returned (verRes (lastAt vs r)) ∧ Below w.heap.size w w'
def ObjLatest (os : List ObjD) (key : ByteArray) (w : World) (e : Ending) (w' : World) : Prop := ∃ r : Nat, Cut (objP os key) os.length r ∧ e = .returned (objRes (lastAt os r)) ∧ Below w.heap.size w w'

set_option maxHeartbeats 1000000 in
theorem verLatest_any (a : Option Addr) (vs : List VerD) (cap : Nat) (id : Int) (w : World) (hv : VersIn w a vs) (hn : vs.length ≤ 1048576) :
    Calls Try.prog 134 #[.slice a vs.length cap, .int .i64 id] w (VerLatest vs id w) := by
  have HV := Lib.hid hv
  clear hv
  go_enter Try.func134, Try.ntmps134
  go_wp2_with fail
  have hb0 : Below w.heap.size w (w.alloc (.cells #[.int .i64 0, .string ⟨#[]⟩, .bool false] 27)) := (Below.refl _ _).alloc (Nat.le_refl _) _
  refine (verUpTo_any a vs cap id _ (HV.out.below hb0) hn).mono ?_
  rintro e w2 ⟨r, rfl, hr, hb2⟩
  have c0 := hb2.cell (p := ⟨w.heap.size, 0, none⟩) (by simp)
  have c1 := hb2.cell (p := ⟨w.heap.size, 1, none⟩) (by simp)
  have c2 := hb2.cell (p := ⟨w.heap.size, 2, none⟩) (by simp)
  have f0 := hb2.frozen (p := ⟨w.heap.size, 0, none⟩) (by simp)
  have f1 := hb2.frozen (p := ⟨w.heap.size, 1, none⟩) (by simp)
  have f2 := hb2.frozen (p := ⟨w.heap.size, 2, none⟩) (by simp)
  simp [go_sem] at c0 c1 c2 f0 f1 f2
  have hs2 : w.heap.size < w2.heap.size := by have := hb2.size; simp at this; omega
  have HR := Lib.hid hr
  have B2 := Lib.hid (hb0.trans (hb2.mono (by simp)))
  clear hb0 hb2
  cases r with
  | zero =>
    clear hr
    go_wp2_with fail
    exact bodyPost_ret (v := verRes none) (by simp [results, Try.results134, go_sem, verRes, c0, c1, c2, hs2]) rfl ⟨0, HR.out, rfl, (((B2.out.setCell (p := ⟨w.heap.size, 0, none⟩) (Nat.le_refl _) _).setCell (p := ⟨w.heap.size, 1, none⟩) (Nat.le_refl _) _).setCell (p := ⟨w.heap.size, 2, none⟩) (Nat.le_refl _) _).alloc (by simp; omega) _⟩
  | succ q =>
    have hq : q < vs.length := by have := hr.1; omega
    clear hr
    rcases HV.out.below B2.out with hnil | ⟨b, off, rfl, hb, hc⟩
    · rw [hnil] at hq; simp at hq
    obtain ⟨d0, d1, d2⟩ := hc q hq
    clear hc
    have hwq : IntKind.i64.wrap (q : Int) = (q : Int) := by rw [IntKind.wrap_i64]; omega
    go_wp2_with fail
    exact bodyPost_ret (v := verRes (some vs[q])) (by simp [results, Try.results134, go_sem, verRes, c0, c1, c2]) rfl ⟨q + 1, HR.out, by rw [lastAt_succ vs q hq], ((B2.out.setCell (p := ⟨w.heap.size, 0, none⟩) (Nat.le_refl _) _).setCell (p := ⟨w.heap.size, 1, none⟩) (Nat.le_refl _) _).setCell (p := ⟨w.heap.size, 2, none⟩) (Nat.le_refl _) _⟩

set_option maxHeartbeats 1000000 in
theorem objLatest_any (a : Option Addr) (os : List ObjD) (cap : Nat) (key : ByteArray) (w : World) (hv : ObjsIn w a os) (hn : os.length ≤ 1048576) :
    Calls Try.prog 143 #[.slice a os.length cap, .string key] w (ObjLatest os key w) := by
  have HV := Lib.hid hv
  clear hv
  go_enter Try.func143, Try.ntmps143
  go_wp2_with fail
  have hb0 : Below w.heap.size w (w.alloc (.cells #[.string ⟨#[]⟩, .slice none 0 0] 45)) := (Below.refl _ _).alloc (Nat.le_refl _) _
  refine (objUpTo_any a os cap key _ (HV.out.below hb0) hn).mono ?_
  rintro e w2 ⟨r, rfl, hr, hb2⟩
  have c0 := hb2.cell (p := ⟨w.heap.size, 0, none⟩) (by simp)
  have c1 := hb2.cell (p := ⟨w.heap.size, 1, none⟩) (by simp)
  have f0 := hb2.frozen (p := ⟨w.heap.size, 0, none⟩) (by simp)
  have f1 := hb2.frozen (p := ⟨w.heap.size, 1, none⟩) (by simp)
  simp [go_sem] at c0 c1 f0 f1
  have hs2 : w.heap.size < w2.heap.size := by have := hb2.size; simp at this; omega
  have HR := Lib.hid hr
  have B2 := Lib.hid (hb0.trans (hb2.mono (by simp)))
  clear hb0 hb2
  cases r with
  | zero =>
    clear hr
    go_wp2_with fail
    exact bodyPost_ret (v := objRes none) (by simp [results, Try.results143, go_sem, objRes, c0, c1, hs2]) rfl ⟨0, HR.out, rfl, ((B2.out.setCell (p := ⟨w.heap.size, 0, none⟩) (Nat.le_refl _) _).setCell (p := ⟨w.heap.size, 1, none⟩) (Nat.le_refl _) _).alloc (by simp; omega) _⟩
  | succ q =>
    have hq : q < os.length := by have := hr.1; omega
    clear hr
    rcases HV.out.below B2.out with hnil | ⟨b, off, rfl, hb, hc⟩
    · rw [hnil] at hq; simp at hq
    obtain ⟨d0, d1, d2⟩ := hc q hq
    clear hc d2
    have hwq : IntKind.i64.wrap (q : Int) = (q : Int) := by rw [IntKind.wrap_i64]; omega
    go_wp2_with fail
    exact bodyPost_ret (v := objRes (some os[q])) (by simp [results, Try.results143, go_sem, objRes, c0, c1]) rfl ⟨q + 1, HR.out, by rw [lastAt_succ os q hq], (B2.out.setCell (p := ⟨w.heap.size, 0, none⟩) (Nat.le_refl _) _).setCell (p := ⟨w.heap.size, 1, none⟩) (Nat.le_refl _) _⟩

/-- What is seen of these versions as of r of them. -/
def seenAt (vs : List VerD) (r : Nat) : Option VerD := (lastAt vs r).bind fun v => if v.gone then none else some v
def VisPost (vs : List VerD) (id : Int) (w : World) (e : Ending) (w' : World) : Prop := ∃ r : Nat, Cut (verP vs id) vs.length r ∧ e = .returned (verRes (seenAt vs r)) ∧ Below w.heap.size w w'

set_option maxHeartbeats 1000000 in
theorem visible_any (s : ByteArray) (a : Option Addr) (vs : List VerD) (cap : Nat) (id : Int) (w : World) (hv : VersIn w a vs) (hn : vs.length ≤ 1048576) :
    Calls Try.prog 90 #[.agg #[.string s, .slice a vs.length cap], .int .i64 id] w (VisPost vs id w) := by
  have HV := Lib.hid hv
  clear hv
  go_enter Try.func90, Try.ntmps90
  go_wp2_with fail
  have hb0 : Below w.heap.size w ((w.alloc (.cells #[.string s, .slice a vs.length cap] 45)).alloc (.cells #[.int .i64 0, .string ⟨#[]⟩, .bool false] 27)) := ((Below.refl _ _).alloc (Nat.le_refl _) _).alloc (by simp) _
  refine (vers_is _ _ _ _ _).mono ?_
  rintro e w1 ⟨rfl, rfl⟩
  go_wp2_with fail
  refine (verLatest_any a vs cap id _ (HV.out.below (hb0.alloc (by simp; omega) _)) hn).mono ?_
  rintro e w2 ⟨r, hr, rfl, hb2⟩
  have c0 := hb2.cell (p := ⟨w.heap.size + 1, 0, none⟩) (by simp)
  have c1 := hb2.cell (p := ⟨w.heap.size + 1, 1, none⟩) (by simp)
  have c2 := hb2.cell (p := ⟨w.heap.size + 1, 2, none⟩) (by simp)
  have f0 := hb2.frozen (p := ⟨w.heap.size + 1, 0, none⟩) (by simp)
  have f1 := hb2.frozen (p := ⟨w.heap.size + 1, 1, none⟩) (by simp)
  have f2 := hb2.frozen (p := ⟨w.heap.size + 1, 2, none⟩) (by simp)
  simp [go_sem] at c0 c1 c2 f0 f1 f2
  have hs2 : w.heap.size + 1 < w2.heap.size := by have := hb2.size; simp at this; omega
  have HR := Lib.hid hr
  have B2 := Lib.hid ((hb0.alloc (by simp; omega) (.cells #[.string s, .slice a vs.length cap] 45)).trans (hb2.mono (by simp; omega)))
  clear hb0 hb2
  cases r with
  | zero =>
    clear hr
    rw [lastAt_zero, verRes]
    go_wp2_with fail
    exact bodyPost_ret (v := verRes none) (by simp [results, Try.results90, go_sem, verRes, c0, c1, c2, hs2]) rfl ⟨0, HR.out, rfl, (((B2.out.setCell (p := ⟨w.heap.size + 1, 0, none⟩) (by simp) _).setCell (p := ⟨w.heap.size + 1, 1, none⟩) (by simp) _).setCell (p := ⟨w.heap.size + 1, 2, none⟩) (by simp) _).alloc (by simp; omega) _⟩
  | succ q =>
    have hq : q < vs.length := by have := hr.1; omega
    clear hr
    rw [lastAt_succ vs q hq, verRes]
    cases hg : vs[q].gone
    · go_wp2_with fail
      exact bodyPost_ret (v := verRes (some vs[q])) (by simp [results, Try.results90, go_sem, verRes, c0, c1, c2, hs2, hg]) rfl ⟨q + 1, HR.out, by simp [seenAt, lastAt_succ vs q hq, hg], (((B2.out.setCell (p := ⟨w.heap.size + 1, 0, none⟩) (by simp) _).setCell (p := ⟨w.heap.size + 1, 1, none⟩) (by simp) _).setCell (p := ⟨w.heap.size + 1, 2, none⟩) (by simp) _).alloc (by simp; omega) _⟩
    · go_wp2_with fail
      exact bodyPost_ret (v := verRes none) (by simp [results, Try.results90, go_sem, verRes, c0, c1, c2, hs2]) rfl ⟨q + 1, HR.out, by simp [seenAt, lastAt_succ vs q hq, hg], (((B2.out.setCell (p := ⟨w.heap.size + 1, 0, none⟩) (by simp) _).setCell (p := ⟨w.heap.size + 1, 1, none⟩) (by simp) _).setCell (p := ⟨w.heap.size + 1, 2, none⟩) (by simp) _).alloc (by simp; omega) _⟩

/-- The object of that key, if r of them have at most that rank. -/
def foundAt (os : List ObjD) (key : ByteArray) (r : Nat) : Option ObjD := (lastAt os r).bind fun o => if o.key.toList == key.toList then some o else none
def GetPost (os : List ObjD) (key : ByteArray) (w : World) (e : Ending) (w' : World) : Prop := ∃ r : Nat, Cut (objP os key) os.length r ∧ e = .returned (objRes (foundAt os key r)) ∧ Below w.heap.size w w'

theorem found_no {os : List ObjD} {key : ByteArray} {q : Nat} (hq : q < os.length) (h : (os[q].key.toList == key.toList) = false) : foundAt os key (q + 1) = none := by
  rw [foundAt, lastAt_succ os q hq]; simp only [Option.bind_some]; rw [h]; rfl
theorem found_yes {os : List ObjD} {key : ByteArray} {q : Nat} (hq : q < os.length) (h : (os[q].key.toList == key.toList) = true) : foundAt os key (q + 1) = some os[q] := by
  rw [foundAt, lastAt_succ os q hq]; simp only [Option.bind_some]; rw [h]; rfl

set_option maxHeartbeats 1000000 in
theorem objGet_any (a : Option Addr) (os : List ObjD) (cap : Nat) (key : ByteArray) (w : World) (hv : ObjsIn w a os) (hn : os.length ≤ 1048576) :
    Calls Try.prog 89 #[.slice a os.length cap, .string key] w (GetPost os key w) := by
  have HV := Lib.hid hv
  clear hv
  go_enter Try.func89, Try.ntmps89
  go_wp2_with fail
  have hb0 : Below w.heap.size w (w.alloc (.cells #[.string ⟨#[]⟩, .slice none 0 0] 45)) := (Below.refl _ _).alloc (Nat.le_refl _) _
  refine (objLatest_any a os cap key _ (HV.out.below hb0) hn).mono ?_
  rintro e w2 ⟨r, hr, rfl, hb2⟩
  have c0 := hb2.cell (p := ⟨w.heap.size, 0, none⟩) (by simp)
  have c1 := hb2.cell (p := ⟨w.heap.size, 1, none⟩) (by simp)
  have f0 := hb2.frozen (p := ⟨w.heap.size, 0, none⟩) (by simp)
  have f1 := hb2.frozen (p := ⟨w.heap.size, 1, none⟩) (by simp)
  simp [go_sem] at c0 c1 f0 f1
  have hs2 : w.heap.size < w2.heap.size := by have := hb2.size; simp at this; omega
  have hs3 : w.heap.size < w2.heap.size + 1 := by omega
  have hs4 : w.heap.size < w2.heap.size + 1 + 1 := by omega
  have hs5 : w.heap.size < w2.heap.size + 1 + 1 + 1 := by omega
  have HR := Lib.hid hr
  have B2 := Lib.hid (hb0.trans (hb2.mono (by simp)))
  clear hb0 hb2
  cases r with
  | zero =>
    clear hr
    rw [lastAt_zero, objRes]
    go_wp2_with fail
    exact bodyPost_ret (v := objRes none) (by simp [results, Try.results89, go_sem, objRes, c0, c1, hs2, hs3, hs4, hs5]) rfl ⟨0, HR.out, rfl, (((B2.out.setCell (p := ⟨w.heap.size, 0, none⟩) (Nat.le_refl _) _).setCell (p := ⟨w.heap.size, 1, none⟩) (Nat.le_refl _) _).alloc (by simp; omega) _).alloc (by simp; omega) _⟩
  | succ q =>
    have hq : q < os.length := by have := hr.1; omega
    clear hr
    rw [lastAt_succ os q hq, objRes]
    have m1 := meth_rank_obj os[q].key os[q].at_ os[q].vers.length os[q].cap
    cases hk : (os[q].key.toList == key.toList)
    · have hk' : (os[q].key.toList != key.toList) = true := by rw [bne, hk]; rfl
      go_wp2_with (go_at_call 234; refine (objRank_is _ _ _ _ _).mono ?_; rintro e w3 ⟨rfl, rfl⟩)
      exact bodyPost_ret (v := objRes none) (by simp [results, Try.results89, go_sem, objRes, c0, c1, hs2, hs3, hs4, hs5]) rfl ⟨q + 1, HR.out, by rw [found_no hq hk], ((((B2.out.setCell (p := ⟨w.heap.size, 0, none⟩) (Nat.le_refl _) _).setCell (p := ⟨w.heap.size, 1, none⟩) (Nat.le_refl _) _).alloc (by simp; omega) _).alloc (by simp; omega) _).alloc (by simp; omega) _⟩
    · have hk' : (os[q].key.toList != key.toList) = false := by rw [bne, hk]; rfl
      go_wp2_with (go_at_call 234; refine (objRank_is _ _ _ _ _).mono ?_; rintro e w3 ⟨rfl, rfl⟩)
      exact bodyPost_ret (v := objRes (some os[q])) (by simp [results, Try.results89, go_sem, objRes, c0, c1, hs2, hs3, hs4, hs5]) rfl ⟨q + 1, HR.out, by rw [found_yes hq hk], (((B2.out.setCell (p := ⟨w.heap.size, 0, none⟩) (Nat.le_refl _) _).setCell (p := ⟨w.heap.size, 1, none⟩) (Nat.le_refl _) _).alloc (by simp; omega) _).alloc (by simp; omega) _⟩
end Go.Proofs.Ytjijichgoodocaa
