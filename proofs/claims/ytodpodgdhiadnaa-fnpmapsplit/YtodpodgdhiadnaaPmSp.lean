/- How many rows have at most that rank, and the row of that rank, as the program finds them. -/
import Derived.Test.YtodpodgdhiadnaaAt
import Derived.Test.YtodpodgdhiadnaaRowOrd
import Derived.Test.YtodpodgdhiadnaaPmCpS
namespace Go.Proofs.Ytodpodgdhiadnaa
open Go.RowKit

def rowP (os : List RowD) (key : ByteArray) (i : Nat) : Bool := if h : i < os.length then Op.bytesLess key.toList os[i].f0.toList else true
theorem rowP_at {os : List RowD} {key : ByteArray} {i : Nat} (h : i < os.length) : rowP os key i = Op.bytesLess key.toList os[i].f0.toList := by simp [rowP, h]

set_option maxHeartbeats 1000000 in
theorem searchRow_any (x y : Value) (p : Nat → Bool) (n : Nat) (w : World) (hn : n ≤ 1048576) (hf : Says 243 x y p n w) :
    Calls Try.prog 242 #[.int .i64 (n : Int), .func (.func 243) #[] #[x, y]] w (CutPost p n w) := by
  have HF := Lib.hid hf
  clear hf
  go_enter Try.func242, Try.ntmps242
  go_wp2_with fail
  go_loopw [5, 6] (fun a b wr => ∃ i j : Nat, i ≤ j ∧ j ≤ n ∧ a = .int .i64 i ∧ b = .int .i64 j ∧ (∀ k, k + 1 = i → p k = false) ∧ (j < n → p j = true) ∧ Below w.heap.size w wr) (fun a b _ => (intOf b).toNat - (intOf a).toNat)
  case atStart => exact ⟨0, n, Nat.zero_le _, Nat.le_refl _, rfl, rfl, fun k e => by omega, fun h => absurd h (by omega), Below.refl _ _⟩
  case round =>
    obtain ⟨i, j, hij, hj, rfl, rfl, h0, h1, hB⟩ := hrel
    have H0 := Lib.hid h0
    have H1 := Lib.hid h1
    have HB := Lib.hid hB
    clear h0 h1 hB
    by_cases hlt : i < j
    · go_wp2_with fail
      have e : ((i : Int) + (j : Int)) / 2 = (((i + j) / 2 : Nat) : Int) := by omega
      rw [e]
      clear e
      have hm1 : i ≤ (i + j) / 2 := by omega
      have hm2 : (i + j) / 2 < j := by omega
      generalize (i + j) / 2 = m at *
      refine (HF.out m (by omega) _ HB.out).mono ?_
      rintro e w2 ⟨rfl, hb2⟩
      have HB2 := Lib.hid (HB.out.trans (hb2.mono HB.out.size))
      clear hb2
      cases hp : p m
      · go_wp2_with fail
        go_roundw
        case rel => exact ⟨m + 1, j, by omega, hj, by go_num, rfl, fun k e => (by obtain rfl : k = m := (by omega); exact hp), H1.out, HB2.out⟩
        case measure => simp [intOf]; omega
      · go_wp2_with fail
        go_roundw
        case rel => exact ⟨i, m, hm1, by omega, rfl, rfl, H0.out, fun _ => hp, HB2.out⟩
        case measure => simp [intOf]; omega
    · go_wp2_with fail
      go_ret
      obtain rfl : i = j := by omega
      exact ⟨i, rfl, ⟨hj, H0.out, H1.out⟩, HB.out⟩
set_option maxHeartbeats 1000000 in
theorem rowUp1_any (i : Nat) (B1 B2 : Nat) (a : Option Addr) (os : List RowD) (cap : Nat) (key : ByteArray) (w : World) (hi : i < os.length) (c1 : w.cell? ⟨B1, 0, none⟩ = some (.slice a os.length cap)) (c2 : w.cell? ⟨B2, 0, none⟩ = some (.string key)) (hv : RowsIn w a os) :
    Calls Try.prog 243 #[.int .i64 (i : Int), .pointer (some ⟨B1, 0, none⟩), .pointer (some ⟨B2, 0, none⟩)] w fun e w' => e = .returned (.bool (rowP os key i)) ∧ Below w.heap.size w w' := by
  rw [rowP_at hi]
  have hle := Lib.hid (bytesLess_le os[i].f0.toList key.toList)
  rcases hv with hnil | ⟨b, off, rfl, hb, hc⟩
  · rw [hnil] at hi; simp at hi
  obtain ⟨d0, d1⟩ := hc i hi
  have y0 := cell_regrown d0
  have y1 := cell_regrown d1
  have x1 := cell_regrown c1
  have x2 := cell_regrown c2
  have m1 := meth_rank_row os[i]
  clear hc
  go_enter Try.func243, Try.ntmps243
  go_wp2_with fail
  refine wp_region_quiet_below (by kernel_rfl) (by kernel_rfl) ?_
  repeat (go_big_quiet_step ((go_at_call 295; exact Calls.regrown_of (rowRank_any _ _))))
  refine wpQuiet_nil ?_
  intro _ hw'
  obtain ⟨⟨dq, osq⟩, hw''⟩ := hw'
  subst hw''
  go_wp2_with fail
  go_ret
  exact ⟨ret_bool (by rw [← Bool.not_or, hle.out]; simp), below_regrown _ _ _⟩

set_option maxHeartbeats 1000000 in
theorem rowUpTo_any (a : Option Addr) (os : List RowD) (cap : Nat) (key : ByteArray) (w : World) (hv : RowsIn w a os) (hn : os.length ≤ 1048576) :
    Calls Try.prog 211 #[.slice a os.length cap, .string key] w (CutPost (rowP os key) os.length w) := by
  have HV := Lib.hid hv
  clear hv
  go_enter Try.func211, Try.ntmps211
  go_wp2_with fail
  have hb0 : Below w.heap.size w ((w.alloc (.cells #[.slice a os.length cap] 187)).alloc (.cells #[.string key] 9)) := ((Below.refl _ _).alloc (Nat.le_refl _) _).alloc (by simp) _
  refine (searchRow_any _ _ (rowP os key) os.length _ hn ?hf).mono ?_
  case hf =>
    intro i hi u hu
    have e1 := hu.cell (p := ⟨w.heap.size, 0, none⟩) (by simp; omega)
    have e2 := hu.cell (p := ⟨w.heap.size + 1, 0, none⟩) (by simp)
    simp [go_sem] at e1 e2
    exact rowUp1_any i _ _ a os cap key u hi e1 e2 ((HV.out.below hb0).below hu)
  rintro e w2 ⟨r, rfl, hr, hb2⟩
  have HR := Lib.hid hr
  clear hr
  go_wp2_with fail
  go_ret
  exact ⟨r, rfl, HR.out, hb0.trans (hb2.mono (by simp; omega))⟩
def rowRes : Option RowD → Value
  | none => .tuple #[.agg #[.string ⟨#[]⟩, .int .i64 0], .bool false]
  | some o => .tuple #[.agg #[.string o.f0, .int .i64 o.f1], .bool true]
def RowLatest (os : List RowD) (key : ByteArray) (w : World) (e : Ending) (w' : World) : Prop := ∃ r : Nat, Cut (rowP os key) os.length r ∧ e = .returned (rowRes (lastAt os r)) ∧ Below w.heap.size w w'

set_option maxHeartbeats 1000000 in
theorem rowLatest_any (a : Option Addr) (os : List RowD) (cap : Nat) (key : ByteArray) (w : World) (hv : RowsIn w a os) (hn : os.length ≤ 1048576) :
    Calls Try.prog 210 #[.slice a os.length cap, .string key] w (RowLatest os key w) := by
  have HV := Lib.hid hv
  clear hv
  go_enter Try.func210, Try.ntmps210
  go_wp2_with fail
  have hb0 : Below w.heap.size w (w.alloc (.cells #[.string ⟨#[]⟩, .int .i64 0] 102)) := (Below.refl _ _).alloc (Nat.le_refl _) _
  refine (rowUpTo_any a os cap key _ (HV.out.below hb0) hn).mono ?_
  rintro e w2 ⟨r, rfl, hr, hb2⟩
  have c0 := hb2.cell (p := ⟨w.heap.size, 0, none⟩) (by simp)
  have c1 := hb2.cell (p := ⟨w.heap.size, 1, none⟩) (by simp)
  have f0 := hb2.frozen (p := ⟨w.heap.size, 0, none⟩) (by simp)
  have f1 := hb2.frozen (p := ⟨w.heap.size, 1, none⟩) (by simp)
  simp [go_sem] at c0 c1 f0 f1
  have hs2 : w.heap.size < w2.heap.size := by have := hb2.size; simp at this; omega
  have HR := Lib.hid hr
  have B2 := Lib.hid (hb0.trans (hb2.mono (by simp)))
  clear hb0 hb2
  cases r with
  | zero =>
    clear hr
    go_wp2_with fail
    exact bodyPost_ret (v := rowRes none) (by simp [results, Try.results210, go_sem, rowRes, c0, c1, hs2]) rfl ⟨0, HR.out, rfl, ((B2.out.setCell (p := ⟨w.heap.size, 0, none⟩) (Nat.le_refl _) _).setCell (p := ⟨w.heap.size, 1, none⟩) (Nat.le_refl _) _).alloc (by simp; omega) _⟩
  | succ q =>
    have hq : q < os.length := by have := hr.1; omega
    clear hr
    rcases HV.out.below B2.out with hnil | ⟨b, off, rfl, hb, hc⟩
    · rw [hnil] at hq; simp at hq
    obtain ⟨d0, d1⟩ := hc q hq
    clear hc
    have hwq : IntKind.i64.wrap (q : Int) = (q : Int) := by rw [IntKind.wrap_i64]; omega
    go_wp2_with fail
    exact bodyPost_ret (v := rowRes (some os[q])) (by simp [results, Try.results210, go_sem, rowRes, c0, c1]) rfl ⟨q + 1, HR.out, by rw [lastAt_succ os q hq], (B2.out.setCell (p := ⟨w.heap.size, 0, none⟩) (Nat.le_refl _) _).setCell (p := ⟨w.heap.size, 1, none⟩) (Nat.le_refl _) _⟩

/-- The object of that key, if r of them have at most that rank. -/
def rfoundAt (os : List RowD) (key : ByteArray) (r : Nat) : Option RowD := (lastAt os r).bind fun o => if o.f0.toList == key.toList then some o else none
def RGetPost (os : List RowD) (key : ByteArray) (w : World) (e : Ending) (w' : World) : Prop := ∃ r : Nat, Cut (rowP os key) os.length r ∧ e = .returned (rowRes (rfoundAt os key r)) ∧ Below w.heap.size w w'

theorem rfound_no {os : List RowD} {key : ByteArray} {q : Nat} (hq : q < os.length) (h : (os[q].f0.toList == key.toList) = false) : rfoundAt os key (q + 1) = none := by
  rw [rfoundAt, lastAt_succ os q hq]; simp only [Option.bind_some]; rw [h]; rfl
theorem rfound_yes {os : List RowD} {key : ByteArray} {q : Nat} (hq : q < os.length) (h : (os[q].f0.toList == key.toList) = true) : rfoundAt os key (q + 1) = some os[q] := by
  rw [rfoundAt, lastAt_succ os q hq]; simp only [Option.bind_some]; rw [h]; rfl

set_option maxHeartbeats 1000000 in
theorem rowGet_any (a : Option Addr) (os : List RowD) (cap : Nat) (key : ByteArray) (w : World) (hv : RowsIn w a os) (hn : os.length ≤ 1048576) :
    Calls Try.prog 154 #[.slice a os.length cap, .string key] w (RGetPost os key w) := by
  have HV := Lib.hid hv
  clear hv
  go_enter Try.func154, Try.ntmps154
  go_wp2_with fail
  have hb0 : Below w.heap.size w (w.alloc (.cells #[.string ⟨#[]⟩, .int .i64 0] 102)) := (Below.refl _ _).alloc (Nat.le_refl _) _
  refine (rowLatest_any a os cap key _ (HV.out.below hb0) hn).mono ?_
  rintro e w2 ⟨r, hr, rfl, hb2⟩
  have c0 := hb2.cell (p := ⟨w.heap.size, 0, none⟩) (by simp)
  have c1 := hb2.cell (p := ⟨w.heap.size, 1, none⟩) (by simp)
  have f0 := hb2.frozen (p := ⟨w.heap.size, 0, none⟩) (by simp)
  have f1 := hb2.frozen (p := ⟨w.heap.size, 1, none⟩) (by simp)
  simp [go_sem] at c0 c1 f0 f1
  have hs2 : w.heap.size < w2.heap.size := by have := hb2.size; simp at this; omega
  have hs3 : w.heap.size < w2.heap.size + 1 := by omega
  have hs4 : w.heap.size < w2.heap.size + 1 + 1 := by omega
  have hs5 : w.heap.size < w2.heap.size + 1 + 1 + 1 := by omega
  have HR := Lib.hid hr
  have B2 := Lib.hid (hb0.trans (hb2.mono (by simp)))
  clear hb0 hb2
  cases r with
  | zero =>
    clear hr
    rw [lastAt_zero, rowRes]
    go_wp2_with fail
    exact bodyPost_ret (v := rowRes none) (by simp [results, Try.results154, go_sem, rowRes, c0, c1, hs2, hs3, hs4, hs5]) rfl ⟨0, HR.out, rfl, (((B2.out.setCell (p := ⟨w.heap.size, 0, none⟩) (Nat.le_refl _) _).setCell (p := ⟨w.heap.size, 1, none⟩) (Nat.le_refl _) _).alloc (by simp; omega) _).alloc (by simp; omega) _⟩
  | succ q =>
    have hq : q < os.length := by have := hr.1; omega
    clear hr
    rw [lastAt_succ os q hq, rowRes]
    have m1 := meth_rank_row os[q]
    cases hk : (os[q].f0.toList == key.toList)
    · have hk' : (os[q].f0.toList != key.toList) = true := by rw [bne, hk]; rfl
      go_wp2_with (go_at_call 295; refine (rowRank_is _ _).mono ?_; rintro e w3 ⟨rfl, rfl⟩)
      exact bodyPost_ret (v := rowRes none) (by simp [results, Try.results154, go_sem, rowRes, c0, c1, hs2, hs3, hs4, hs5]) rfl ⟨q + 1, HR.out, by rw [rfound_no hq hk], ((((B2.out.setCell (p := ⟨w.heap.size, 0, none⟩) (Nat.le_refl _) _).setCell (p := ⟨w.heap.size, 1, none⟩) (Nat.le_refl _) _).alloc (by simp; omega) _).alloc (by simp; omega) _).alloc (by simp; omega) _⟩
    · have hk' : (os[q].f0.toList != key.toList) = false := by rw [bne, hk]; rfl
      go_wp2_with (go_at_call 295; refine (rowRank_is _ _).mono ?_; rintro e w3 ⟨rfl, rfl⟩)
      exact bodyPost_ret (v := rowRes (some os[q])) (by simp [results, Try.results154, go_sem, rowRes, c0, c1, hs2, hs3, hs4, hs5]) rfl ⟨q + 1, HR.out, by rw [rfound_yes hq hk], (((B2.out.setCell (p := ⟨w.heap.size, 0, none⟩) (Nat.le_refl _) _).setCell (p := ⟨w.heap.size, 1, none⟩) (Nat.le_refl _) _).alloc (by simp; omega) _).alloc (by simp; omega) _⟩
end Go.Proofs.Ytodpodgdhiadnaa

/- A row parted: what comes of it, as the program looks for it. -/
namespace Go.Proofs.Ytodpodgdhiadnaa
open Go.RowKit

theorem cut_find {ep : Int} {vs : List RowD} {key : ByteArray} {r : Nat} (hP : PmapOkP ep vs) (hc : Cut (rowP vs key) vs.length r) : ∃ q, r = q + 1 ∧ FindAt vs key q := by
  obtain ⟨hr, h0, h1⟩ := hc
  have hpos := hP.pos
  cases r with
  | zero =>
    have := h1 hpos
    rw [rowP_at hpos, less_iff, pmap_first hP hpos] at this
    exact absurd this (List.not_lt_nil _)
  | succ q =>
    have hq : q < vs.length := by omega
    have hp := h0 q rfl
    rw [rowP_at hq] at hp
    have hp' : ¬ key.toList < vs[q].f0.toList := by rw [← less_iff, hp]; decide
    refine ⟨q, rfl, ⟨hq, fun i h2 h3 => ?_⟩, fun h => ?_⟩
    · rw [loOf_lt (by omega), leB_iff]
      intro hlt
      by_cases e : i = q
      · subst e; exact hp' hlt
      · exact hp' (List.lt_trans hlt (pmap_mono hP (i := i) (j := q) (by omega) hq (by omega)))
    · have := h1 h
      rw [rowP_at h, less_iff] at this
      rw [loOf_lt h, leB_no]; exact this
theorem rfound_has {ep : Int} {vs : List RowD} {key : ByteArray} {q : Nat} (hP : PmapOkP ep vs) (hF : FindAt vs key q) : (rfoundAt vs key (q + 1) = none ∧ ¬ hasRow vs key) ∨ (∃ v, rfoundAt vs key (q + 1) = some v ∧ hasRow vs key) := by
  have hq := hF.1.1
  cases he : (vs[q].f0.toList == key.toList)
  · exact .inl ⟨rfound_no hq he, fun h => by rw [hasRow_find hP hF] at h; rw [h] at he; simp at he⟩
  · exact .inr ⟨_, rfound_yes hq he, (hasRow_find hP hF).2 (by simpa using he)⟩
end Go.Proofs.Ytodpodgdhiadnaa
