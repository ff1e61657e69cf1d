/- The search for a place in an ordered map. -/
import Derived.Test.YtjijichgoodocaaOrdB
namespace Go.Proofs.Ytjijichgoodocaa
open Go.RowKit

/-- Where a search ends: what is ahead says no, what is there says yes. -/
def Cut (p : Nat → Bool) (n r : Nat) : Prop := r ≤ n ∧ (∀ k, k + 1 = r → p k = false) ∧ (r < n → p r = true)
def CutPost (p : Nat → Bool) (n : Nat) (w : World) (e : Ending) (w' : World) : Prop := ∃ r : Nat, e = .returned (.int .i64 r) ∧ Cut p n r ∧ Below w.heap.size w w'
/-- The closure answers so, in every later world. -/
def Says (c : Nat) (x y : Value) (p : Nat → Bool) (n : Nat) (w : World) : Prop :=
  ∀ i, i < n → ∀ u, Below w.heap.size w u → Calls Try.prog c #[.int .i64 (i : Int), x, y] u fun e u' => e = .returned (.bool (p i)) ∧ Below u.heap.size u u'

set_option maxHeartbeats 1000000 in
theorem searchVer_any (x y : Value) (p : Nat → Bool) (n : Nat) (w : World) (hn : n ≤ 1048576) (hf : Says 181 x y p n w) :
    Calls Try.prog 180 #[.int .i64 (n : Int), .func (.func 181) #[] #[x, y]] w (CutPost p n w) := by
  have HF := Lib.hid hf
  clear hf
  go_enter Try.func180, Try.ntmps180
  go_wp2_with fail
  go_loopw [5, 6] (fun a b wr => ∃ i j : Nat, i ≤ j ∧ j ≤ n ∧ a = .int .i64 i ∧ b = .int .i64 j ∧ (∀ k, k + 1 = i → p k = false) ∧ (j < n → p j = true) ∧ Below w.heap.size w wr) (fun a b _ => (intOf b).toNat - (intOf a).toNat)
  case atStart => exact ⟨0, n, Nat.zero_le _, Nat.le_refl _, rfl, rfl, fun k e => by omega, fun h => absurd h (by omega), Below.refl _ _⟩
  case round =>
    obtain ⟨i, j, hij, hj, rfl, rfl, h0, h1, hB⟩ := hrel
    have H0 := Lib.hid h0
    have H1 := Lib.hid h1
    have HB := Lib.hid hB
    clear h0 h1 hB
    by_cases hlt : i < j
    · go_wp2_with fail
      have e : ((i : Int) + (j : Int)) / 2 = (((i + j) / 2 : Nat) : Int) := by omega
      rw [e]
      clear e
      have hm1 : i ≤ (i + j) / 2 := by omega
      have hm2 : (i + j) / 2 < j := by omega
      generalize (i + j) / 2 = m at *
      refine (HF.out m (by omega) _ HB.out).mono ?_
      rintro e w2 ⟨rfl, hb2⟩
      have HB2 := Lib.hid (HB.out.trans (hb2.mono HB.out.size))
      clear hb2
      cases hp : p m
      · go_wp2_with fail
        go_roundw
        case rel => exact ⟨m + 1, j, by omega, hj, by go_num, rfl, fun k e => (by obtain rfl : k = m := (by omega); exact hp), H1.out, HB2.out⟩
        case measure => simp [intOf]; omega
      · go_wp2_with fail
        go_roundw
        case rel => exact ⟨i, m, hm1, by omega, rfl, rfl, H0.out, fun _ => hp, HB2.out⟩
        case measure => simp [intOf]; omega
    · go_wp2_with fail
      go_ret
      obtain rfl : i = j := by omega
      exact ⟨i, rfl, ⟨hj, H0.out, H1.out⟩, HB.out⟩

set_option maxHeartbeats 1000000 in
theorem searchObj_any (x y : Value) (p : Nat → Bool) (n : Nat) (w : World) (hn : n ≤ 1048576) (hf : Says 194 x y p n w) :
    Calls Try.prog 180 #[.int .i64 (n : Int), .func (.func 194) #[] #[x, y]] w (CutPost p n w) := by
  have HF := Lib.hid hf
  clear hf
  go_enter Try.func180, Try.ntmps180
  go_wp2_with fail
  go_loopw [5, 6] (fun a b wr => ∃ i j : Nat, i ≤ j ∧ j ≤ n ∧ a = .int .i64 i ∧ b = .int .i64 j ∧ (∀ k, k + 1 = i → p k = false) ∧ (j < n → p j = true) ∧ Below w.heap.size w wr) (fun a b _ => (intOf b).toNat - (intOf a).toNat)
  case atStart => exact ⟨0, n, Nat.zero_le _, Nat.le_refl _, rfl, rfl, fun k e => by omega, fun h => absurd h (by omega), Below.refl _ _⟩
  case round =>
    obtain ⟨i, j, hij, hj, rfl, rfl, h0, h1, hB⟩ := hrel
    have H0 := Lib.hid h0
    have H1 := Lib.hid h1
    have HB := Lib.hid hB
    clear h0 h1 hB
    by_cases hlt : i < j
    · go_wp2_with fail
      have e : ((i : Int) + (j : Int)) / 2 = (((i + j) / 2 : Nat) : Int) := by omega
      rw [e]
      clear e
      have hm1 : i ≤ (i + j) / 2 := by omega
      have hm2 : (i + j) / 2 < j := by omega
      generalize (i + j) / 2 = m at *
      refine (HF.out m (by omega) _ HB.out).mono ?_
      rintro e w2 ⟨rfl, hb2⟩
      have HB2 := Lib.hid (HB.out.trans (hb2.mono HB.out.size))
      clear hb2
      cases hp : p m
      · go_wp2_with fail
        go_roundw
        case rel => exact ⟨m + 1, j, by omega, hj, by go_num, rfl, fun k e => (by obtain rfl : k = m := (by omega); exact hp), H1.out, HB2.out⟩
        case measure => simp [intOf]; omega
      · go_wp2_with fail
        go_roundw
        case rel => exact ⟨i, m, hm1, by omega, rfl, rfl, H0.out, fun _ => hp, HB2.out⟩
        case measure => simp [intOf]; omega
    · go_wp2_with fail
      go_ret
      obtain rfl : i = j := by omega
      exact ⟨i, rfl, ⟨hj, H0.out, H1.out⟩, HB.out⟩
end Go.Proofs.Ytjijichgoodocaa

/- How many versions, or objects, have at most that rank. -/
namespace Go.Proofs.Ytjijichgoodocaa
open Go.RowKit

def verP (vs : List VerD) (id : Int) (i : Nat) : Bool := if h : i < vs.length then decide (id < vs[i].id) else true
theorem verP_at {vs : List VerD} {id : Int} {i : Nat} (h : i < vs.length) : verP vs id i = decide (id < vs[i].id) := by simp [verP, h]
def objP (os : List ObjD) (key : ByteArray) (i : Nat) : Bool := if h : i < os.length then Op.bytesLess key.toList os[i].key.toList else true
theorem objP_at {os : List ObjD} {key : ByteArray} {i : Nat} (h : i < os.length) : objP os key i = Op.bytesLess key.toList os[i].key.toList := by simp [objP, h]

set_option maxHeartbeats 1000000 in
theorem verUp1_any (i : Nat) (B1 B2 : Nat) (a : Option Addr) (vs : List VerD) (cap : Nat) (id : Int) (w : World) (hi : i < vs.length) (c1 : w.cell? ⟨B1, 0, none⟩ = some (.slice a vs.length cap)) (c2 : w.cell? ⟨B2, 0, none⟩ = some (.int .i64 id)) (hv : VersIn w a vs) :
    Calls Try.prog 181 #[.int .i64 (i : Int), .pointer (some ⟨B1, 0, none⟩), .pointer (some ⟨B2, 0, none⟩)] w fun e w' => e = .returned (.bool (verP vs id i)) ∧ Below w.heap.size w w' := by
  rw [verP_at hi]
  rcases hv with hnil | ⟨b, off, rfl, hb, hc⟩
  · rw [hnil] at hi; simp at hi
  obtain ⟨d0, d1, d2⟩ := hc i hi
  have y0 := cell_regrown d0
  have y1 := cell_regrown d1
  have y2 := cell_regrown d2
  have x1 := cell_regrown c1
  have x2 := cell_regrown c2
  have m1 := meth_rank_ver vs[i].id vs[i].text vs[i].gone
  clear hc
  go_enter Try.func181, Try.ntmps181
  go_wp2_with fail
  refine wp_region_quiet_below (by kernel_rfl) (by kernel_rfl) ?_
  repeat (go_big_quiet_step ((go_at_call 233; exact Calls.regrown_of (verRank_any _ _ _ _))))
  refine wpQuiet_nil ?_
  intro _ hw'
  obtain ⟨⟨dq, osq⟩, hw''⟩ := hw'
  subst hw''
  go_wp2_with fail
  go_ret
  exact ⟨rfl, below_regrown _ _ _⟩

set_option maxHeartbeats 1000000 in
theorem verUpTo_any (a : Option Addr) (vs : List VerD) (cap : Nat) (id : Int) (w : World) (hv : VersIn w a vs) (hn : vs.length ≤ 1048576) :
    Calls Try.prog 148 #[.slice a vs.length cap, .int .i64 id] w (CutPost (verP vs id) vs.length w) := by
  have HV := Lib.hid hv
  clear hv
  go_enter Try.func148, Try.ntmps148
  go_wp2_with fail
  have hb0 : Below w.heap.size w ((w.alloc (.cells #[.slice a vs.length cap] 170)).alloc (.cells #[.int .i64 id] 3)) := ((Below.refl _ _).alloc (Nat.le_refl _) _).alloc (by simp) _
  refine (searchVer_any _ _ (verP vs id) vs.length _ hn ?hf).mono ?_
  case hf =>
    intro i hi u hu
    have e1 := hu.cell (p := ⟨w.heap.size, 0, none⟩) (by simp; omega)
    have e2 := hu.cell (p := ⟨w.heap.size + 1, 0, none⟩) (by simp)
    simp [go_sem] at e1 e2
    exact verUp1_any i _ _ a vs cap id u hi e1 e2 ((HV.out.below hb0).below hu)
  rintro e w2 ⟨r, rfl, hr, hb2⟩
  have HR := Lib.hid hr
  clear hr
  go_wp2_with fail
  go_ret
  exact ⟨r, rfl, HR.out, hb0.trans (hb2.mono (by simp; omega))⟩

set_option maxHeartbeats 1000000 in
theorem objUp1_any (i : Nat) (B1 B2 : Nat) (a : Option Addr) (os : List ObjD) (cap : Nat) (key : ByteArray) (w : World) (hi : i < os.length) (c1 : w.cell? ⟨B1, 0, none⟩ = some (.slice a os.length cap)) (c2 : w.cell? ⟨B2, 0, none⟩ = some (.string key)) (hv : ObjsIn w a os) :
    Calls Try.prog 194 #[.int .i64 (i : Int), .pointer (some ⟨B1, 0, none⟩), .pointer (some ⟨B2, 0, none⟩)] w fun e w' => e = .returned (.bool (objP os key i)) ∧ Below w.heap.size w w' := by
  rw [objP_at hi]
  have hle := Lib.hid (bytesLess_le os[i].key.toList key.toList)
  rcases hv with hnil | ⟨b, off, rfl, hb, hc⟩
  · rw [hnil] at hi; simp at hi
  obtain ⟨d0, d1, d2⟩ := hc i hi
  have y0 := cell_regrown d0
  have y1 := cell_regrown d1
  have x1 := cell_regrown c1
  have x2 := cell_regrown c2
  have m1 := meth_rank_obj os[i].key os[i].at_ os[i].vers.length os[i].cap
  clear hc d2
  go_enter Try.func194, Try.ntmps194
  go_wp2_with fail
  refine wp_region_quiet_below (by kernel_rfl) (by kernel_rfl) ?_
  repeat (go_big_quiet_step ((go_at_call 234; exact Calls.regrown_of (objRank_any _ _ _ _ _))))
  refine wpQuiet_nil ?_
  intro _ hw'
  obtain ⟨⟨dq, osq⟩, hw''⟩ := hw'
  subst hw''
  go_wp2_with fail
  go_ret
  exact ⟨ret_bool (by rw [← Bool.not_or, hle.out]; simp), below_regrown _ _ _⟩

set_option maxHeartbeats 1000000 in
theorem objUpTo_any (a : Option Addr) (os : List ObjD) (cap : Nat) (key : ByteArray) (w : World) (hv : ObjsIn w a os) (hn : os.length ≤ 1048576) :
    Calls Try.prog 177 #[.slice a os.length cap, .string key] w (CutPost (objP os key) os.length w) := by
  have HV := Lib.hid hv
  clear hv
  go_enter Try.func177, Try.ntmps177
  go_wp2_with fail
  have hb0 : Below w.heap.size w ((w.alloc (.cells #[.slice a os.length cap] 127)).alloc (.cells #[.string key] 9)) := ((Below.refl _ _).alloc (Nat.le_refl _) _).alloc (by simp) _
  refine (searchObj_any _ _ (objP os key) os.length _ hn ?hf).mono ?_
  case hf =>
    intro i hi u hu
    have e1 := hu.cell (p := ⟨w.heap.size, 0, none⟩) (by simp; omega)
    have e2 := hu.cell (p := ⟨w.heap.size + 1, 0, none⟩) (by simp)
    simp [go_sem] at e1 e2
    exact objUp1_any i _ _ a os cap key u hi e1 e2 ((HV.out.below hb0).below hu)
  rintro e w2 ⟨r, rfl, hr, hb2⟩
  have HR := Lib.hid hr
  clear hr
  go_wp2_with fail
  go_ret
  exact ⟨r, rfl, HR.out, hb0.trans (hb2.mono (by simp; omega))⟩
end Go.Proofs.Ytjijichgoodocaa
