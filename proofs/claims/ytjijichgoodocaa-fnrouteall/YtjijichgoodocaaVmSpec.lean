/- The copies that the laws make of objects and of maps. -/
import Derived.Test.YtjijichgoodocaaVmTo
import Derived.Laws.BytesArg
import Derived.Test.YtjijichgoodocaaRows
import Derived.WalkKit
import Derived.WalkSpells
import Derived.WalkLawsBesides
import Derived.Lib.Hide
import Derived.Test.YtjijichgoodocaaVm
namespace Go.Proofs.Ytjijichgoodocaa
open Go.RowKit

theorem VersIn.set {u : World} {b : Nat} {vs : List VerD} {g o : Nat} {x : Value} (h : VersIn u (some ⟨b, 0, none⟩) vs) (hg : g ≠ b) : VersIn (u.setCell ⟨g, o, none⟩ x) (some ⟨b, 0, none⟩) vs := by
  rcases h with h | ⟨b1, off, e, hlt, hc⟩
  · exact .inl h
  · obtain ⟨rfl, rfl⟩ : b = b1 ∧ 0 = off := by simpa using e
    refine .inr ⟨b, 0, rfl, by simpa using hlt, fun i hi => ?_⟩
    rw [World.cell?_setCell_other _ _ _ _ (fun e => hg (congrArg Addr.block e)), World.cell?_setCell_other _ _ _ _ (fun e => hg (congrArg Addr.block e)), World.cell?_setCell_other _ _ _ _ (fun e => hg (congrArg Addr.block e))]
    exact hc i hi

/-- Object i of block g is a copy of o. -/
def CopyIn (u : World) (g i : Nat) (o : ObjD) : Prop :=
  ∃ b, g < b ∧ u.cell? ⟨g, i * 2, none⟩ = some (.string o.key) ∧ u.cell? ⟨g, i * 2 + 1, none⟩ = some (.slice (some ⟨b, 0, none⟩) o.vers.length o.vers.length) ∧ VersIn u (some ⟨b, 0, none⟩) o.vers
def ObjRow (g : Nat) (os : List ObjD) (k : Nat) (u : World) : Prop := ∀ i (h : i < os.length), i < k → CopyIn u g i os[i]
theorem ObjRow.below {g : Nat} {os : List ObjD} {k : Nat} {u v : World} (h : ObjRow g os k u) (hg : g < u.heap.size) (hb : Below u.heap.size u v) : ObjRow g os k v := fun i hi hk => by
  obtain ⟨b, h1, h3, h4, h5⟩ := h i hi hk
  refine ⟨b, h1, ?_, ?_, h5.below hb⟩
  · rw [hb.cell (p := ⟨g, i * 2, none⟩) hg]; exact h3
  · rw [hb.cell (p := ⟨g, i * 2 + 1, none⟩) hg]; exact h4
theorem ObjRow.step {g b : Nat} {os : List ObjD} {k : Nat} {u : World} (h : ObjRow g os k u) (hr : Row g (os.length * 2) u) (hk : k < os.length) (hg : g < b) (hv : VersIn u (some ⟨b, 0, none⟩) os[k].vers) :
    ObjRow g os (k + 1) ((u.setCell ⟨g, k * 2, none⟩ (.string os[k].key)).setCell ⟨g, k * 2 + 1, none⟩ (.slice (some ⟨b, 0, none⟩) os[k].vers.length os[k].vers.length)) := by
  intro i hi hik
  by_cases e : i = k
  · subst e
    obtain ⟨v0, h0⟩ := (hr.2 (i * 2) (by omega)).1
    obtain ⟨v1, h1⟩ := (hr.2 (i * 2 + 1) (by omega)).1
    refine ⟨b, hg, ?_, ?_, (hv.set (by omega)).set (by omega)⟩
    · rw [cell_off (by omega)]; exact World.cell?_setCell_same _ _ _ h0
    · exact World.cell?_setCell_same _ _ _ (u := v1) (by rw [cell_off (by omega)]; exact h1)
  · obtain ⟨b', q1, c0, c1, q5⟩ := h i hi (by omega)
    refine ⟨b', q1, ?_, ?_, (q5.set (by omega)).set (by omega)⟩
    · rw [cell_off (by omega), cell_off (by omega)]; exact c0
    · rw [cell_off (by omega), cell_off (by omega)]; exact c1
/-- The versions of these objects lie above block g. -/
def Above (g : Nat) (cs : List ObjD) : Prop := ∀ i (h : i < cs.length), ∃ b, g < b ∧ cs[i].at_ = some ⟨b, 0, none⟩
theorem ObjsIn.set {u : World} {g g' o : Nat} {cs : List ObjD} {x : Value} (h : ObjsIn u (some ⟨g, 0, none⟩) cs) (ha : Above g cs) (hg : g' < g) : ObjsIn (u.setCell ⟨g', o, none⟩ x) (some ⟨g, 0, none⟩) cs := by
  rcases h with h | ⟨b1, off, e, hlt, hc⟩
  · exact .inl h
  · obtain ⟨rfl, rfl⟩ : g = b1 ∧ 0 = off := by simpa using e
    refine .inr ⟨g, 0, rfl, by simpa using hlt, fun i hi => ?_⟩
    rw [World.cell?_setCell_other _ _ _ _ (fun e => absurd (congrArg Addr.block e) (Nat.ne_of_lt hg)), World.cell?_setCell_other _ _ _ _ (fun e => absurd (congrArg Addr.block e) (Nat.ne_of_lt hg))]
    obtain ⟨c0, c1, c2⟩ := hc i hi
    obtain ⟨b, hb, e⟩ := ha i hi
    rw [e] at c2
    refine ⟨c0, c1, ?_⟩
    rw [e]
    exact c2.set (by omega)
/-- A full row of copies is a slice of objects that are the same. -/
theorem ObjRow.out {g : Nat} {os : List ObjD} {u : World} (h : ObjRow g os os.length u) (hg : g < u.heap.size) :
    ∃ cs : List ObjD, SameObjs os cs ∧ cs.length = os.length ∧ Above g cs ∧ ObjsIn u (some ⟨g, 0, none⟩) cs := by
  have hc : ∀ i : Fin os.length, ∃ b, g < b ∧ u.cell? ⟨g, i * 2, none⟩ = some (.string os[i].key) ∧ u.cell? ⟨g, i * 2 + 1, none⟩ = some (.slice (some ⟨b, 0, none⟩) os[i].vers.length os[i].vers.length) ∧ VersIn u (some ⟨b, 0, none⟩) os[i].vers := fun i => h i.1 i.2 i.2
  let cs : List ObjD := List.ofFn fun i : Fin os.length => (⟨os[i].key, some ⟨(hc i).choose, 0, none⟩, os[i].vers.length, os[i].vers⟩ : ObjD)
  refine ⟨cs, ⟨by simp [cs], fun i hi hk => by simp [cs]⟩, by simp [cs], fun i hi => ?_, .inr ⟨g, 0, rfl, hg, fun i hi => ?_⟩⟩
  · have hi' : i < os.length := by simpa [cs] using hi
    exact ⟨(hc ⟨i, hi'⟩).choose, (hc ⟨i, hi'⟩).choose_spec.1, by simp [cs]⟩
  have hi' : i < os.length := by simpa [cs] using hi
  have := (hc ⟨i, hi'⟩).choose_spec
  simp only [cs, List.getElem_ofFn, Nat.zero_add]
  exact ⟨this.2.1, this.2.2.1, this.2.2.2⟩

def ToObj (o : ObjD) (w : World) (e : Ending) (w' : World) : Prop :=
  ∃ b, w.heap.size ≤ b ∧ e = .returned (.agg #[.string o.key, .slice (some ⟨b, 0, none⟩) o.vers.length o.vers.length]) ∧ VersIn w' (some ⟨b, 0, none⟩) o.vers ∧ Below w.heap.size w w'

set_option maxHeartbeats 1000000 in
theorem toObj_any (o : ObjD) (w : World) (hv : VersIn w o.at_ o.vers) (hn : o.vers.length ≤ 1048576) :
    Calls Try.prog 170 #[.agg #[.string o.key, .slice o.at_ o.vers.length o.cap]] w (ToObj o w) := by
  have HV := Lib.hid hv
  clear hv
  go_enter Try.func170, Try.ntmps170
  go_wp2_with fail
  with_reducible refine (toVerS_any _ _ _ _ ?hv hn).mono ?_
  case hv => exact HV.out.below ((((Below.refl _ _).alloc (Nat.le_refl _) _).alloc (by simp) _).alloc (by simp; omega) _)
  rintro e w2 ⟨rfl, hvs, hb2⟩
  have HS := Lib.hid hvs
  clear hvs
  have c20 := hb2.cell (p := ⟨w.heap.size + 1 + 1, 0, none⟩) (by simp)
  have c21 := hb2.cell (p := ⟨w.heap.size + 1 + 1, 1, none⟩) (by simp)
  have c10 := hb2.cell (p := ⟨w.heap.size + 1, 0, none⟩) (by simp)
  have c11 := hb2.cell (p := ⟨w.heap.size + 1, 1, none⟩) (by simp)
  have f20 := hb2.frozen (p := ⟨w.heap.size + 1 + 1, 0, none⟩) (by simp)
  have f21 := hb2.frozen (p := ⟨w.heap.size + 1 + 1, 1, none⟩) (by simp)
  have f10 := hb2.frozen (p := ⟨w.heap.size + 1, 0, none⟩) (by simp)
  have f11 := hb2.frozen (p := ⟨w.heap.size + 1, 1, none⟩) (by simp)
  have HZ := Lib.hid hb2
  clear hb2
  simp [go_sem] at c20 c21 c10 c11 f20 f21 f10 f11
  go_wp2_with fail
  have HB := Lib.hid ((((Below.refl w.heap.size w).alloc (Nat.le_refl _) _).alloc (by simp) _).alloc (by simp; omega) _ |>.trans (HZ.out.mono (by simp; omega)))
  have HS' := HS.out
  simp only [World.size_alloc] at HS'
  exact bodyPost_ret (v := .agg #[.string o.key, .slice (some ⟨w.heap.size + 1 + 1 + 1, 0, none⟩) o.vers.length o.vers.length]) (by simp [results, Try.results170, go_sem, c10, c11]) rfl
    ⟨w.heap.size + 1 + 1 + 1, by omega, rfl, ((HS'.set (by omega)).set (by omega)).set (by omega), ((HB.out.setCell (p := ⟨w.heap.size + 1 + 1, 1, none⟩) (by simp; omega) _).setCell (p := ⟨w.heap.size + 1, 0, none⟩) (by simp) _).setCell (p := ⟨w.heap.size + 1, 1, none⟩) (by simp) _⟩

def ToObjs (os : List ObjD) (w : World) (e : Ending) (w' : World) : Prop :=
  ∃ cs : List ObjD, SameObjs os cs ∧ cs.length = os.length ∧ Above w.heap.size cs ∧ e = .returned (.slice (some ⟨w.heap.size, 0, none⟩) os.length os.length) ∧ ObjsIn w' (some ⟨w.heap.size, 0, none⟩) cs ∧ Below w.heap.size w w'

set_option maxHeartbeats 2000000 in
theorem toObjS_any (a : Option Addr) (os : List ObjD) (cap : Nat) (w : World) (hv : ObjsIn w a os) (hn : os.length ≤ 1048576) (hf : ∀ o ∈ os, o.vers.length ≤ 1048576) :
    Calls Try.prog 128 #[.slice a os.length cap] w (ToObjs os w) := by
  have HV := Lib.hid hv
  have HF := Lib.hid hf
  clear hv hf
  have hmk := run_make_objs os.length hn
  go_enter Try.func128, Try.ntmps128
  go_wp2_with fail
  go_loopw [4] (fun i wr => ∃ k : Nat, k ≤ os.length ∧ i = .int .i64 k ∧ Below w.heap.size w wr ∧ Row w.heap.size (os.length * 2) wr ∧ ObjRow w.heap.size os k wr) (fun i _ => os.length - (intOf i).toNat)
  case atStart => exact ⟨0, Nat.zero_le _, rfl, (Below.refl _ _).alloc (Nat.le_refl _) _, Row.made _ _ _ w, fun _ _ h => absurd h (by omega)⟩
  case round =>
    obtain ⟨k, hk, rfl, hB, hR, hP⟩ := hrel
    have HW := Lib.hid hB
    have HR := Lib.hid hR
    have HP := Lib.hid hP
    clear hB hR hP hmk
    by_cases hlt : k < os.length
    · rcases HV.out.below HW.out with hnil | ⟨b1, o1, rfl, hb1, hc1⟩
      · rw [hnil] at hlt; simp at hlt
      obtain ⟨c0, c1, c2⟩ := hc1 k hlt
      have C2 := Lib.hid c2
      clear hc1 c2
      go_wp2_with fail
      with_reducible refine (toObj_any os[k] _ C2.out (HF.out _ (List.getElem_mem hlt))).mono ?_
      rintro e w2 ⟨b, hb, rfl, hvs, hw2⟩
      have HS := Lib.hid hvs
      have hgb : w.heap.size < b := Nat.lt_of_lt_of_le HR.out.1 hb
      have HR2 := Lib.hid (HR.out.below hw2)
      have HP2 := Lib.hid (HP.out.below HR.out.1 hw2)
      have HW2 := Lib.hid (HW.out.trans (hw2.mono HW.out.size))
      obtain ⟨v0, d0⟩ := (HR2.out.2 (k * 2) (by omega)).1
      obtain ⟨v1, d1⟩ := (HR2.out.2 (k * 2 + 1) (by omega)).1
      have f0 := (HR2.out.2 (k * 2) (by omega)).2
      have f1 := (HR2.out.2 (k * 2 + 1) (by omega)).2
      clear hvs hw2 c0 c1 hb
      go_wp2_with fail
      go_roundw
      case rel => exact ⟨k + 1, by omega, by go_num, (HW2.out.setCell (p := ⟨w.heap.size, k * 2, none⟩) (Nat.le_refl _) _).setCell (p := ⟨w.heap.size, k * 2 + 1, none⟩) (Nat.le_refl _) _, (HR2.out.set).set, HP2.out.step HR2.out hlt hgb HS.out⟩
      case measure => simp [intOf]; omega
    · go_wp2_with fail
      go_ret
      obtain rfl : k = os.length := by omega
      obtain ⟨cs, h1, h2, h3, h4⟩ := HP.out.out HR.out.1
      exact ⟨cs, h1, h2, h3, rfl, h4, HW.out⟩

def ToMap (os : List ObjD) (w : World) (e : Ending) (w' : World) : Prop :=
  ∃ (g : Nat) (cs : List ObjD), SameObjs os cs ∧ cs.length = os.length ∧ e = .returned (.agg #[.slice (some ⟨g, 0, none⟩) os.length os.length]) ∧ ObjsIn w' (some ⟨g, 0, none⟩) cs ∧ Below w.heap.size w w'

set_option maxHeartbeats 2000000 in
theorem toVmap_any (a : Option Addr) (os : List ObjD) (cap : Nat) (w : World) (hv : ObjsIn w a os) (hn : os.length ≤ 1048576) (hf : ∀ o ∈ os, o.vers.length ≤ 1048576) :
    Calls Try.prog 65 #[.agg #[.slice a os.length cap]] w (ToMap os w) := by
  have HV := Lib.hid hv
  have HF := Lib.hid hf
  clear hv hf
  go_enter Try.func65, Try.ntmps65
  go_wp2_with fail
  with_reducible refine (toObjS_any _ _ _ _ ?hv hn HF.out).mono ?_
  case hv => exact HV.out.below ((((Below.refl _ _).alloc (Nat.le_refl _) _).alloc (by simp) _).alloc (by simp; omega) _)
  rintro e w2 ⟨cs, hsame, hcl, habove, rfl, hvs, hb2⟩
  have HS := Lib.hid hvs
  have HE := Lib.hid hsame
  have HA := Lib.hid habove
  have HL := Lib.hid hcl
  clear hvs hsame habove hcl
  have c20 := hb2.cell (p := ⟨w.heap.size + 1 + 1, 0, none⟩) (by simp)
  have c10 := hb2.cell (p := ⟨w.heap.size + 1, 0, none⟩) (by simp)
  have f20 := hb2.frozen (p := ⟨w.heap.size + 1 + 1, 0, none⟩) (by simp)
  have f10 := hb2.frozen (p := ⟨w.heap.size + 1, 0, none⟩) (by simp)
  have HZ := Lib.hid hb2
  clear hb2
  simp [go_sem] at c20 c10 f20 f10
  go_wp2_with fail
  have HB := Lib.hid ((((Below.refl w.heap.size w).alloc (Nat.le_refl _) _).alloc (by simp) _).alloc (by simp; omega) _ |>.trans (HZ.out.mono (by simp; omega)))
  have HS' := HS.out
  have HA' := HA.out
  simp only [World.size_alloc] at HS' HA'
  exact bodyPost_ret (v := .agg #[.slice (some ⟨w.heap.size + 1 + 1 + 1, 0, none⟩) os.length os.length]) (by simp [results, Try.results65, go_sem, c10]) rfl
    ⟨w.heap.size + 1 + 1 + 1, cs, HE.out, HL.out, rfl, (HS'.set HA' (by omega)).set HA' (by omega), (HB.out.setCell (p := ⟨w.heap.size + 1 + 1, 0, none⟩) (by simp; omega) _).setCell (p := ⟨w.heap.size + 1, 0, none⟩) (by simp) _⟩
end Go.Proofs.Ytjijichgoodocaa

/- The text of a mark. -/
namespace Go.Proofs.Ytjijichgoodocaa
open Go.RowKit

def mtLoop (k : Nat) (s : ByteArray) : ByteArray := if k = 0 then s else mtLoop (k / 10) (strOfNums [48 + (k : Int) % 10] ++ s)
termination_by k
def mtext (k : Nat) : ByteArray := ⟨#[109]⟩ ++ mtLoop k ⟨#[]⟩
theorem mtLoop_zero (s : ByteArray) : mtLoop 0 s = s := by rw [mtLoop]; simp
theorem mtLoop_pos {k : Nat} (h : 0 < k) (s : ByteArray) : mtLoop k s = mtLoop (k / 10) (strOfNums [48 + (k : Int) % 10] ++ s) := by
  conv => lhs; rw [mtLoop]
  rw [if_neg (by omega)]

theorem run_digit (z : Int) (u : World) : (convert 22 9 (.slice (some ⟨u.heap.size, 0, none⟩) 1 1)).run Try.prog (u.alloc (.cells #[.int .u8 z] 5)) = .ok (.string (strOfNums [z])) (u.alloc (.cells #[.int .u8 z] 5)) :=
  run_convert_bytes_arg _ 22 5 Try.underlying22 Try.underlying5 u.heap.size 0 1 1 [z] rfl (fun i hi => by
    obtain rfl : i = 0 := by omega
    simp) 9 Try.underlying9

set_option maxRecDepth 100000 in
set_option maxHeartbeats 1000000 in
theorem markText_any (k : Nat) (w : World) (h1 : 1 ≤ k) (h2 : k ≤ 100000000) :
    Calls Try.prog 172 #[.int .i64 (k : Int)] w fun e w' => e = .returned (.string (mtext k)) ∧ Below w.heap.size w w' := by
  go_enter Try.func172, Try.ntmps172
  go_wp2_with fail
  go_loopw [0, 3] (fun a o wr => ∃ (j : Nat) (s : ByteArray), s.size + j ≤ k ∧ a = .int .i64 j ∧ o = .string s ∧ mtLoop k ⟨#[]⟩ = mtLoop j s ∧ Below w.heap.size w wr) (fun a _ _ => (intOf a).toNat)
  case atStart => exact ⟨k, ⟨#[]⟩, by show 0 + k ≤ k; omega, rfl, rfl, rfl, Below.refl _ _⟩
  case round =>
    obtain ⟨j, s, hj, rfl, rfl, hE, hB⟩ := hrel
    have HB := Lib.hid hB
    have HE := Lib.hid hE
    clear hB hE
    by_cases hlt : 0 < j
    · have hcv := run_digit (48 + (j : Int) % 10)
      have hsz : (strOfNums [48 + (j : Int) % 10]).size = 1 := rfl
      go_wp2_with fail
      go_roundw
      case rel => exact ⟨j / 10, strOfNums [48 + (j : Int) % 10] ++ s, by rw [ByteArray.size_append, hsz]; omega, by go_num, rfl, by rw [HE.out, mtLoop_pos hlt], HB.out.alloc HB.out.size _⟩
      case measure => simp [intOf]; omega
    · obtain rfl : j = 0 := by omega
      go_wp2_with fail
      go_ret
      exact ⟨by rw [mtext, HE.out, mtLoop_zero]; rfl, HB.out⟩
end Go.Proofs.Ytjijichgoodocaa

/- Contracts of the byte checks: each returns just what the plain Lean function of the same bytes says, and leaves the world as it was. -/
namespace Go.Proofs.Ytjijichgoodocaa
open Go.RowKit

def textB (c : UInt8) : Bool := decide (33 ≤ (c.toNat : Int)) && decide ((c.toNat : Int) ≤ 126)
def keyB (c : UInt8) : Bool := decide (97 ≤ (c.toNat : Int)) && decide ((c.toNat : Int) ≤ 122) || decide (48 ≤ (c.toNat : Int)) && decide ((c.toNat : Int) ≤ 57) || ((c.toNat : Int) == 47)
def allTo (p : UInt8 → Bool) (s : ByteArray) (k : Nat) : Prop := ∀ j (h : j < s.size), j < k → p s[j] = true
def okB (p : UInt8 → Bool) (m : Nat) (s : ByteArray) : Bool := decide (s.size ≤ m) && s.data.toList.all p

theorem all_mem {p : UInt8 → Bool} {s : ByteArray} (h : ∀ j (h : j < s.size), p s[j] = true) : s.data.toList.all p = true := by
  rw [List.all_eq_true]
  intro x hx
  obtain ⟨j, hj, rfl⟩ := List.getElem_of_mem hx
  exact h j (by simpa using hj)
theorem okB_done {p : UInt8 → Bool} {m : Nat} {s : ByteArray} (h : allTo p s s.size) : okB p m s = decide (s.size ≤ m) := by
  unfold okB; rw [all_mem fun j hj => h j hj hj]; simp
theorem okB_bad {p : UInt8 → Bool} {m k : Nat} {s : ByteArray} (hk : k < s.size) (h : p s[k] = false) : okB p m s = false := by
  unfold okB
  have : s.data.toList.all p = false := by
    rw [List.all_eq_false]
    refine ⟨s[k], ?_, by simp [h]⟩
    exact List.getElem_mem (l := s.data.toList) (by simpa using hk)
  rw [this]; simp
theorem okB_long {p : UInt8 → Bool} {m : Nat} {s : ByteArray} (h : m < s.size) : okB p m s = false := by
  unfold okB; rw [decide_eq_false (by omega)]; simp
theorem allTo_zero (p : UInt8 → Bool) (s : ByteArray) : allTo p s 0 := fun _ _ h => absurd h (by omega)
theorem allTo_succ {p : UInt8 → Bool} {s : ByteArray} {k : Nat} (h : allTo p s k) (hk : k < s.size) (hp : p s[k] = true) : allTo p s (k + 1) := by
  intro j hj hjk
  by_cases e : j = k
  · subst e; exact hp
  · exact h j hj (by omega)
theorem allTo_all {p : UInt8 → Bool} {s : ByteArray} {k : Nat} (h : allTo p s k) (hk : ¬ k < s.size) : allTo p s s.size := fun j hj _ => h j hj (by omega)
theorem ret_bool {a b : Bool} (h : a = b) : Ending.returned (.bool a) = .returned (.bool b) := by rw [h]

theorem textB_yes {c : UInt8} (h1 : 33 ≤ (c.toNat : Int)) (h2 : (c.toNat : Int) ≤ 126) : textB c = true := by simp [textB]; omega
theorem textB_no {c : UInt8} (h : (c.toNat : Int) < 33 ∨ 126 < (c.toNat : Int)) : textB c = false := by
  unfold textB; rcases h with h | h
  · rw [decide_eq_false (by omega)]; rfl
  · rw [decide_eq_false (p := (c.toNat : Int) ≤ 126) (by omega)]; simp

set_option maxHeartbeats 400000 in
theorem l1Text_any (s : ByteArray) (w : World) (hs : s.size ≤ maxLen) :
    Calls Try.prog 139 #[.string s] w fun e w' => e = .returned (.bool (okB textB 8 s)) ∧ w = w' := by
  unfold maxLen at hs
  go_enter Try.func139, Try.ntmps139
  go_wp2
  go_loop [3] (fun i => ∃ k : Nat, k ≤ s.size ∧ i = .int .i64 k ∧ allTo textB s k) (fun i => s.size - (intOf i).toNat)
  case atStart => exact ⟨0, Nat.zero_le _, rfl, allTo_zero _ _⟩
  case round =>
    obtain ⟨k, hk, rfl, hall⟩ := hrel
    by_cases hlt : k < s.size
    · go_wp2
      all_goals first
        | (go_ret; exact ⟨ret_bool (okB_bad hlt (textB_no (by omega))).symm, rfl⟩)
        | exact ⟨⟨k + 1, by omega, by go_num, allTo_succ hall hlt (textB_yes (by omega) (by omega))⟩, by simp [intOf]; omega⟩
    · go_wp2
      go_ret
      exact ⟨ret_bool (by rw [okB_done (allTo_all hall hlt)]; simp; omega), rfl⟩

theorem keyB_yes {c : UInt8} (h : 97 ≤ (c.toNat : Int) ∧ (c.toNat : Int) ≤ 122 ∨ 48 ≤ (c.toNat : Int) ∧ (c.toNat : Int) ≤ 57 ∨ (c.toNat : Int) = 47) : keyB c = true := by
  simp [keyB]; omega
theorem keyB_no {c : UInt8} (h : ¬ (97 ≤ (c.toNat : Int) ∧ (c.toNat : Int) ≤ 122 ∨ 48 ≤ (c.toNat : Int) ∧ (c.toNat : Int) ≤ 57 ∨ (c.toNat : Int) = 47)) : keyB c = false := by
  rw [Bool.eq_false_iff]; intro k; apply h; simp [keyB] at k; omega

set_option maxHeartbeats 400000 in
theorem l1Part_any (s : ByteArray) (w : World) (hs : s.size ≤ maxLen) :
    Calls Try.prog 137 #[.string s] w fun e w' => e = .returned (.bool (okB keyB 6 s)) ∧ w = w' := by
  unfold maxLen at hs
  go_enter Try.func137, Try.ntmps137
  go_wp2
  go_loop [3] (fun i => ∃ k : Nat, k ≤ s.size ∧ i = .int .i64 k ∧ allTo keyB s k) (fun i => s.size - (intOf i).toNat)
  case atStart => exact ⟨0, Nat.zero_le _, rfl, allTo_zero _ _⟩
  case round =>
    obtain ⟨k, hk, rfl, hall⟩ := hrel
    by_cases hlt : k < s.size
    · have h47 : ((s[k].toNat : Int) != 47) = true ∧ (s[k].toNat : Int) ≠ 47 ∨ ((s[k].toNat : Int) != 47) = false ∧ 47 ≤ (s[k].toNat : Int) ∧ (s[k].toNat : Int) ≤ 47 := by
        by_cases e : (s[k].toNat : Int) = 47
        · exact Or.inr ⟨by simp [e], by omega, by omega⟩
        · exact Or.inl ⟨by simp; omega, e⟩
      rcases h47 with ⟨hb, hne⟩ | ⟨hb, hl, hu⟩
      all_goals
        go_wp2
        all_goals first
          | (go_ret; exact ⟨ret_bool (okB_bad hlt (keyB_no (by omega))).symm, rfl⟩)
          | exact ⟨⟨k + 1, by omega, by go_num, allTo_succ hall hlt (keyB_yes (by omega))⟩, by simp [intOf]; omega⟩
    · go_wp2
      go_ret
      exact ⟨ret_bool (by rw [okB_done (allTo_all hall hlt)]; simp; omega), rfl⟩

set_option maxHeartbeats 400000 in
theorem textByte_any (c : UInt8) (w : World) :
    Calls Try.prog 193 #[.int .u8 c.toNat] w fun e w' => e = .returned (.bool (textB c)) ∧ w = w' := by
  go_enter Try.func193, Try.ntmps193
  go_wp2
  all_goals
    go_ret
    exact ⟨ret_bool (by rw [Bool.eq_iff_iff]; simp [textB]; omega), rfl⟩

set_option maxHeartbeats 400000 in
theorem keyByte_any (c : UInt8) (w : World) :
    Calls Try.prog 146 #[.int .u8 c.toNat] w fun e w' => e = .returned (.bool (keyB c)) ∧ w = w' := by
  go_enter Try.func146, Try.ntmps146
  go_wp2
  all_goals
    go_ret
    exact ⟨ret_bool (by rw [Bool.eq_iff_iff]; simp [keyB]; omega), rfl⟩

set_option maxHeartbeats 400000 in
theorem bytesOk_text (s : ByteArray) (w : World) (hs : s.size ≤ maxLen) :
    Calls Try.prog 145 #[.string s, .int .i64 8, .func (.func 193) #[] #[]] w fun e w' => e = .returned (.bool (okB textB 8 s)) ∧ w = w' := by
  unfold maxLen at hs
  by_cases hlong : 8 < s.size
  · go_enter Try.func145, Try.ntmps145
    go_wp2
    go_ret
    exact ⟨ret_bool (okB_long hlong).symm, rfl⟩
  · go_enter Try.func145, Try.ntmps145
    go_wp2
    go_loop [14] (fun i => ∃ k : Nat, k ≤ s.size ∧ i = .int .i64 k ∧ allTo textB s k) (fun i => s.size - (intOf i).toNat)
    case atStart => exact ⟨0, Nat.zero_le _, rfl, allTo_zero _ _⟩
    case round =>
      obtain ⟨k, hk, rfl, hall⟩ := hrel
      by_cases hlt : k < s.size
      · cases hp : textB s[k]
        all_goals
          go_wp2_with (go_at_call 193; refine (textByte_any _ _).mono ?_; rintro e w' ⟨rfl, rfl⟩)
          first
          | (go_ret; exact ⟨ret_bool (okB_bad hlt hp).symm, rfl⟩)
          | exact ⟨⟨k + 1, by omega, by go_num, allTo_succ hall hlt hp⟩, by simp [intOf]; omega⟩
      · go_wp2
        go_ret
        exact ⟨ret_bool (by rw [okB_done (allTo_all hall hlt)]; simp; omega), rfl⟩

set_option maxHeartbeats 400000 in
theorem bytesOk_key (s : ByteArray) (w : World) (hs : s.size ≤ maxLen) :
    Calls Try.prog 145 #[.string s, .int .i64 6, .func (.func 146) #[] #[]] w fun e w' => e = .returned (.bool (okB keyB 6 s)) ∧ w = w' := by
  unfold maxLen at hs
  by_cases hlong : 6 < s.size
  · go_enter Try.func145, Try.ntmps145
    go_wp2
    go_ret
    exact ⟨ret_bool (okB_long hlong).symm, rfl⟩
  · go_enter Try.func145, Try.ntmps145
    go_wp2
    go_loop [14] (fun i => ∃ k : Nat, k ≤ s.size ∧ i = .int .i64 k ∧ allTo keyB s k) (fun i => s.size - (intOf i).toNat)
    case atStart => exact ⟨0, Nat.zero_le _, rfl, allTo_zero _ _⟩
    case round =>
      obtain ⟨k, hk, rfl, hall⟩ := hrel
      by_cases hlt : k < s.size
      · cases hp : keyB s[k]
        all_goals
          go_wp2_with (go_at_call 146; refine (keyByte_any _ _).mono ?_; rintro e w' ⟨rfl, rfl⟩)
          first
          | (go_ret; exact ⟨ret_bool (okB_bad hlt hp).symm, rfl⟩)
          | exact ⟨⟨k + 1, by omega, by go_num, allTo_succ hall hlt hp⟩, by simp [intOf]; omega⟩
      · go_wp2
        go_ret
        exact ⟨ret_bool (by rw [okB_done (allTo_all hall hlt)]; simp; omega), rfl⟩

set_option maxHeartbeats 400000 in
theorem textOk_any (s : ByteArray) (w : World) (hs : s.size ≤ maxLen) :
    Calls Try.prog 176 #[.string s] w fun e w' => e = .returned (.bool (okB textB 8 s)) ∧ w = w' := by
  go_enter Try.func176, Try.ntmps176
  go_wp2_with (go_at_call 145; refine (bytesOk_text _ _ hs).mono ?_; rintro e w' ⟨rfl, rfl⟩)
  go_ret
  exact ⟨rfl, rfl⟩

set_option maxHeartbeats 400000 in
theorem prefixOk_any (s : ByteArray) (w : World) (hs : s.size ≤ maxLen) :
    Calls Try.prog 96 #[.string s] w fun e w' => e = .returned (.bool (okB keyB 6 s)) ∧ w = w' := by
  go_enter Try.func96, Try.ntmps96
  go_wp2_with (go_at_call 145; refine (bytesOk_key _ _ hs).mono ?_; rintro e w' ⟨rfl, rfl⟩)
  go_ret
  exact ⟨rfl, rfl⟩

def keyOkB (s : ByteArray) : Bool := !(s.toList.isEmpty) && okB keyB 6 s

theorem keyOkB_empty {s : ByteArray} (h : s.toList.isEmpty = true) : keyOkB s = false := by unfold keyOkB; rw [h]; rfl
theorem keyOkB_full {s : ByteArray} (h : s.toList.isEmpty = false) : keyOkB s = okB keyB 6 s := by unfold keyOkB; rw [h]; rfl

set_option maxHeartbeats 400000 in
theorem l1Key_any (s : ByteArray) (w : World) (hs : s.size ≤ maxLen) :
    Calls Try.prog 79 #[.string s] w fun e w' => e = .returned (.bool (keyOkB s)) ∧ w = w' := by
  cases hz : s.toList.isEmpty
  all_goals
    go_enter Try.func79, Try.ntmps79
    go_wp2_with (go_at_call 137; refine (l1Part_any _ _ hs).mono ?_; rintro e w' ⟨rfl, rfl⟩)
    go_ret
    first
    | exact ⟨ret_bool (keyOkB_empty hz).symm, rfl⟩
    | exact ⟨ret_bool (keyOkB_full hz).symm, rfl⟩

set_option maxHeartbeats 400000 in
theorem keyOk_any (s : ByteArray) (w : World) (hs : s.size ≤ maxLen) :
    Calls Try.prog 60 #[.string s] w fun e w' => e = .returned (.bool (keyOkB s)) ∧ w = w' := by
  cases hz : s.toList.isEmpty
  all_goals
    go_enter Try.func60, Try.ntmps60
    go_wp2_with (go_at_call 96; refine (prefixOk_any _ _ hs).mono ?_; rintro e w' ⟨rfl, rfl⟩)
    go_ret
    first
    | exact ⟨ret_bool (keyOkB_empty hz).symm, rfl⟩
    | exact ⟨ret_bool (keyOkB_full hz).symm, rfl⟩
end Go.Proofs.Ytjijichgoodocaa

/- When a map is ok, as the model says it. -/
namespace Go.Proofs.Ytjijichgoodocaa
open Go.RowKit

def inB (n lo hi : Int) : Bool := decide (lo ≤ n) && decide (n ≤ hi)
def verOkB (i : Int) (s : ByteArray) (g : Bool) : Bool := inB i 1 9999 && (okB textB 8 s && (!g || s.toList.isEmpty))

set_option maxHeartbeats 400000 in
theorem l1In_any (n lo hi : Int) (w : World) :
    Calls Try.prog 138 #[.int .i64 n, .int .i64 lo, .int .i64 hi] w fun e w' => e = .returned (.bool (inB n lo hi)) ∧ w = w' := by
  by_cases h1 : lo ≤ n <;> by_cases h2 : n ≤ hi
  all_goals
    go_enter Try.func138, Try.ntmps138
    go_wp2
    go_ret
    exact ⟨ret_bool (by simp [inB, h1, h2]), rfl⟩

set_option maxHeartbeats 1000000 in
theorem l2VerOk_any (i : Int) (s : ByteArray) (g : Bool) (w : World) (hs : s.size ≤ maxLen) :
    Calls Try.prog 80 #[.agg #[.int .i64 i, .string s, .bool g]] w fun e w' => e = .returned (.bool (verOkB i s g)) ∧ Below w.heap.size w w' := by
  cases hI : inB i 1 9999 <;> cases hT : okB textB 8 s <;> cases g <;> cases hz : s.toList.isEmpty
  all_goals
    go_enter Try.func80, Try.ntmps80
    go_wp2_with first
      | (go_at_call 138; refine (l1In_any _ _ _ _).mono ?_; rintro e w' ⟨rfl, rfl⟩; rw [hI])
      | (go_at_call 139; refine (l1Text_any _ _ hs).mono ?_; rintro e w' ⟨rfl, rfl⟩; rw [hT])
    go_ret
    exact ⟨ret_bool (by simp [verOkB, hI, hT, hz]), (Below.refl _ _).alloc (Nat.le_refl _) _⟩
end Go.Proofs.Ytjijichgoodocaa
