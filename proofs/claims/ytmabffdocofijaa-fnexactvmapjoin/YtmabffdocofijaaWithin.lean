/- The keys of a span, as the program gathers them: an iterator, copies, appends. -/
import Derived.RangeFuncNested
import Derived.RangeFuncBound
import Derived.RangeFuncCalls
import Derived.RangeFuncLeaves
import Derived.Shelf.Abstract
import Derived.Shelf.RegionOpen
import Derived.WalkKit
import Derived.OwnWalkIn
import Derived.TacticsInMore
import Derived.LoopNIn
import Derived.LoopIn
import Derived.Deep.RegionWith
import Derived.Test.YtmabffdocofijaaVApp
import Derived.Test.YtmabffdocofijaaMapOk
import Derived.Test.YtmabffdocofijaaSpan
namespace Go.Proofs.Ytmabffdocofijaa
open Go.RowKit Go.Shelf
attribute [local go_sem] Oper.semAt_some
attribute [local go_sem] wide_fn

theorem eqNilVer (b o n c : Nat) (w : World) : (binOp .eql 115 (.slice (some ⟨b, o, none⟩) n c) (.slice none 0 0)).run Try.prog w = .ok (.bool false) w := by first | kernel_rfl | rfl | (simp [binOp, go_sem]; done)
theorem eqNilVer0 (w : World) : (binOp .eql 115 (.slice none 0 0) (.slice none 0 0)).run Try.prog w = .ok (.bool true) w := by first | kernel_rfl | rfl | (simp [binOp, go_sem]; done)

def OwnVs (vs : List VerD) (w : World) (e : Ending) (w' : World) : Prop :=
  ∃ a c, e = .returned (.slice a vs.length c) ∧ w'.ownsRow w.heap.size 48 3 (.slice a vs.length c) vs.length (vs.flatMap verCells) ∧ Below w.heap.size w w'

set_option maxRecDepth 100000 in
set_option maxHeartbeats 1000000 in
theorem cloneVer_any (a : Option Addr) (vs : List VerD) (cap : Nat) (w : World) (hv : VersIn w a vs) (hp : PlainV a vs cap) (hlen : vs.length ≤ 1048576) :
    Calls Try.prog 166 #[.slice a vs.length cap] w (OwnVs vs w) := by
  have HV := Lib.hid hv
  have HP := Lib.hid hp.1
  rcases hp.1 with ⟨b1, o1, rfl⟩ | ⟨rfl, rfl, rfl⟩
  · have hnl := eqNilVer b1 o1
    clear hv hp
    go_enter Try.func166, Try.ntmps166
    go_wp2_with (at_builtin; refine wpList_append_ver rfl _ _ 115 rfl Try.underlying115 w.heap.size (.slice (some ⟨w.heap.size, 0, none⟩) 0 0) 0 [] rfl (emptyVers (heap_alloc_new _ _) (Nat.le_refl _)) (some ⟨b1, o1, none⟩) vs cap rfl HP.out (HV.out.below ((Below.refl _ _).alloc (Nat.le_refl _) _)) (by omega) (by simp) (by simp) ?_; intro g cp w2 hown hgrow; have hbA := below_app hgrow; have X := Lib.hid (And.intro hown hbA); clear hown hgrow hbA)
    go_ret
    obtain ⟨hown, hbA⟩ := X.out
    rw [Nat.zero_add, List.nil_append] at hown
    exact ⟨some ⟨g, 0, none⟩, cp, by simp, hown, hbA⟩
  · have hnl := eqNilVer0 w
    clear hv hp
    go_enter Try.func166, Try.ntmps166
    go_wp2_with fail
    go_ret
    exact ⟨none, 0, rfl, World.ownsRow_nil _ _ _ _, Below.refl _ _⟩

/-- An object of its own: the same key, the versions from n on. -/
def FromPost (key : ByteArray) (vs : List VerD) (w : World) (e : Ending) (w' : World) : Prop :=
  ∃ a c, e = .returned (.agg #[.string key, .slice a vs.length c]) ∧ VersIn w' a vs ∧ Free w' a (vs.length * 3) ∧ Lies w.heap.size w'.heap.size a ∧ OfVer w' a ∧ PlainV a vs c ∧ Below w.heap.size w w'
theorem VersIn.drop {w : World} {b o : Nat} {vs : List VerD} (h : VersIn w (some ⟨b, o, none⟩) vs) (n : Nat) : VersIn w (some ⟨b, o + n * 3, none⟩) (vs.drop n) := by
  rcases h with rfl | ⟨b1, o1, e, hb, hc⟩
  · exact .inl (by simp)
  · cases e
    refine .inr ⟨b, _, rfl, hb, fun i h => ?_⟩
    simp only [List.length_drop] at h
    rw [List.getElem_drop]
    have := hc (n + i) (by omega)
    rw [show o + n * 3 + i * 3 = o + (n + i) * 3 by omega]
    exact this
theorem VersIn.at0 {w : World} {b o : Nat} {vs : List VerD} {p : Option Addr} (h : VersIn w p vs) (n : Nat) (h0 : vs.drop n = []) (q : Option Addr) : VersIn w q (vs.drop n) := .inl h0
theorem cloneVer_at (a : Option Addr) (vs : List VerD) (m cap : Nat) (w : World) (hm : vs.length = m) (hv : VersIn w a vs) (hp : PlainV a vs cap) (hlen : vs.length ≤ 1048576) :
    Calls Try.prog 166 #[.slice a m cap] w (OwnVs vs w) := hm ▸ cloneVer_any a vs cap w hv hp hlen

set_option maxRecDepth 100000 in
set_option maxHeartbeats 2000000 in
theorem from_nil (key : ByteArray) (w : World) :
    Calls Try.prog 90 #[.agg #[.string key, .slice none 0 0], .int .i64 0] w (FromPost key [] w) := by
  obtain ⟨W1, hW1⟩ : ∃ W1, (w.alloc (.cells #[.string key, .slice none 0 0] 117)).alloc (.cells #[.string ⟨#[]⟩, .slice none 0 0] 117) = W1 := ⟨_, rfl⟩
  have B1 : Below w.heap.size w W1 := by rw [← hW1]; exact ((Below.refl _ _).alloc (Nat.le_refl _) _).alloc (by simp) _
  have z0 : w.heap.size < W1.heap.size := by rw [← hW1]; simp <;> omega
  have z1 : w.heap.size + 1 < W1.heap.size := by rw [← hW1]; simp
  have c0 : W1.cell? ⟨w.heap.size, 0, none⟩ = some (.string key) := by rw [← hW1]; simp [go_sem]
  have c1 : W1.cell? ⟨w.heap.size, 1, none⟩ = some (.slice none 0 0) := by rw [← hW1]; simp [go_sem]
  have d0 : W1.cell? ⟨w.heap.size + 1, 0, none⟩ = some (.string ⟨#[]⟩) := by rw [← hW1]; simp [go_sem]
  have d1 : W1.cell? ⟨w.heap.size + 1, 1, none⟩ = some (.slice none 0 0) := by rw [← hW1]; simp [go_sem]
  have f0 : W1.frozen? ⟨w.heap.size + 1, 0, none⟩ = false := by rw [← hW1]; simp [go_sem]
  have f1 : W1.frozen? ⟨w.heap.size + 1, 1, none⟩ = false := by rw [← hW1]; simp [go_sem]
  have HB1 := Lib.hid B1
  clear B1
  go_enter Try.func90, Try.ntmps90
  go_wp2_with fail
  clear hW1
  go_region_with (go_at_call 166; refine (cloneVer_at none [] 0 0 _ rfl (.inl rfl) ⟨.inr ⟨rfl, rfl, rfl⟩, Nat.le_refl _, Nat.zero_le _⟩ (Nat.zero_le _)).mono ?_; rintro e w2 ⟨p, c, rfl, hown, hb2⟩; have c0' := (hb2.cell (p := ⟨w.heap.size, 0, none⟩) z0).trans c0; have d0' := (hb2.cell (p := ⟨w.heap.size + 1, 0, none⟩) z1).trans d0; have d1' := (hb2.cell (p := ⟨w.heap.size + 1, 1, none⟩) z1).trans d1; have f0' := (hb2.frozen (p := ⟨w.heap.size + 1, 0, none⟩) z1).trans f0; have f1' := (hb2.frozen (p := ⟨w.heap.size + 1, 1, none⟩) z1).trans f1; have z1' : w.heap.size + 1 < w2.heap.size := Nat.lt_of_lt_of_le z1 hb2.size; have X := Lib.hid (And.intro hown hb2); clear hown hb2)
  all_goals
    go_wp2_with fail
    refine bodyPost_ret (v := .agg #[.string key, .slice p 0 c]) (by simp [results, Try.results90, go_sem, d0', d1', z1']) rfl ?_
    obtain ⟨hown, hb⟩ := X.out
    obtain ⟨pa, pc, pe, p1, p2, p3, p4, p5⟩ := own_versH hown
    injection pe with pe1 pe2 pe3
    subst pe1 pe3
    refine ⟨p, c, rfl, .inl rfl, .inl rfl, fun b off e => ?_, fun b off e => ?_, p5, ?_⟩
    · have := p3 b off e
      have h9 : W1.drew.heap.size = W1.heap.size := rfl
      refine ⟨by omega, by simp; omega⟩
    · obtain ⟨cc, q, hc⟩ := p4 b off e
      have := p3 b off e
      have h9 : W1.drew.heap.size = W1.heap.size := rfl
      have hne : b ≠ w.heap.size + 1 := by omega
      exact ⟨cc, q, ((Below.heap_setCell _ ⟨w.heap.size + 1, 1, none⟩ _ _ hne).trans (Below.heap_setCell _ ⟨w.heap.size + 1, 0, none⟩ _ _ hne)).trans hc⟩
    · exact ((HB1.out.drew.trans (hb.mono HB1.out.size)).setCell (p := ⟨w.heap.size + 1, 0, none⟩) (by simp) _).setCell (p := ⟨w.heap.size + 1, 1, none⟩) (by simp) _

set_option maxRecDepth 100000 in
set_option maxHeartbeats 2000000 in
theorem from_any (key : ByteArray) (a : Option Addr) (vs : List VerD) (cap n : Nat) (w : World) (hv : VersIn w a vs) (hp : PlainV a vs cap) (hn : n ≤ vs.length) (hlen : vs.length ≤ 1048576) :
    Calls Try.prog 90 #[.agg #[.string key, .slice a vs.length cap], .int .i64 (n : Int)] w (FromPost key (vs.drop n) w) := by
  obtain ⟨hp0, hc1, hc2⟩ := hp
  unfold maxLen at hc2
  have HV := Lib.hid hv
  clear hv
  have hle : (vs.drop n).length ≤ 1048576 := by simp; omega
  have hdl : (vs.drop n).length = vs.length - n := by simp
  have HL := Lib.hid hle
  have HD := Lib.hid hdl
  clear hle hdl
  obtain ⟨W1, hW1⟩ : ∃ W1, (w.alloc (.cells #[.string key, .slice a vs.length cap] 117)).alloc (.cells #[.string ⟨#[]⟩, .slice none 0 0] 117) = W1 := ⟨_, rfl⟩
  have B1 : Below w.heap.size w W1 := by rw [← hW1]; exact ((Below.refl _ _).alloc (Nat.le_refl _) _).alloc (by simp) _
  have z0 : w.heap.size < W1.heap.size := by rw [← hW1]; simp <;> omega
  have z1 : w.heap.size + 1 < W1.heap.size := by rw [← hW1]; simp
  have c0 : W1.cell? ⟨w.heap.size, 0, none⟩ = some (.string key) := by rw [← hW1]; simp [go_sem]
  have c1 : W1.cell? ⟨w.heap.size, 1, none⟩ = some (.slice a vs.length cap) := by rw [← hW1]; simp [go_sem]
  have d0 : W1.cell? ⟨w.heap.size + 1, 0, none⟩ = some (.string ⟨#[]⟩) := by rw [← hW1]; simp [go_sem]
  have d1 : W1.cell? ⟨w.heap.size + 1, 1, none⟩ = some (.slice none 0 0) := by rw [← hW1]; simp [go_sem]
  have f0 : W1.frozen? ⟨w.heap.size + 1, 0, none⟩ = false := by rw [← hW1]; simp [go_sem]
  have f1 : W1.frozen? ⟨w.heap.size + 1, 1, none⟩ = false := by rw [← hW1]; simp [go_sem]
  have HB1 := Lib.hid B1
  clear B1
  have q0 : (0 : Int) ≤ (n : Int) := by omega
  have q1 : (n : Int) ≤ (vs.length : Int) := by omega
  have q2 : (n : Int) ≤ (cap : Int) := by omega
  have fin : ∀ (w2 : World) (p : Option Addr) (c : Nat), w2.ownsRow W1.drew.heap.size 48 3 (.slice p (vs.drop n).length c) (vs.drop n).length ((vs.drop n).flatMap verCells) → Below W1.drew.heap.size W1.drew w2 → ∀ (x y : Value), FromPost key (vs.drop n) w (.returned (.agg #[.string key, .slice p (vs.drop n).length c])) ((w2.setCell ⟨w.heap.size + 1, 0, none⟩ x).setCell ⟨w.heap.size + 1, 1, none⟩ y) := fun w2 p c hown hb x y => by
    obtain ⟨pa, pc, pe, p1, p2, p3, p4, p5⟩ := own_versH hown
    injection pe with pe1 pe2 pe3
    subst pe1 pe3
    have hS : ∀ b off, p = some ⟨b, off, none⟩ → ¬ (b = w.heap.size + 1) := fun b off e h => by have := (p3 b off e).1; have : W1.drew.heap.size = W1.heap.size := rfl; omega
    have hT : Turned (fun b => b = w.heap.size + 1) w2 ((w2.setCell ⟨w.heap.size + 1, 0, none⟩ x).setCell ⟨w.heap.size + 1, 1, none⟩ y) := ((Turned.refl (fun b => b = w.heap.size + 1) w2).setCell (p := ⟨w.heap.size + 1, 0, none⟩) rfl x).setCell (p := ⟨w.heap.size + 1, 1, none⟩) rfl y
    refine ⟨p, c, rfl, p1.turned hS hT, p2.turned hS hT, fun b off e => ?_, fun b off e => ?_, p5, ?_⟩
    · have := p3 b off e
      have h9 : W1.drew.heap.size = W1.heap.size := rfl
      exact ⟨by omega, by have := hT.size; omega⟩
    · obtain ⟨cc, q, hc⟩ := p4 b off e
      exact ⟨cc, q, (hT.block b (p3 b off e).2 (hS b off e)).trans hc⟩
    · exact ((HB1.out.drew.trans (hb.mono HB1.out.size)).setCell (p := ⟨w.heap.size + 1, 0, none⟩) (by simp) _).setCell (p := ⟨w.heap.size + 1, 1, none⟩) (by simp) _
  have FIN := Lib.hid fin
  clear fin
  rcases hp0 with ⟨b1, o1, rfl⟩ | ⟨rfl, rfl, rfl⟩
  · by_cases q4 : n = cap
    case' pos => subst q4
    all_goals
      go_enter Try.func90, Try.ntmps90
      go_wp2_with fail
      clear hW1
      go_region_with (go_at_call 166; refine (cloneVer_at _ (vs.drop n) _ _ _ ?hm ?hvv ?hpp HL.out).mono ?_; (case hm => (have := HD.out; omega)); (case hvv => (first | exact ((HV.out.below HB1.out).drop n).below ((Below.refl _ _).drew) | exact .inl (by rw [List.drop_eq_nil_iff]; omega))); (case hpp => exact ⟨.inl ⟨_, _, rfl⟩, (by have := HD.out; omega), (by unfold maxLen; omega)⟩); rintro e w2 ⟨p, c, rfl, hown, hb2⟩; have c0' := (hb2.cell (p := ⟨w.heap.size, 0, none⟩) z0).trans c0; have d0' := (hb2.cell (p := ⟨w.heap.size + 1, 0, none⟩) z1).trans d0; have d1' := (hb2.cell (p := ⟨w.heap.size + 1, 1, none⟩) z1).trans d1; have f0' := (hb2.frozen (p := ⟨w.heap.size + 1, 0, none⟩) z1).trans f0; have f1' := (hb2.frozen (p := ⟨w.heap.size + 1, 1, none⟩) z1).trans f1; have z1' : w.heap.size + 1 < w2.heap.size := Nat.lt_of_lt_of_le z1 hb2.size; have X := Lib.hid (And.intro hown hb2); clear hown hb2)
      all_goals
        go_wp2_with fail
        exact bodyPost_ret (v := .agg #[.string key, .slice p (vs.drop n).length c]) (by simp [results, Try.results90, go_sem, d0', d1', z1'] <;> omega) rfl (FIN.out _ _ _ X.out.1 X.out.2 _ _)
  · obtain rfl : n = 0 := by simpa using hn
    exact from_nil key w
theorem from0_any (o : ObjD) (w : World) (hv : VersIn w o.at_ o.vers) (hp : o.plain) (hlen : o.vers.length ≤ 1048576) :
    Calls Try.prog 90 #[.agg #[.string o.key, .slice o.at_ o.vers.length o.cap], .int .i64 0] w (FromPost o.key o.vers w) :=
  from_any o.key o.at_ o.vers o.cap 0 w hv hp (Nat.zero_le _) hlen
end Go.Proofs.Ytmabffdocofijaa
