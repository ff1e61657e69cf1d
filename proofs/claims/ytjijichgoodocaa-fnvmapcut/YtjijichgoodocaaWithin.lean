/- Comparing two maps: a law's own loops. -/
import Derived.Test.YtjijichgoodocaaVmapAt
import Derived.Deep.QuietTactic
import Derived.BigQuiet
import Derived.RangeFuncNested
import Derived.RangeFuncBound
import Derived.RangeFuncCalls
import Derived.RangeFuncLeaves
import Derived.Shelf.Abstract
import Derived.Shelf.RegionOpen
import Derived.WalkKit
import Derived.OwnWalkIn
import Derived.TacticsInMore
import Derived.LoopNIn
import Derived.LoopIn
import Derived.Deep.RegionWith
import Derived.Test.YtjijichgoodocaaVApp
import Derived.Test.YtjijichgoodocaaUpTo
import Derived.Test.YtjijichgoodocaaSpan
namespace Go.Proofs.Ytjijichgoodocaa
open Go.RowKit

theorem below_drewV {B : Nat} {a w : World} (h : Below B a w) (n : Nat) : Below B a (w.drewN n) := ⟨h.os, h.tape, h.output, h.size, h.block⟩

set_option maxRecDepth 100000 in
set_option maxHeartbeats 2000000 in
theorem caVers_same (a b : Option Addr) (vs : List VerD) (ca cb : Nat) (w : World) (ha : VersIn w a vs) (hb : VersIn w b vs) (hn : vs.length ≤ maxLen) :
    Calls Try.prog 84 #[.slice a vs.length ca, .slice b vs.length cb] w fun e w' => e = .returned (.bool true) ∧ ∃ n, w' = w.drewN n := by
  unfold maxLen at hn
  have HA := Lib.hid ha
  have HB := Lib.hid hb
  clear ha hb
  go_enter Try.func84, Try.ntmps84
  go_wp2_with fail
  go_loopw [5] (fun i wr => ∃ (k n : Nat), k ≤ vs.length ∧ i = .int .i64 k ∧ wr = w.drewN n) (fun i _ => vs.length - (intOf i).toNat)
  case atStart => exact ⟨0, 0, Nat.zero_le _, rfl, rfl⟩
  case round =>
    obtain ⟨k, n, hk, rfl, rfl⟩ := hrel
    by_cases hlt : k < vs.length
    · rcases HA.out with hnil | ⟨b1, o1, rfl, hb1, hc1⟩
      · rw [hnil] at hlt; simp at hlt
      rcases HB.out with hnil | ⟨b2, o2, rfl, hb2, hc2⟩
      · rw [hnil] at hlt; simp at hlt
      obtain ⟨c0, c1, c2⟩ := hc1 k hlt
      obtain ⟨d0, d1, d2⟩ := hc2 k hlt
      clear hc1 hc2
      have i1 : (0 : Int) ≤ (k : Int) := by omega
      have i2 : (k : Int) < (vs.length : Int) := by omega
      go_wp2_with fail
      go_quiet (fail)
      go_wp2_with fail
      go_roundw
      case rel => exact ⟨k + 1, _, by omega, by go_num, rfl⟩
      case measure => simp [intOf]; omega
    · go_wp2_with fail
      go_ret
      exact ⟨rfl, n, rfl⟩

set_option maxRecDepth 100000 in
set_option maxHeartbeats 4000000 in
theorem caMap_same (a b : Option Addr) (xs ys : List ObjD) (ca cb n m : Nat) (w : World) (ha : ObjsIn w a xs) (hb : ObjsIn w b ys) (hs : SameObjs xs ys) (hx : xs.length = n) (hy : ys.length = m) (hf : ∀ o ∈ xs, o.fits) (hn : n ≤ maxLen) :
    Calls Try.prog 18 #[.agg #[.slice a n ca], .agg #[.slice b m cb]] w fun e w' => e = .returned (.bool true) ∧ Below w.heap.size w w' := by
  unfold maxLen at hn
  obtain rfl : m = n := by rw [← hx, ← hy]; exact hs.1.symm
  have HA := Lib.hid ha
  have HB := Lib.hid hb
  have HS := Lib.hid hs
  have HX := Lib.hid hx
  have HY := Lib.hid hy
  have HF := Lib.hid hf
  clear ha hb hs hx hy hf
  obtain ⟨W0, hW0⟩ : ∃ W0, (w.alloc (.cells #[.slice a m ca] 25)).alloc (.cells #[.slice b m cb] 25) = W0 := ⟨_, rfl⟩
  have B0 : Below w.heap.size w W0 := by rw [← hW0]; exact ((Below.refl _ _).alloc (Nat.le_refl _) _).alloc (by simp) _
  have x0 : W0.cell? ⟨w.heap.size, 0, none⟩ = some (.slice a m ca) := by rw [← hW0]; simp [go_sem]
  have y0 : W0.cell? ⟨w.heap.size + 1, 0, none⟩ = some (.slice b m cb) := by rw [← hW0]; simp [go_sem]
  have z1 : w.heap.size + 1 < W0.heap.size := by rw [← hW0]; simp
  have z0 : w.heap.size < W0.heap.size := by omega
  have HB0 := Lib.hid B0
  clear B0
  go_enter Try.func18, Try.ntmps18
  go_wp2_with fail
  clear hW0
  go_loopw [5] (fun i wr => ∃ (k : Nat), k ≤ m ∧ i = .int .i64 k ∧ Below W0.heap.size W0 wr) (fun i _ => m - (intOf i).toNat)
  case atStart => exact ⟨0, Nat.zero_le _, rfl, Below.refl _ _⟩
  case round =>
    obtain ⟨k, hk, rfl, hB⟩ := hrel
    obtain ⟨V, rfl⟩ : ∃ V, V = wr := ⟨_, rfl⟩
    have x1 := (hB.cell (p := ⟨w.heap.size, 0, none⟩) z0).trans x0
    have y1 := (hB.cell (p := ⟨w.heap.size + 1, 0, none⟩) z1).trans y0
    have HW := Lib.hid (HB0.out.trans (hB.mono HB0.out.size))
    have HV := Lib.hid hB
    clear hB x0 y0
    by_cases hlt : k < m
    · have hkx : k < xs.length := by have := HX.out; omega
      have hky : k < ys.length := by have := HY.out; omega
      rcases HA.out.below HW.out with hnil | ⟨b1, o1, rfl, hb1, hc1⟩
      · rw [hnil] at hkx; simp at hkx
      rcases HB.out.below HW.out with hnil | ⟨b2, o2, rfl, hb2, hc2⟩
      · rw [hnil] at hky; simp at hky
      obtain ⟨c0, c1, cv⟩ := hc1 k hkx
      obtain ⟨d0, d1, dv⟩ := hc2 k hky
      obtain ⟨ek, ev⟩ := HS.out.2 k hkx hky
      have hfk := (HF.out _ (List.getElem_mem hkx)).2.1
      rw [← ek] at d0
      rw [← ev] at d1 dv
      have CV := Lib.hid cv
      have DV := Lib.hid dv
      have HFK := Lib.hid hfk
      clear hc1 hc2 ek ev cv dv hfk
      generalize ys[k].at_ = yat at *
      generalize ys[k].cap = ycap at *
      generalize xs[k].at_ = xat at *
      generalize xs[k].cap = xcap at *
      generalize xs[k].key = xkey at *
      generalize xs[k].vers = xvs at *
      have i1 : (0 : Int) ≤ (k : Int) := by omega
      have i2 : (k : Int) < (m : Int) := by omega
      have q1 := And.intro x1 (And.intro y1 (And.intro c0 (And.intro c1 (And.intro d0 d1))))
      have q2 := q1
      go_wp2_with fail
      go_region_held3 (fun u => u.cell? ⟨w.heap.size, 0, none⟩ = some (.slice (some ⟨b1, o1, none⟩) m ca) ∧ u.cell? ⟨w.heap.size + 1, 0, none⟩ = some (.slice (some ⟨b2, o2, none⟩) m cb) ∧ u.cell? ⟨b1, o1 + k * 2, none⟩ = some (.string xkey) ∧ u.cell? ⟨b1, o1 + k * 2 + 1, none⟩ = some (.slice xat xvs.length xcap) ∧ u.cell? ⟨b2, o2 + k * 2, none⟩ = some (.string xkey) ∧ u.cell? ⟨b2, o2 + k * 2 + 1, none⟩ = some (.slice yat xvs.length ycap))
        (first | with_reducible exact q2 | exact q1 | fail)
        (first
          | (go_at_call 84; (with_reducible refine (caVers_same _ _ _ _ _ _ (CV.out.below ((Below.refl _ _).drew)) (DV.out.below ((Below.refl _ _).drew)) HFK.out).mono ?_); rintro e w2 ⟨rfl, nn, hw2⟩; have hcc : ∀ p, w2.cell? p = V.cell? p := (fun p => by rw [hw2]; rfl); have q2 := And.intro ((hcc _).trans x1) (And.intro ((hcc _).trans y1) (And.intro ((hcc _).trans c0) (And.intro ((hcc _).trans c1) (And.intro ((hcc _).trans d0) ((hcc _).trans d1))))); have hb3 : Below V.heap.size V w2 := (by rw [hw2]; exact below_drewV ((Below.refl _ _).drew) _); clear hw2 hcc)
          | fail)
      all_goals
        have HW3 := Lib.hid (HV.out.trans (hb3.mono HV.out.size))
        clear hb3 q2
        go_wp2_with fail
        go_roundw
        case rel => exact ⟨k + 1, by omega, by go_num, HW3.out⟩
        case measure => simp [intOf]; omega
    · go_wp2_with fail
      go_ret
      exact ⟨rfl, HW.out⟩
end Go.Proofs.Ytjijichgoodocaa

/- The keys of a span, as the program gathers them: an iterator, copies, appends. -/
namespace Go.Proofs.Ytjijichgoodocaa
open Go.RowKit Go.Shelf
attribute [local go_sem] Oper.semAt_some
attribute [local go_sem] wide_fn

theorem eqNilVer (b o n c : Nat) (w : World) : (binOp .eql 43 (.slice (some ⟨b, o, none⟩) n c) (.slice none 0 0)).run Try.prog w = .ok (.bool false) w := by first | kernel_rfl | rfl | (simp [binOp, go_sem]; done)
theorem eqNilVer0 (w : World) : (binOp .eql 43 (.slice none 0 0) (.slice none 0 0)).run Try.prog w = .ok (.bool true) w := by first | kernel_rfl | rfl | (simp [binOp, go_sem]; done)

def OwnVs (vs : List VerD) (w : World) (e : Ending) (w' : World) : Prop :=
  ∃ a c, e = .returned (.slice a vs.length c) ∧ w'.ownsRow w.heap.size 27 3 (.slice a vs.length c) vs.length (vs.flatMap verCells) ∧ Below w.heap.size w w'

set_option maxRecDepth 100000 in
set_option maxHeartbeats 1000000 in
theorem cloneVer_any (a : Option Addr) (vs : List VerD) (cap : Nat) (w : World) (hv : VersIn w a vs) (hp : PlainV a vs cap) (hlen : vs.length ≤ 1048576) :
    Calls Try.prog 149 #[.slice a vs.length cap] w (OwnVs vs w) := by
  have HV := Lib.hid hv
  have HP := Lib.hid hp.1
  rcases hp.1 with ⟨b1, o1, rfl⟩ | ⟨rfl, rfl, rfl⟩
  · have hnl := eqNilVer b1 o1
    clear hv hp
    go_enter Try.func149, Try.ntmps149
    go_wp2_with (at_builtin; refine wpList_append_ver rfl _ _ 43 rfl Try.underlying43 w.heap.size (.slice (some ⟨w.heap.size, 0, none⟩) 0 0) 0 [] rfl (emptyVers (heap_alloc_new _ _) (Nat.le_refl _)) (some ⟨b1, o1, none⟩) vs cap rfl HP.out (HV.out.below ((Below.refl _ _).alloc (Nat.le_refl _) _)) (by omega) (by simp) (by simp) ?_; intro g cp w2 hown hgrow; have hbA := below_app hgrow; have X := Lib.hid (And.intro hown hbA); clear hown hgrow hbA)
    go_ret
    obtain ⟨hown, hbA⟩ := X.out
    rw [Nat.zero_add, List.nil_append] at hown
    exact ⟨some ⟨g, 0, none⟩, cp, by simp, hown, hbA⟩
  · have hnl := eqNilVer0 w
    clear hv hp
    go_enter Try.func149, Try.ntmps149
    go_wp2_with fail
    go_ret
    exact ⟨none, 0, rfl, World.ownsRow_nil _ _ _ _, Below.refl _ _⟩

/-- An object of its own: the same key, the versions from n on. -/
def FromPost (key : ByteArray) (vs : List VerD) (w : World) (e : Ending) (w' : World) : Prop :=
  ∃ a c, e = .returned (.agg #[.string key, .slice a vs.length c]) ∧ VersIn w' a vs ∧ Free w' a (vs.length * 3) ∧ Lies w.heap.size w'.heap.size a ∧ OfVer w' a ∧ PlainV a vs c ∧ Below w.heap.size w w'
theorem VersIn.drop {w : World} {b o : Nat} {vs : List VerD} (h : VersIn w (some ⟨b, o, none⟩) vs) (n : Nat) : VersIn w (some ⟨b, o + n * 3, none⟩) (vs.drop n) := by
  rcases h with rfl | ⟨b1, o1, e, hb, hc⟩
  · exact .inl (by simp)
  · cases e
    refine .inr ⟨b, _, rfl, hb, fun i h => ?_⟩
    simp only [List.length_drop] at h
    rw [List.getElem_drop]
    have := hc (n + i) (by omega)
    rw [show o + n * 3 + i * 3 = o + (n + i) * 3 by omega]
    exact this
theorem VersIn.at0 {w : World} {b o : Nat} {vs : List VerD} {p : Option Addr} (h : VersIn w p vs) (n : Nat) (h0 : vs.drop n = []) (q : Option Addr) : VersIn w q (vs.drop n) := .inl h0
theorem cloneVer_at (a : Option Addr) (vs : List VerD) (m cap : Nat) (w : World) (hm : vs.length = m) (hv : VersIn w a vs) (hp : PlainV a vs cap) (hlen : vs.length ≤ 1048576) :
    Calls Try.prog 149 #[.slice a m cap] w (OwnVs vs w) := hm ▸ cloneVer_any a vs cap w hv hp hlen

set_option maxRecDepth 100000 in
set_option maxHeartbeats 2000000 in
theorem from_nil (key : ByteArray) (w : World) :
    Calls Try.prog 103 #[.agg #[.string key, .slice none 0 0], .int .i64 0] w (FromPost key [] w) := by
  obtain ⟨W1, hW1⟩ : ∃ W1, (w.alloc (.cells #[.string key, .slice none 0 0] 45)).alloc (.cells #[.string ⟨#[]⟩, .slice none 0 0] 45) = W1 := ⟨_, rfl⟩
  have B1 : Below w.heap.size w W1 := by rw [← hW1]; exact ((Below.refl _ _).alloc (Nat.le_refl _) _).alloc (by simp) _
  have z0 : w.heap.size < W1.heap.size := by rw [← hW1]; simp <;> omega
  have z1 : w.heap.size + 1 < W1.heap.size := by rw [← hW1]; simp
  have c0 : W1.cell? ⟨w.heap.size, 0, none⟩ = some (.string key) := by rw [← hW1]; simp [go_sem]
  have c1 : W1.cell? ⟨w.heap.size, 1, none⟩ = some (.slice none 0 0) := by rw [← hW1]; simp [go_sem]
  have d0 : W1.cell? ⟨w.heap.size + 1, 0, none⟩ = some (.string ⟨#[]⟩) := by rw [← hW1]; simp [go_sem]
  have d1 : W1.cell? ⟨w.heap.size + 1, 1, none⟩ = some (.slice none 0 0) := by rw [← hW1]; simp [go_sem]
  have f0 : W1.frozen? ⟨w.heap.size + 1, 0, none⟩ = false := by rw [← hW1]; simp [go_sem]
  have f1 : W1.frozen? ⟨w.heap.size + 1, 1, none⟩ = false := by rw [← hW1]; simp [go_sem]
  have HB1 := Lib.hid B1
  clear B1
  go_enter Try.func103, Try.ntmps103
  go_wp2_with fail
  clear hW1
  go_region_with (go_at_call 149; refine (cloneVer_at none [] 0 0 _ rfl (.inl rfl) ⟨.inr ⟨rfl, rfl, rfl⟩, Nat.le_refl _, Nat.zero_le _⟩ (Nat.zero_le _)).mono ?_; rintro e w2 ⟨p, c, rfl, hown, hb2⟩; have c0' := (hb2.cell (p := ⟨w.heap.size, 0, none⟩) z0).trans c0; have d0' := (hb2.cell (p := ⟨w.heap.size + 1, 0, none⟩) z1).trans d0; have d1' := (hb2.cell (p := ⟨w.heap.size + 1, 1, none⟩) z1).trans d1; have f0' := (hb2.frozen (p := ⟨w.heap.size + 1, 0, none⟩) z1).trans f0; have f1' := (hb2.frozen (p := ⟨w.heap.size + 1, 1, none⟩) z1).trans f1; have z1' : w.heap.size + 1 < w2.heap.size := Nat.lt_of_lt_of_le z1 hb2.size; have X := Lib.hid (And.intro hown hb2); clear hown hb2)
  all_goals
    go_wp2_with fail
    refine bodyPost_ret (v := .agg #[.string key, .slice p 0 c]) (by simp [results, Try.results103, go_sem, d0', d1', z1']) rfl ?_
    obtain ⟨hown, hb⟩ := X.out
    obtain ⟨pa, pc, pe, p1, p2, p3, p4, p5⟩ := own_versH hown
    injection pe with pe1 pe2 pe3
    subst pe1 pe3
    refine ⟨p, c, rfl, .inl rfl, .inl rfl, fun b off e => ?_, fun b off e => ?_, p5, ?_⟩
    · have := p3 b off e
      have h9 : W1.drew.heap.size = W1.heap.size := rfl
      refine ⟨by omega, by simp; omega⟩
    · obtain ⟨cc, q, hc⟩ := p4 b off e
      have := p3 b off e
      have h9 : W1.drew.heap.size = W1.heap.size := rfl
      have hne : b ≠ w.heap.size + 1 := by omega
      exact ⟨cc, q, ((Below.heap_setCell _ ⟨w.heap.size + 1, 1, none⟩ _ _ hne).trans (Below.heap_setCell _ ⟨w.heap.size + 1, 0, none⟩ _ _ hne)).trans hc⟩
    · exact ((HB1.out.drew.trans (hb.mono HB1.out.size)).setCell (p := ⟨w.heap.size + 1, 0, none⟩) (by simp) _).setCell (p := ⟨w.heap.size + 1, 1, none⟩) (by simp) _

set_option maxRecDepth 100000 in
set_option maxHeartbeats 2000000 in
theorem from_any (key : ByteArray) (a : Option Addr) (vs : List VerD) (cap n : Nat) (w : World) (hv : VersIn w a vs) (hp : PlainV a vs cap) (hn : n ≤ vs.length) (hlen : vs.length ≤ 1048576) :
    Calls Try.prog 103 #[.agg #[.string key, .slice a vs.length cap], .int .i64 (n : Int)] w (FromPost key (vs.drop n) w) := by
  obtain ⟨hp0, hc1, hc2⟩ := hp
  unfold maxLen at hc2
  have HV := Lib.hid hv
  clear hv
  have hle : (vs.drop n).length ≤ 1048576 := by simp; omega
  have hdl : (vs.drop n).length = vs.length - n := by simp
  have HL := Lib.hid hle
  have HD := Lib.hid hdl
  clear hle hdl
  obtain ⟨W1, hW1⟩ : ∃ W1, (w.alloc (.cells #[.string key, .slice a vs.length cap] 45)).alloc (.cells #[.string ⟨#[]⟩, .slice none 0 0] 45) = W1 := ⟨_, rfl⟩
  have B1 : Below w.heap.size w W1 := by rw [← hW1]; exact ((Below.refl _ _).alloc (Nat.le_refl _) _).alloc (by simp) _
  have z0 : w.heap.size < W1.heap.size := by rw [← hW1]; simp <;> omega
  have z1 : w.heap.size + 1 < W1.heap.size := by rw [← hW1]; simp
  have c0 : W1.cell? ⟨w.heap.size, 0, none⟩ = some (.string key) := by rw [← hW1]; simp [go_sem]
  have c1 : W1.cell? ⟨w.heap.size, 1, none⟩ = some (.slice a vs.length cap) := by rw [← hW1]; simp [go_sem]
  have d0 : W1.cell? ⟨w.heap.size + 1, 0, none⟩ = some (.string ⟨#[]⟩) := by rw [← hW1]; simp [go_sem]
  have d1 : W1.cell? ⟨w.heap.size + 1, 1, none⟩ = some (.slice none 0 0) := by rw [← hW1]; simp [go_sem]
  have f0 : W1.frozen? ⟨w.heap.size + 1, 0, none⟩ = false := by rw [← hW1]; simp [go_sem]
  have f1 : W1.frozen? ⟨w.heap.size + 1, 1, none⟩ = false := by rw [← hW1]; simp [go_sem]
  have HB1 := Lib.hid B1
  clear B1
  have q0 : (0 : Int) ≤ (n : Int) := by omega
  have q1 : (n : Int) ≤ (vs.length : Int) := by omega
  have q2 : (n : Int) ≤ (cap : Int) := by omega
  have fin : ∀ (w2 : World) (p : Option Addr) (c : Nat), w2.ownsRow W1.drew.heap.size 27 3 (.slice p (vs.drop n).length c) (vs.drop n).length ((vs.drop n).flatMap verCells) → Below W1.drew.heap.size W1.drew w2 → ∀ (x y : Value), FromPost key (vs.drop n) w (.returned (.agg #[.string key, .slice p (vs.drop n).length c])) ((w2.setCell ⟨w.heap.size + 1, 0, none⟩ x).setCell ⟨w.heap.size + 1, 1, none⟩ y) := fun w2 p c hown hb x y => by
    obtain ⟨pa, pc, pe, p1, p2, p3, p4, p5⟩ := own_versH hown
    injection pe with pe1 pe2 pe3
    subst pe1 pe3
    have hS : ∀ b off, p = some ⟨b, off, none⟩ → ¬ (b = w.heap.size + 1) := fun b off e h => by have := (p3 b off e).1; have : W1.drew.heap.size = W1.heap.size := rfl; omega
    have hT : Turned (fun b => b = w.heap.size + 1) w2 ((w2.setCell ⟨w.heap.size + 1, 0, none⟩ x).setCell ⟨w.heap.size + 1, 1, none⟩ y) := ((Turned.refl (fun b => b = w.heap.size + 1) w2).setCell (p := ⟨w.heap.size + 1, 0, none⟩) rfl x).setCell (p := ⟨w.heap.size + 1, 1, none⟩) rfl y
    refine ⟨p, c, rfl, p1.turned hS hT, p2.turned hS hT, fun b off e => ?_, fun b off e => ?_, p5, ?_⟩
    · have := p3 b off e
      have h9 : W1.drew.heap.size = W1.heap.size := rfl
      exact ⟨by omega, by have := hT.size; omega⟩
    · obtain ⟨cc, q, hc⟩ := p4 b off e
      exact ⟨cc, q, (hT.block b (p3 b off e).2 (hS b off e)).trans hc⟩
    · exact ((HB1.out.drew.trans (hb.mono HB1.out.size)).setCell (p := ⟨w.heap.size + 1, 0, none⟩) (by simp) _).setCell (p := ⟨w.heap.size + 1, 1, none⟩) (by simp) _
  have FIN := Lib.hid fin
  clear fin
  rcases hp0 with ⟨b1, o1, rfl⟩ | ⟨rfl, rfl, rfl⟩
  · by_cases q4 : n = cap
    case' pos => subst q4
    all_goals
      go_enter Try.func103, Try.ntmps103
      go_wp2_with fail
      clear hW1
      go_region_with (go_at_call 149; refine (cloneVer_at _ (vs.drop n) _ _ _ ?hm ?hvv ?hpp HL.out).mono ?_; (case hm => (have := HD.out; omega)); (case hvv => (first | exact ((HV.out.below HB1.out).drop n).below ((Below.refl _ _).drew) | exact .inl (by rw [List.drop_eq_nil_iff]; omega))); (case hpp => exact ⟨.inl ⟨_, _, rfl⟩, (by have := HD.out; omega), (by unfold maxLen; omega)⟩); rintro e w2 ⟨p, c, rfl, hown, hb2⟩; have c0' := (hb2.cell (p := ⟨w.heap.size, 0, none⟩) z0).trans c0; have d0' := (hb2.cell (p := ⟨w.heap.size + 1, 0, none⟩) z1).trans d0; have d1' := (hb2.cell (p := ⟨w.heap.size + 1, 1, none⟩) z1).trans d1; have f0' := (hb2.frozen (p := ⟨w.heap.size + 1, 0, none⟩) z1).trans f0; have f1' := (hb2.frozen (p := ⟨w.heap.size + 1, 1, none⟩) z1).trans f1; have z1' : w.heap.size + 1 < w2.heap.size := Nat.lt_of_lt_of_le z1 hb2.size; have X := Lib.hid (And.intro hown hb2); clear hown hb2)
      all_goals
        go_wp2_with fail
        exact bodyPost_ret (v := .agg #[.string key, .slice p (vs.drop n).length c]) (by simp [results, Try.results103, go_sem, d0', d1', z1'] <;> omega) rfl (FIN.out _ _ _ X.out.1 X.out.2 _ _)
  · obtain rfl : n = 0 := by simpa using hn
    exact from_nil key w
theorem from0_any (o : ObjD) (w : World) (hv : VersIn w o.at_ o.vers) (hp : o.plain) (hlen : o.vers.length ≤ 1048576) :
    Calls Try.prog 103 #[.agg #[.string o.key, .slice o.at_ o.vers.length o.cap], .int .i64 0] w (FromPost o.key o.vers w) :=
  from_any o.key o.at_ o.vers o.cap 0 w hv hp (Nat.zero_le _) hlen
end Go.Proofs.Ytjijichgoodocaa
