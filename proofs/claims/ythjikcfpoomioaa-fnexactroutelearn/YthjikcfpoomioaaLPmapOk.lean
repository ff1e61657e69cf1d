/- Maps of parts: their sizes, copies, equality and marks. -/
import Derived.Test.YthjikcfpoomioaaMkRow
import Derived.Test.YthjikcfpoomioaaPmapI
import Derived.Test.YthjikcfpoomioaaLVmapOk
namespace Go.Proofs.Ythjikcfpoomioaa
open Go.RowKit

set_option maxHeartbeats 1000000 in
theorem szPmap_any (ep : Int) (a : Option Addr) (vs : List RowD) (cap : Nat) (left : Int) (w : World) (hv : RowsIn w a vs) (hf : ∀ v ∈ vs, v.fits) (hn : vs.length ≤ maxLen) (h0 : 0 ≤ left) (hl : left ≤ 1048576) :
    Calls Try.prog 37 #[.agg #[.int .i64 ep, .slice a vs.length cap], .int .i64 left] w (SzPost left (RowsSize vs) w) := by
  have HV := Lib.hid hv
  have HT := Lib.hid hf
  have HN := Lib.hid hn
  clear hv hf hn
  go_enter Try.func37, Try.ntmps37
  go_wp2_with fail
  with_reducible refine (szRowS_any _ _ _ _ _ ?hv HT.out HN.out h0 hl).mono ?_
  case hv => exact HV.out.below ((Below.refl _ _).alloc (Nat.le_refl _) _)
  rintro e w2 ⟨z2, rfl, hz2, hb2⟩
  have HB2 := Lib.hid (((Below.refl w.heap.size w).alloc (Nat.le_refl _) _).trans (hb2.mono (by simp)))
  clear hb2
  rcases hz2 with rfl | ⟨hp, hsum⟩
  · go_wp2_with fail
    go_ret
    exact ⟨-1, rfl, .inl rfl, HB2.out⟩
  · have HS := Lib.hid hsum
    clear hsum
    go_wp2_with fail
    go_ret
    exact ⟨z2, rfl, .inr ⟨hp, HS.out⟩, HB2.out⟩

def ToPm (ep : Int) (vs : List RowD) (w : World) (e : Ending) (w' : World) : Prop :=
  ∃ g, w.heap.size ≤ g ∧ e = .returned (.agg #[.int .i64 ep, .slice (some ⟨g, 0, none⟩) vs.length vs.length]) ∧ RowsIn w' (some ⟨g, 0, none⟩) vs ∧ Free w' (some ⟨g, 0, none⟩) (vs.length * 2) ∧ Below w.heap.size w w' ∧ g < w'.heap.size

theorem Free.set' {u : World} {b g o n : Nat} {x : Value} (h : Free u (some ⟨b, 0, none⟩) n) (hg : g ≠ b) : Free (u.setCell ⟨g, o, none⟩ x) (some ⟨b, 0, none⟩) n :=
  h.turned (S := fun k => k = g) (fun b' off e k => hg (by cases e; exact k.symm)) ((Turned.refl (fun k => k = g) u).setCell (p := ⟨g, o, none⟩) rfl x)

set_option maxHeartbeats 1000000 in
theorem toPmap_any (ep : Int) (a : Option Addr) (vs : List RowD) (cap : Nat) (w : World) (hv : RowsIn w a vs) (hn : vs.length ≤ 1048576) :
    Calls Try.prog 39 #[.agg #[.int .i64 ep, .slice a vs.length cap]] w (ToPm ep vs w) := by
  have HV := Lib.hid hv
  clear hv
  go_enter Try.func39, Try.ntmps39
  go_wp2_with fail
  with_reducible refine (toRowS_any _ _ _ _ ?hv hn).mono ?_
  case hv => exact HV.out.below ((((Below.refl _ _).alloc (Nat.le_refl _) _).alloc (by simp) _).alloc (by simp; omega) _)
  rintro e w2 ⟨rfl, hvs, hfr, hb2, hlt2⟩
  have HL2 := Lib.hid hlt2
  clear hlt2
  have HS := Lib.hid hvs
  have HF := Lib.hid hfr
  clear hvs hfr
  have c20 := hb2.cell (p := ⟨w.heap.size + 1 + 1, 0, none⟩) (by simp)
  have c21 := hb2.cell (p := ⟨w.heap.size + 1 + 1, 1, none⟩) (by simp)
  have c10 := hb2.cell (p := ⟨w.heap.size + 1, 0, none⟩) (by simp)
  have c11 := hb2.cell (p := ⟨w.heap.size + 1, 1, none⟩) (by simp)
  have f20 := hb2.frozen (p := ⟨w.heap.size + 1 + 1, 0, none⟩) (by simp)
  have f21 := hb2.frozen (p := ⟨w.heap.size + 1 + 1, 1, none⟩) (by simp)
  have f10 := hb2.frozen (p := ⟨w.heap.size + 1, 0, none⟩) (by simp)
  have f11 := hb2.frozen (p := ⟨w.heap.size + 1, 1, none⟩) (by simp)
  have HZ := Lib.hid hb2
  clear hb2
  simp [go_sem] at c20 c21 c10 c11 f20 f21 f10 f11
  go_wp2_with fail
  have HB := Lib.hid ((((Below.refl w.heap.size w).alloc (Nat.le_refl _) _).alloc (by simp) _).alloc (by simp; omega) _ |>.trans (HZ.out.mono (by simp; omega)))
  have HS' := HS.out
  have HF' := HF.out
  simp only [World.size_alloc] at HS' HF'
  refine bodyPost_ret (v := .agg #[.int .i64 ep, .slice (some ⟨w.heap.size + 1 + 1 + 1, 0, none⟩) vs.length vs.length]) (by simp [results, Try.results39, go_sem, c10, c11]) rfl ⟨w.heap.size + 1 + 1 + 1, by omega, rfl, ?_, ?_, ?_, ?_⟩
  · exact ((HS'.set (by omega)).set (by omega)).set (by omega)
  · exact ((HF'.set' (by omega)).set' (by omega)).set' (by omega)
  · exact ((HB.out.setCell (by simp; omega) _).setCell (by simp) _).setCell (by simp) _
  · have := HL2.out; simp at this ⊢; omega

set_option maxHeartbeats 1000000 in
theorem eqPmap_same (ep : Int) (a b : Option Addr) (vs : List RowD) (ca cb n : Nat) (w : World) (hl : vs.length = n) (ha : RowsIn w a vs) (hb : RowsIn w b vs) (hn : n ≤ maxLen) :
    Calls Try.prog 41 #[.agg #[.int .i64 ep, .slice a n ca], .agg #[.int .i64 ep, .slice b n cb]] w fun e w' => e = .returned (.bool true) ∧ Below w.heap.size w w' := by
  subst hl
  have HA := Lib.hid ha
  have HB := Lib.hid hb
  clear ha hb
  go_enter Try.func41, Try.ntmps41
  go_wp2_with fail
  have hb0 : Below w.heap.size w ((w.alloc (.cells #[.int .i64 ep, .slice a vs.length ca] 60)).alloc (.cells #[.int .i64 ep, .slice b vs.length cb] 60)) := ((Below.refl _ _).alloc (Nat.le_refl _) _).alloc (by simp) _
  refine (eqRowS_same a b vs ca cb _ (HA.out.below hb0) (HB.out.below hb0) hn).mono ?_
  rintro e w2 ⟨rfl, hw2⟩
  have E2 := Lib.hid (hb0.trans (hw2.mono (by simp; omega)))
  clear hw2 hb0
  go_wp2_with fail
  go_ret
  exact ⟨rfl, E2.out⟩

set_option maxHeartbeats 1000000 in
theorem markPmap_any (S : Nat → Prop) (ep : Int) (a : Option Addr) (n cap k : Nat) (w : World) (hf : Free w a (n * 2)) (hS : ∀ b off, a = some ⟨b, off, none⟩ → S b) (hk : 1 ≤ k) (hkn : k + n * 2 ≤ 100000000) :
    Calls Try.prog 42 #[.agg #[.int .i64 ep, .slice a n cap], .int .i64 (k : Int)] w (MarkedRows S a k n w) := by
  have HF := Lib.hid hf
  have HS := Lib.hid hS
  clear hf hS
  go_enter Try.func42, Try.ntmps42
  go_wp2_with fail
  have hb0 : Below w.heap.size w (w.alloc (.cells #[.int .i64 ep, .slice a n cap] 60)) := (Below.refl _ _).alloc (Nat.le_refl _) _
  refine (markRowS_any S a n cap k _ (HF.out.below hb0) HS.out hk hkn).mono ?_
  rintro e w2 ⟨rfl, h1, h2, h3⟩
  have H1 := Lib.hid h1
  have H2 := Lib.hid h2
  have H3 := Lib.hid h3
  clear h1 h2 h3
  go_wp2_with fail
  go_ret
  exact ⟨rfl, H1.out, H2.out, (Turned.of_below hb0).trans H3.out⟩
end Go.Proofs.Ythjikcfpoomioaa

/- The law of PmapOk, walked. -/
namespace Go.Proofs.Ythjikcfpoomioaa
open Go.RowKit

theorem pmOk_both {ep : Int} {vs : List RowD} {b c : Bool} (h : b = true ↔ PmapOkP ep vs) (k : c = true ↔ PmapOkP ep vs) : b = c := by rw [Bool.eq_iff_iff, h, k]
end Go.Proofs.Ythjikcfpoomioaa
