/- Contracts of the functions on spans, the second part: whether a key is in a span; sizes, copies and comparisons of spans. -/
import Derived.Test.YtjijichgoodocaaSpan
import Derived.Test.YtjijichgoodocaaValid
import Derived.Deep.DeepCutAuto
namespace Go.Proofs.Ytjijichgoodocaa
open Go.RowKit

theorem spanOk_is {lo hi : ByteArray} {b : Bool} (h : spanOkB lo hi = b) (hlo : lo.size ≤ maxLen) (hhi : hi.size ≤ maxLen) (w : World) :
    Calls Try.prog 30 #[.agg #[.string lo, .string hi]] w fun e w' => e = .returned (.bool b) ∧ Below w.heap.size w w' := by rw [← h]; exact spanOk_any lo hi w hlo hhi

theorem l1SpanOk_is {lo hi : ByteArray} {b : Bool} (h : spanOkB lo hi = b) (hlo : lo.size ≤ maxLen) (hhi : hi.size ≤ maxLen) (w : World) :
    Calls Try.prog 94 #[.agg #[.string lo, .string hi]] w fun e w' => e = .returned (.bool b) ∧ Below w.heap.size w w' := by rw [← h]; exact l1SpanOk_any lo hi w hlo hhi

def spanHasB (lo hi key : ByteArray) : Bool := spanOkB lo hi && keyOkB key && hasB lo hi key

theorem bsize {B : Nat} {W w1 : World} (hb : Below B W w1) : W.heap.size ≤ w1.heap.size := hb.size

set_option maxHeartbeats 1000000 in
theorem spanHas_any (lo hi key : ByteArray) (w : World) (hlo : lo.size ≤ maxLen) (hhi : hi.size ≤ maxLen) (hkey : key.size ≤ maxLen) :
    Calls Try.prog 31 #[.agg #[.string lo, .string hi], .string key] w fun e w' => e = .returned (.bool (spanHasB lo hi key)) ∧ Below w.heap.size w w' := by
  cases h1 : spanOkB lo hi
  · have hfin : Hid (spanHasB lo hi key = false) := by show _ = _; simp [spanHasB, h1]
    go_enter Try.func31, Try.ntmps31
    go_wp2_with (go_at_call 30; refine (spanOk_is h1 hlo hhi _).mono ?_; rintro e w' ⟨rfl, hb⟩)
    go_ret
    exact ⟨ret_bool (by rw [hfin.out]), ((Below.refl _ _).alloc (Nat.le_refl _) _).trans (hb.mono (by simp))⟩
  · cases h2 : keyOkB key
    · have hfin : Hid (spanHasB lo hi key = false) := by show _ = _; simp [spanHasB, h2]
      go_enter Try.func31, Try.ntmps31
      go_wp2_with (first | (go_at_call 30; refine (spanOk_is h1 hlo hhi _).mono ?_; rintro e w' ⟨rfl, hb⟩) | (go_at_call 60; refine (keyOk_is h2 hkey _).mono ?_; rintro e w' ⟨rfl, rfl⟩))
      go_ret
      exact ⟨ret_bool (by rw [hfin.out]), ((Below.refl _ _).alloc (Nat.le_refl _) _).trans (hb.mono (by simp))⟩
    · have hfin : Hid (spanHasB lo hi key = hasB lo hi key) := by show _ = _; simp [spanHasB, h1, h2]
      go_enter Try.func31, Try.ntmps31
      go_wp2_with (first | (go_at_call 30; refine (spanOk_is h1 hlo hhi _).mono ?_; rintro e w' ⟨rfl, hb⟩; obtain ⟨hc, hf⟩ := bcell hb) | (go_at_call 60; refine (keyOk_is h2 hkey _).mono ?_; rintro e w' ⟨rfl, rfl⟩) | (go_at_call 98; refine (has_any _ _ _ _).mono ?_; rintro e w'' ⟨rfl, hb2⟩))
      go_ret
      exact ⟨ret_bool (by rw [hfin.out]), (((Below.refl _ _).alloc (Nat.le_refl _) _).trans (hb.mono (by simp))).trans (hb2.mono (by have := hb.size; simp at this; omega))⟩

theorem ret_int {k : IntKind} {a b : Int} (h : a = b) : Ending.returned (.int k a) = .returned (.int k b) := by rw [h]
def szSpanZ (lo hi : ByteArray) (left : Int) : Int := if left < lo.size then -1 else if left < lo.size + hi.size then -1 else left - lo.size - hi.size
end Go.Proofs.Ytjijichgoodocaa

/- Contracts of SpanCut and SpanJoin, the program's and the model's: each returns just what the plain conditions say, and turns nothing that was in memory. -/
namespace Go.Proofs.Ytjijichgoodocaa
open Go.RowKit

theorem has_is {lo hi key : ByteArray} {b : Bool} (h : spanHasB lo hi key = b) (hlo : lo.size ≤ maxLen) (hhi : hi.size ≤ maxLen) (hkey : key.size ≤ maxLen) (w : World) :
    Calls Try.prog 31 #[.agg #[.string lo, .string hi], .string key] w fun e w' => e = .returned (.bool b) ∧ Below w.heap.size w w' := by rw [← h]; exact spanHas_any lo hi key w hlo hhi hkey
theorem l1Has_is {lo hi key : ByteArray} {b : Bool} (h : hasB lo hi key = b) (w : World) :
    Calls Try.prog 117 #[.agg #[.string lo, .string hi], .string key] w fun e w' => e = .returned (.bool b) ∧ Below w.heap.size w w' := by rw [← h]; exact l1Has_any lo hi key w

def cutOkB (lo hi key : ByteArray) : Bool := spanHasB lo hi key && !(key.toList == lo.toList)

theorem zle1 (n : Nat) : n ≤ n + 1 := by omega
theorem zle2 (n : Nat) : n ≤ n + 1 + 1 := by omega
theorem zlt2 (n : Nat) : n < n + 1 + 1 := by omega
theorem zlt3 (n : Nat) : n < n + 1 + 1 + 1 := by omega
theorem zlt31 (n : Nat) : n + 1 < n + 1 + 1 + 1 := by omega

set_option maxHeartbeats 1000000 in
theorem cut_no (lo hi key : ByteArray) (w : World) (hlo : lo.size ≤ maxLen) (hhi : hi.size ≤ maxLen) (hkey : key.size ≤ maxLen) (hn : cutOkB lo hi key = false) :
    Calls Try.prog 33 #[.agg #[.string lo, .string hi], .string key] w fun e w' => e = .returned (.tuple #[.agg #[.string ⟨#[]⟩, .string ⟨#[]⟩], .agg #[.string ⟨#[]⟩, .string ⟨#[]⟩], .bool false]) ∧ Below w.heap.size w w' := by
  cases h1 : spanHasB lo hi key
  · clear hn
    go_enter Try.func33, Try.ntmps33
    go_wp2_with (go_at_call 31; refine (has_is h1 hlo hhi hkey _).mono ?_; rintro e w1 ⟨rfl, hb1⟩; obtain ⟨hc1, hf1⟩ := bcell hb1)
    refine bodyPost_ret (v := .tuple #[.agg #[.string ⟨#[]⟩, .string ⟨#[]⟩], .agg #[.string ⟨#[]⟩, .string ⟨#[]⟩], .bool false]) (by simp [results, Try.results33, go_sem, hc1]) rfl ⟨rfl, ?_⟩
    refine Below.setCell (Below.setCell (Below.setCell (Below.setCell ?_ (zle1 _) _) (zle1 _) _) (zle2 _) _) (zle2 _) _
    exact ((((Below.refl _ _).alloc (Nat.le_refl _) _).alloc (by simp) _).alloc (by simp; omega) _).trans (hb1.mono (by simp; omega))
  · have h2 : (key.toList == lo.toList) = true := by simpa [cutOkB, h1] using hn
    clear hn
    go_enter Try.func33, Try.ntmps33
    go_wp2_with (go_at_call 31; refine (has_is h1 hlo hhi hkey _).mono ?_; rintro e w1 ⟨rfl, hb1⟩; obtain ⟨hc1, hf1⟩ := bcell hb1)
    refine bodyPost_ret (v := .tuple #[.agg #[.string ⟨#[]⟩, .string ⟨#[]⟩], .agg #[.string ⟨#[]⟩, .string ⟨#[]⟩], .bool false]) (by simp [results, Try.results33, go_sem, hc1]) rfl ⟨rfl, ?_⟩
    refine Below.setCell (Below.setCell (Below.setCell (Below.setCell ?_ (zle1 _) _) (zle1 _) _) (zle2 _) _) (zle2 _) _
    exact ((((Below.refl _ _).alloc (Nat.le_refl _) _).alloc (by simp) _).alloc (by simp; omega) _).trans (hb1.mono (by simp; omega))

set_option maxHeartbeats 1000000 in
theorem cut_yes (lo hi key : ByteArray) (w : World) (hlo : lo.size ≤ maxLen) (hhi : hi.size ≤ maxLen) (hkey : key.size ≤ maxLen) (hn : cutOkB lo hi key = true) :
    Calls Try.prog 33 #[.agg #[.string lo, .string hi], .string key] w fun e w' => e = .returned (.tuple #[.agg #[.string lo, .string key], .agg #[.string key, .string hi], .bool true]) ∧ Below w.heap.size w w' := by
  have h1 : spanHasB lo hi key = true := by simp [cutOkB] at hn; exact hn.1
  have h2 : (key.toList == lo.toList) = false := by simp [cutOkB] at hn; simp; exact hn.2
  clear hn
  go_enter Try.func33, Try.ntmps33
  go_wp2_with (go_at_call 31; refine (has_is h1 hlo hhi hkey _).mono ?_; rintro e w1 ⟨rfl, hb1⟩; obtain ⟨hc1, hf1⟩ := bcell hb1)
  go_region
  go_wp2_with fail
  refine bodyPost_ret (v := .tuple #[.agg #[.string lo, .string key], .agg #[.string key, .string hi], .bool true]) (by simp [results, Try.results33, go_sem, hc1]) rfl ⟨rfl, ?_⟩
  repeat (first | with_reducible refine Below.drew ?_ | with_reducible refine Below.setCell ?_ (zle1 _) _ | with_reducible refine Below.setCell ?_ (zle2 _) _)
  exact ((((Below.refl _ _).alloc (Nat.le_refl _) _).alloc (by simp) _).alloc (by simp; omega) _).trans (hb1.mono (by simp; omega))

theorem cut_split {lo hi key : ByteArray} : cutOkB lo hi key = (spanOkB lo hi && keyOkB key && hasB lo hi key && !(key.toList == lo.toList)) := by
  unfold cutOkB spanHasB; rfl
end Go.Proofs.Ytjijichgoodocaa

/- Pairs of boxes that a region keeps. -/
namespace Go.Proofs.Ytjijichgoodocaa
open Go.RowKit

theorem keepS {n : Nat} {a1 a2 b1 b2 : Value} {w u v : World} (hb : Below u.heap.size u v) (h : (u).cell? ⟨n, 0, none⟩ = some a1 ∧ (u).cell? ⟨n, 1, none⟩ = some a2 ∧ (u).cell? ⟨n + 1, 0, none⟩ = some b1 ∧ (u).cell? ⟨n + 1, 1, none⟩ = some b2 ∧ n < (u).heap.size ∧ n + 1 < (u).heap.size ∧ Below w.heap.size w (u)) :
    (v).cell? ⟨n, 0, none⟩ = some a1 ∧ (v).cell? ⟨n, 1, none⟩ = some a2 ∧ (v).cell? ⟨n + 1, 0, none⟩ = some b1 ∧ (v).cell? ⟨n + 1, 1, none⟩ = some b2 ∧ n < (v).heap.size ∧ n + 1 < (v).heap.size ∧ Below w.heap.size w (v) := by
  obtain ⟨h1, h2, h3, h4, h5, h6, h7⟩ := h
  obtain ⟨hc, _⟩ := bcell hb
  have := hb.size
  exact ⟨by rw [hc _ _ h5, h1], by rw [hc _ _ h5, h2], by rw [hc _ _ h6, h3], by rw [hc _ _ h6, h4], by omega, by omega, h7.trans (hb.mono h7.size)⟩

theorem keepSet {n g : Nat} {a1 a2 b1 b2 x y : Value} {w u : World} (h : (u).cell? ⟨n, 0, none⟩ = some a1 ∧ (u).cell? ⟨n, 1, none⟩ = some a2 ∧ (u).cell? ⟨n + 1, 0, none⟩ = some b1 ∧ (u).cell? ⟨n + 1, 1, none⟩ = some b2 ∧ n < (u).heap.size ∧ n + 1 < (u).heap.size ∧ Below w.heap.size w (u)) (hn : n + 1 < w.heap.size) (hg : w.heap.size ≤ g) :
    ((u.setCell ⟨g, 0, none⟩ x).setCell ⟨g, 1, none⟩ y).cell? ⟨n, 0, none⟩ = some a1 ∧ ((u.setCell ⟨g, 0, none⟩ x).setCell ⟨g, 1, none⟩ y).cell? ⟨n, 1, none⟩ = some a2 ∧ ((u.setCell ⟨g, 0, none⟩ x).setCell ⟨g, 1, none⟩ y).cell? ⟨n + 1, 0, none⟩ = some b1 ∧ ((u.setCell ⟨g, 0, none⟩ x).setCell ⟨g, 1, none⟩ y).cell? ⟨n + 1, 1, none⟩ = some b2 ∧ n < ((u.setCell ⟨g, 0, none⟩ x).setCell ⟨g, 1, none⟩ y).heap.size ∧ n + 1 < ((u.setCell ⟨g, 0, none⟩ x).setCell ⟨g, 1, none⟩ y).heap.size ∧ Below w.heap.size w ((u.setCell ⟨g, 0, none⟩ x).setCell ⟨g, 1, none⟩ y) := by
  have hb : Below (n + 2) u ((u.setCell ⟨g, 0, none⟩ x).setCell ⟨g, 1, none⟩ y) := ((Below.refl _ _).setCell (by show n + 2 ≤ g; omega) _).setCell (by show n + 2 ≤ g; omega) _
  obtain ⟨h1, h2, h3, h4, h5, h6, h7⟩ := h
  have hs := hb.size
  exact ⟨by rw [hb.cell (p := ⟨n, 0, none⟩) (by show n < n + 2; omega), h1], by rw [hb.cell (p := ⟨n, 1, none⟩) (by show n < n + 2; omega), h2], by rw [hb.cell (p := ⟨n + 1, 0, none⟩) (by show n + 1 < n + 2; omega), h3], by rw [hb.cell (p := ⟨n + 1, 1, none⟩) (by show n + 1 < n + 2; omega), h4], by omega, by omega, (h7.setCell (p := ⟨g, 0, none⟩) hg _).setCell (p := ⟨g, 1, none⟩) hg _⟩

/-- Block g of u is a pair of cells that may be written. -/
def Zr (z0 z1 : Value) (g : Nat) (u : World) : Prop := u.cell? ⟨g, 0, none⟩ = some z0 ∧ u.cell? ⟨g, 1, none⟩ = some z1 ∧ u.frozen? ⟨g, 0, none⟩ = false ∧ u.frozen? ⟨g, 1, none⟩ = false ∧ g < u.heap.size
theorem newZr {z0 z1 : Value} {t : TypeId} {v w' : World} (hw : Below (v.alloc (.cells #[z0, z1] t)).heap.size (v.alloc (.cells #[z0, z1] t)) w') : Zr z0 z1 v.heap.size w' := by
  have lt : v.heap.size < (v.alloc (.cells #[z0, z1] t)).heap.size := by simp
  have hs := hw.size
  refine ⟨?_, ?_, ?_, ?_, by omega⟩
  · rw [hw.cell (p := ⟨v.heap.size, 0, none⟩) lt]; simp
  · rw [hw.cell (p := ⟨v.heap.size, 1, none⟩) lt]; simp
  · rw [hw.frozen (p := ⟨v.heap.size, 0, none⟩) lt]; simp
  · rw [hw.frozen (p := ⟨v.heap.size, 1, none⟩) lt]; simp
theorem carryZr {z0 z1 : Value} {g : Nat} {u w' : World} (hw : Below u.heap.size u w') (h : Zr z0 z1 g u) : Zr z0 z1 g w' := by
  obtain ⟨h1, h2, h3, h4, h5⟩ := h
  have hs := hw.size
  exact ⟨by rw [hw.cell (p := ⟨g, 0, none⟩) h5, h1], by rw [hw.cell (p := ⟨g, 1, none⟩) h5, h2], by rw [hw.frozen (p := ⟨g, 0, none⟩) h5, h3], by rw [hw.frozen (p := ⟨g, 1, none⟩) h5, h4], by omega⟩
theorem of_new {C : Prop} {z0 z1 : Value} {t : TypeId} {v w' : World} (hw : Below (v.alloc (.cells #[z0, z1] t)).heap.size (v.alloc (.cells #[z0, z1] t)) w') (k : Zr z0 z1 v.heap.size w' → C) : C := k (newZr hw)
theorem of_newD {C : Prop} {z0 z1 : Value} {t : TypeId} {v w' : World} (hw : Below (v.alloc (.cells #[z0, z1] t)).drew.heap.size (v.alloc (.cells #[z0, z1] t)).drew w') (k : Zr z0 z1 v.heap.size w' → C) : C :=
  k (newZr (t := t) (((Below.refl _ _).drew).trans hw))
theorem of_carry (g : Nat) {C : Prop} {z0 z1 : Value} {u w' : World} (hw : Below u.heap.size u w') (h : Zr z0 z1 g u) (k : Zr z0 z1 g w' → C) : C := k (carryZr hw h)
theorem Zr.c0 {z0 z1 : Value} {g : Nat} {u : World} (h : Zr z0 z1 g u) : u.cell? ⟨g, 0, none⟩ = some z0 := h.1
theorem Zr.c1 {z0 z1 : Value} {g : Nat} {u : World} (h : Zr z0 z1 g u) : u.cell? ⟨g, 1, none⟩ = some z1 := h.2.1
theorem Zr.f0 {z0 z1 : Value} {g : Nat} {u : World} (h : Zr z0 z1 g u) : u.frozen? ⟨g, 0, none⟩ = false := h.2.2.1
theorem Zr.f1 {z0 z1 : Value} {g : Nat} {u : World} (h : Zr z0 z1 g u) : u.frozen? ⟨g, 1, none⟩ = false := h.2.2.2.1
theorem Zr.lt {z0 z1 : Value} {g : Nat} {u : World} (h : Zr z0 z1 g u) : g < u.heap.size := h.2.2.2.2

theorem szSpanZ_le (lo hi : ByteArray) (left : Int) (h : 0 ≤ left) : szSpanZ lo hi left ≤ left := by
  unfold szSpanZ; split <;> (try split) <;> omega

/-- What holds behind a pair of results that is stored: the two boxes as they were; the new one; nothing old turned. -/
def AfterPair (n : Nat) (w : World) (a1 a2 b1 b2 x1 x2 : Value) (b : Bool) (s6 s7 : Value) (u : World) : Prop :=
  ∃ g : Nat, s6 = .pointer (some ⟨g, 0, none⟩) ∧ s7 = .bool b ∧ u.cell? ⟨g, 0, none⟩ = some x1 ∧ u.cell? ⟨g, 1, none⟩ = some x2 ∧ g < u.heap.size ∧ w.heap.size ≤ g ∧ (u).cell? ⟨n, 0, none⟩ = some a1 ∧ (u).cell? ⟨n, 1, none⟩ = some a2 ∧ (u).cell? ⟨n + 1, 0, none⟩ = some b1 ∧ (u).cell? ⟨n + 1, 1, none⟩ = some b2 ∧ n < (u).heap.size ∧ n + 1 < (u).heap.size ∧ Below w.heap.size w (u)
theorem afterA {n : Nat} {w u : World} {a1 a2 b1 b2 : Value} {x1 x2 : ByteArray} {b : Bool} {t : TypeId} (h : (u).cell? ⟨n, 0, none⟩ = some a1 ∧ (u).cell? ⟨n, 1, none⟩ = some a2 ∧ (u).cell? ⟨n + 1, 0, none⟩ = some b1 ∧ (u).cell? ⟨n + 1, 1, none⟩ = some b2 ∧ n < (u).heap.size ∧ n + 1 < (u).heap.size ∧ Below w.heap.size w (u)) :
    AfterPair n w a1 a2 b1 b2 (.string x1) (.string x2) b (.pointer (some ⟨u.heap.size, 0, none⟩)) (.bool b) (u.alloc (.cells #[.string x1, .string x2] t)) := by
  have q := keepS ((Below.refl _ u).alloc (Nat.le_refl _) (.cells #[.string x1, .string x2] t)) h
  exact ⟨_, rfl, rfl, by simp, by simp, by simp, h.2.2.2.2.2.2.size, q⟩
theorem afterB {n g : Nat} {w u : World} {a1 a2 b1 b2 z0 z1 : Value} {x1 x2 : ByteArray} {b : Bool} (h : (u).cell? ⟨n, 0, none⟩ = some a1 ∧ (u).cell? ⟨n, 1, none⟩ = some a2 ∧ (u).cell? ⟨n + 1, 0, none⟩ = some b1 ∧ (u).cell? ⟨n + 1, 1, none⟩ = some b2 ∧ n < (u).heap.size ∧ n + 1 < (u).heap.size ∧ Below w.heap.size w (u)) (hn : n + 1 < w.heap.size) (hg : w.heap.size ≤ g) (z : Zr z0 z1 g u) :
    AfterPair n w a1 a2 b1 b2 (.string x1) (.string x2) b (.pointer (some ⟨g, 0, none⟩)) (.bool b) ((u.setCell ⟨g, 0, none⟩ (.string x1)).setCell ⟨g, 1, none⟩ (.string x2)) := by
  have q := keepSet (x := .string x1) (y := .string x2) h hn hg
  have c0 := z.c0
  have c1 := z.c1
  have hz := z.lt
  exact ⟨_, rfl, rfl, by simp [go_sem, c0], by simp [go_sem, c1], by simpa using hz, hg, q⟩
theorem zle2m (n : Nat) : n ≤ n + 1 + 1 := by omega
theorem less_trans {x y z : List UInt8} (h : Op.bytesLess x y = true) (k : Op.bytesLess y z = true) : Op.bytesLess x z = true := by
  rw [bytesLess_eq] at *
  simp only [decide_eq_true_eq] at *
  exact List.lt_trans h k

theorem less_irrefl (x : List UInt8) : Op.bytesLess x x = false := by rw [bytesLess_eq]; exact decide_eq_false (List.lt_irrefl _)
theorem bytes_eq {x y : ByteArray} (h : x.toList = y.toList) : x = y := by
  rw [ByteArray.toList_eq, ByteArray.toList_eq] at h
  cases x; cases y
  congr
  exact Array.toList_inj.1 h
end Go.Proofs.Ytjijichgoodocaa
