/- Contracts of SpanCut and SpanJoin, the program's and the model's: each returns just what the plain conditions say, and turns nothing that was in memory. -/
import Derived.Test.YtandapnogpocmaaSpanB
namespace Go.Proofs.Ytandapnogpocmaa
open Go.RowKit

theorem has_is {lo hi key : ByteArray} {b : Bool} (h : spanHasB lo hi key = b) (hlo : lo.size ≤ maxLen) (hhi : hi.size ≤ maxLen) (hkey : key.size ≤ maxLen) (w : World) :
    Calls Try.prog 15 #[.agg #[.string lo, .string hi], .string key] w fun e w' => e = .returned (.bool b) ∧ Below w.heap.size w w' := by rw [← h]; exact spanHas_any lo hi key w hlo hhi hkey
theorem l1Has_is {lo hi key : ByteArray} {b : Bool} (h : hasB lo hi key = b) (w : World) :
    Calls Try.prog 41 #[.agg #[.string lo, .string hi], .string key] w fun e w' => e = .returned (.bool b) ∧ Below w.heap.size w w' := by rw [← h]; exact l1Has_any lo hi key w

def cutOkB (lo hi key : ByteArray) : Bool := spanHasB lo hi key && !(key.toList == lo.toList)

theorem zle1 (n : Nat) : n ≤ n + 1 := by omega
theorem zle2 (n : Nat) : n ≤ n + 1 + 1 := by omega
theorem zlt2 (n : Nat) : n < n + 1 + 1 := by omega
theorem zlt3 (n : Nat) : n < n + 1 + 1 + 1 := by omega
theorem zlt31 (n : Nat) : n + 1 < n + 1 + 1 + 1 := by omega

set_option maxHeartbeats 1000000 in
theorem cut_no (lo hi key : ByteArray) (w : World) (hlo : lo.size ≤ maxLen) (hhi : hi.size ≤ maxLen) (hkey : key.size ≤ maxLen) (hn : cutOkB lo hi key = false) :
    Calls Try.prog 21 #[.agg #[.string lo, .string hi], .string key] w fun e w' => e = .returned (.tuple #[.agg #[.string ⟨#[]⟩, .string ⟨#[]⟩], .agg #[.string ⟨#[]⟩, .string ⟨#[]⟩], .bool false]) ∧ Below w.heap.size w w' := by
  cases h1 : spanHasB lo hi key
  · clear hn
    go_enter Try.func21, Try.ntmps21
    go_wp2_with (go_at_call 15; refine (has_is h1 hlo hhi hkey _).mono ?_; rintro e w1 ⟨rfl, hb1⟩; obtain ⟨hc1, hf1⟩ := bcell hb1)
    refine bodyPost_ret (v := .tuple #[.agg #[.string ⟨#[]⟩, .string ⟨#[]⟩], .agg #[.string ⟨#[]⟩, .string ⟨#[]⟩], .bool false]) (by simp [results, Try.results21, go_sem, hc1]) rfl ⟨rfl, ?_⟩
    refine Below.setCell (Below.setCell (Below.setCell (Below.setCell ?_ (zle1 _) _) (zle1 _) _) (zle2 _) _) (zle2 _) _
    exact ((((Below.refl _ _).alloc (Nat.le_refl _) _).alloc (by simp) _).alloc (by simp; omega) _).trans (hb1.mono (by simp; omega))
  · have h2 : (key.toList == lo.toList) = true := by simpa [cutOkB, h1] using hn
    clear hn
    go_enter Try.func21, Try.ntmps21
    go_wp2_with (go_at_call 15; refine (has_is h1 hlo hhi hkey _).mono ?_; rintro e w1 ⟨rfl, hb1⟩; obtain ⟨hc1, hf1⟩ := bcell hb1)
    refine bodyPost_ret (v := .tuple #[.agg #[.string ⟨#[]⟩, .string ⟨#[]⟩], .agg #[.string ⟨#[]⟩, .string ⟨#[]⟩], .bool false]) (by simp [results, Try.results21, go_sem, hc1]) rfl ⟨rfl, ?_⟩
    refine Below.setCell (Below.setCell (Below.setCell (Below.setCell ?_ (zle1 _) _) (zle1 _) _) (zle2 _) _) (zle2 _) _
    exact ((((Below.refl _ _).alloc (Nat.le_refl _) _).alloc (by simp) _).alloc (by simp; omega) _).trans (hb1.mono (by simp; omega))

set_option maxHeartbeats 1000000 in
theorem cut_yes (lo hi key : ByteArray) (w : World) (hlo : lo.size ≤ maxLen) (hhi : hi.size ≤ maxLen) (hkey : key.size ≤ maxLen) (hn : cutOkB lo hi key = true) :
    Calls Try.prog 21 #[.agg #[.string lo, .string hi], .string key] w fun e w' => e = .returned (.tuple #[.agg #[.string lo, .string key], .agg #[.string key, .string hi], .bool true]) ∧ Below w.heap.size w w' := by
  have h1 : spanHasB lo hi key = true := by simp [cutOkB] at hn; exact hn.1
  have h2 : (key.toList == lo.toList) = false := by simp [cutOkB] at hn; simp; exact hn.2
  clear hn
  go_enter Try.func21, Try.ntmps21
  go_wp2_with (go_at_call 15; refine (has_is h1 hlo hhi hkey _).mono ?_; rintro e w1 ⟨rfl, hb1⟩; obtain ⟨hc1, hf1⟩ := bcell hb1)
  go_region
  go_wp2_with fail
  refine bodyPost_ret (v := .tuple #[.agg #[.string lo, .string key], .agg #[.string key, .string hi], .bool true]) (by simp [results, Try.results21, go_sem, hc1]) rfl ⟨rfl, ?_⟩
  repeat (first | with_reducible refine Below.drew ?_ | with_reducible refine Below.setCell ?_ (zle1 _) _ | with_reducible refine Below.setCell ?_ (zle2 _) _)
  exact ((((Below.refl _ _).alloc (Nat.le_refl _) _).alloc (by simp) _).alloc (by simp; omega) _).trans (hb1.mono (by simp; omega))

theorem cut_split {lo hi key : ByteArray} : cutOkB lo hi key = (spanOkB lo hi && keyOkB key && hasB lo hi key && !(key.toList == lo.toList)) := by
  unfold cutOkB spanHasB; rfl

set_option maxHeartbeats 1000000 in
theorem specCut_no (lo hi key : ByteArray) (w : World) (hlo : lo.size ≤ maxLen) (hhi : hi.size ≤ maxLen) (hkey : key.size ≤ maxLen) (hn : cutOkB lo hi key = false) :
    Calls Try.prog 23 #[.agg #[.string lo, .string hi], .string key] w fun e w' => e = .returned (.tuple #[.agg #[.string ⟨#[]⟩, .string ⟨#[]⟩], .agg #[.string ⟨#[]⟩, .string ⟨#[]⟩], .bool false]) ∧ Below w.heap.size w w' := by
  rw [cut_split] at hn
  cases h1 : spanOkB lo hi
  · clear hn
    go_enter Try.func23, Try.ntmps23
    go_wp2_with (go_at_call 39; refine (l1SpanOk_is h1 hlo hhi _).mono ?_; rintro e w1 ⟨rfl, hb1⟩; obtain ⟨hc1, hf1⟩ := bcell hb1)
    refine bodyPost_ret (v := .tuple #[.agg #[.string ⟨#[]⟩, .string ⟨#[]⟩], .agg #[.string ⟨#[]⟩, .string ⟨#[]⟩], .bool false]) (by simp [results, Try.results23, go_sem, hc1]) rfl ⟨rfl, ?_⟩
    refine Below.setCell (Below.setCell (Below.setCell (Below.setCell ?_ (zle1 _) _) (zle1 _) _) (zle2 _) _) (zle2 _) _
    exact ((((Below.refl _ _).alloc (Nat.le_refl _) _).alloc (by simp) _).alloc (by simp; omega) _).trans (hb1.mono (by simp; omega))
  · cases h2 : keyOkB key
    · clear hn
      go_enter Try.func23, Try.ntmps23
      go_wp2_with (first | (go_at_call 39; refine (l1SpanOk_is h1 hlo hhi _).mono ?_; rintro e w1 ⟨rfl, hb1⟩; obtain ⟨hc1, hf1⟩ := bcell hb1) | (go_at_call 40; refine (l1Key_is h2 hkey _).mono ?_; rintro e w' ⟨rfl, rfl⟩))
      refine bodyPost_ret (v := .tuple #[.agg #[.string ⟨#[]⟩, .string ⟨#[]⟩], .agg #[.string ⟨#[]⟩, .string ⟨#[]⟩], .bool false]) (by simp [results, Try.results23, go_sem, hc1]) rfl ⟨rfl, ?_⟩
      refine Below.setCell (Below.setCell (Below.setCell (Below.setCell ?_ (zle1 _) _) (zle1 _) _) (zle2 _) _) (zle2 _) _
      exact ((((Below.refl _ _).alloc (Nat.le_refl _) _).alloc (by simp) _).alloc (by simp; omega) _).trans (hb1.mono (by simp; omega))
    · rw [h1, h2] at hn
      cases h3 : hasB lo hi key
      · clear hn
        go_enter Try.func23, Try.ntmps23
        go_wp2_with (first | (go_at_call 39; refine (l1SpanOk_is h1 hlo hhi _).mono ?_; rintro e w1 ⟨rfl, hb1⟩; obtain ⟨hc1, hf1⟩ := bcell hb1) | (go_at_call 40; refine (l1Key_is h2 hkey _).mono ?_; rintro e w' ⟨rfl, rfl⟩))
        have za : w.heap.size + 1 + 1 < w1.heap.size := by have := hb1.size; simp at this; omega
        have zb : w.heap.size + 1 < w1.heap.size := by omega
        refine (l1Has_is h3 _).mono ?_; rintro e w2 ⟨rfl, hb2⟩; obtain ⟨hc2, hf2⟩ := bcell hb2
        go_wp2_with fail
        refine bodyPost_ret (v := .tuple #[.agg #[.string ⟨#[]⟩, .string ⟨#[]⟩], .agg #[.string ⟨#[]⟩, .string ⟨#[]⟩], .bool false]) (by simp [results, Try.results23, go_sem, hc1, hc2, za, zb]) rfl ⟨rfl, ?_⟩
        refine Below.setCell (Below.setCell (Below.setCell (Below.setCell ?_ (zle1 _) _) (zle1 _) _) (zle2 _) _) (zle2 _) _
        exact (((((Below.refl _ _).alloc (Nat.le_refl _) _).alloc (by simp) _).alloc (by simp; omega) _).trans (hb1.mono (by simp; omega))).trans (hb2.mono (by omega))
      · have h4 : (key.toList == lo.toList) = true := by simpa [h3] using hn
        clear hn
        go_enter Try.func23, Try.ntmps23
        go_wp2_with (first | (go_at_call 39; refine (l1SpanOk_is h1 hlo hhi _).mono ?_; rintro e w1 ⟨rfl, hb1⟩; obtain ⟨hc1, hf1⟩ := bcell hb1) | (go_at_call 40; refine (l1Key_is h2 hkey _).mono ?_; rintro e w' ⟨rfl, rfl⟩))
        have za : w.heap.size + 1 + 1 < w1.heap.size := by have := hb1.size; simp at this; omega
        have zb : w.heap.size + 1 < w1.heap.size := by omega
        have zc : w.heap.size < w1.heap.size := by omega
        refine (l1Has_is h3 _).mono ?_; rintro e w2 ⟨rfl, hb2⟩; obtain ⟨hc2, hf2⟩ := bcell hb2
        go_wp2_with fail
        refine bodyPost_ret (v := .tuple #[.agg #[.string ⟨#[]⟩, .string ⟨#[]⟩], .agg #[.string ⟨#[]⟩, .string ⟨#[]⟩], .bool false]) (by simp [results, Try.results23, go_sem, hc1, hc2, za, zb]) rfl ⟨rfl, ?_⟩
        refine Below.setCell (Below.setCell (Below.setCell (Below.setCell ?_ (zle1 _) _) (zle1 _) _) (zle2 _) _) (zle2 _) _
        exact (((((Below.refl _ _).alloc (Nat.le_refl _) _).alloc (by simp) _).alloc (by simp; omega) _).trans (hb1.mono (by simp; omega))).trans (hb2.mono (by omega))

set_option maxHeartbeats 1000000 in
theorem specCut_yes (lo hi key : ByteArray) (w : World) (hlo : lo.size ≤ maxLen) (hhi : hi.size ≤ maxLen) (hkey : key.size ≤ maxLen) (hn : cutOkB lo hi key = true) :
    Calls Try.prog 23 #[.agg #[.string lo, .string hi], .string key] w fun e w' => e = .returned (.tuple #[.agg #[.string lo, .string key], .agg #[.string key, .string hi], .bool true]) ∧ Below w.heap.size w w' := by
  rw [cut_split] at hn
  simp only [Bool.and_eq_true, Bool.not_eq_true'] at hn
  obtain ⟨⟨⟨h1, h2⟩, h3⟩, h4⟩ := hn
  go_enter Try.func23, Try.ntmps23
  go_wp2_with (first | (go_at_call 39; refine (l1SpanOk_is h1 hlo hhi _).mono ?_; rintro e w1 ⟨rfl, hb1⟩; obtain ⟨hc1, hf1⟩ := bcell hb1) | (go_at_call 40; refine (l1Key_is h2 hkey _).mono ?_; rintro e w' ⟨rfl, rfl⟩))
  have za : w.heap.size + 1 + 1 < w1.heap.size := by have := hb1.size; simp at this; omega
  have zb : w.heap.size + 1 < w1.heap.size := by omega
  have zc : w.heap.size < w1.heap.size := by omega
  refine (l1Has_is h3 _).mono ?_; rintro e w2 ⟨rfl, hb2⟩; obtain ⟨hc2, hf2⟩ := bcell hb2
  go_wp2_with fail
  go_region
  go_wp2_with fail
  refine bodyPost_ret (v := .tuple #[.agg #[.string lo, .string key], .agg #[.string key, .string hi], .bool true]) (by simp [results, Try.results23, go_sem, hc1, hc2, za, zb]) rfl ⟨rfl, ?_⟩
  repeat (first | with_reducible refine Below.drew ?_ | with_reducible refine Below.setCell ?_ (zle1 _) _ | with_reducible refine Below.setCell ?_ (zle2 _) _)
  exact (((((Below.refl _ _).alloc (Nat.le_refl _) _).alloc (by simp) _).alloc (by simp; omega) _).trans (hb1.mono (by simp; omega))).trans (hb2.mono (by omega))

def CutIs (f : Nat) (lo hi key x1 x2 y1 y2 : ByteArray) (b : Bool) : Prop := ∀ w : World,
    Calls Try.prog f #[.agg #[.string lo, .string hi], .string key] w fun e w' => e = .returned (.tuple #[.agg #[.string x1, .string x2], .agg #[.string y1, .string y2], .bool b]) ∧ Below w.heap.size w w'
theorem cut_both (lo hi key : ByteArray) (hlo : lo.size ≤ maxLen) (hhi : hi.size ≤ maxLen) (hkey : key.size ≤ maxLen) :
    ∃ (x1 x2 y1 y2 : ByteArray) (b : Bool), CutIs 21 lo hi key x1 x2 y1 y2 b ∧ CutIs 23 lo hi key x1 x2 y1 y2 b := by
  cases h : cutOkB lo hi key
  · exact ⟨_, _, _, _, _, fun w => cut_no lo hi key w hlo hhi hkey h, fun w => specCut_no lo hi key w hlo hhi hkey h⟩
  · exact ⟨_, _, _, _, _, fun w => cut_yes lo hi key w hlo hhi hkey h, fun w => specCut_yes lo hi key w hlo hhi hkey h⟩
end Go.Proofs.Ytandapnogpocmaa
