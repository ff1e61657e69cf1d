/- Contracts of SpanCut and SpanJoin, the program's and the model's: each returns just what the plain conditions say, and turns nothing that was in memory. -/
import Derived.Test.YtodpodgdhiadnaaSpanB
namespace Go.Proofs.Ytodpodgdhiadnaa
open Go.RowKit

theorem has_is {lo hi key : ByteArray} {b : Bool} (h : spanHasB lo hi key = b) (hlo : lo.size ≤ maxLen) (hhi : hi.size ≤ maxLen) (hkey : key.size ≤ maxLen) (w : World) :
    Calls Try.prog 61 #[.agg #[.string lo, .string hi], .string key] w fun e w' => e = .returned (.bool b) ∧ Below w.heap.size w w' := by rw [← h]; exact spanHas_any lo hi key w hlo hhi hkey
theorem l1Has_is {lo hi key : ByteArray} {b : Bool} (h : hasB lo hi key = b) (w : World) :
    Calls Try.prog 222 #[.agg #[.string lo, .string hi], .string key] w fun e w' => e = .returned (.bool b) ∧ Below w.heap.size w w' := by rw [← h]; exact l1Has_any lo hi key w

def cutOkB (lo hi key : ByteArray) : Bool := spanHasB lo hi key && !(key.toList == lo.toList)

theorem zle1 (n : Nat) : n ≤ n + 1 := by omega
theorem zle2 (n : Nat) : n ≤ n + 1 + 1 := by omega
theorem zlt2 (n : Nat) : n < n + 1 + 1 := by omega
theorem zlt3 (n : Nat) : n < n + 1 + 1 + 1 := by omega
theorem zlt31 (n : Nat) : n + 1 < n + 1 + 1 + 1 := by omega

set_option maxHeartbeats 1000000 in
theorem cut_no (lo hi key : ByteArray) (w : World) (hlo : lo.size ≤ maxLen) (hhi : hi.size ≤ maxLen) (hkey : key.size ≤ maxLen) (hn : cutOkB lo hi key = false) :
    Calls Try.prog 80 #[.agg #[.string lo, .string hi], .string key] w fun e w' => e = .returned (.tuple #[.agg #[.string ⟨#[]⟩, .string ⟨#[]⟩], .agg #[.string ⟨#[]⟩, .string ⟨#[]⟩], .bool false]) ∧ Below w.heap.size w w' := by
  cases h1 : spanHasB lo hi key
  · clear hn
    go_enter Try.func80, Try.ntmps80
    go_wp2_with (go_at_call 61; refine (has_is h1 hlo hhi hkey _).mono ?_; rintro e w1 ⟨rfl, hb1⟩; obtain ⟨hc1, hf1⟩ := bcell hb1)
    refine bodyPost_ret (v := .tuple #[.agg #[.string ⟨#[]⟩, .string ⟨#[]⟩], .agg #[.string ⟨#[]⟩, .string ⟨#[]⟩], .bool false]) (by simp [results, Try.results80, go_sem, hc1]) rfl ⟨rfl, ?_⟩
    refine Below.setCell (Below.setCell (Below.setCell (Below.setCell ?_ (zle1 _) _) (zle1 _) _) (zle2 _) _) (zle2 _) _
    exact ((((Below.refl _ _).alloc (Nat.le_refl _) _).alloc (by simp) _).alloc (by simp; omega) _).trans (hb1.mono (by simp; omega))
  · have h2 : (key.toList == lo.toList) = true := by simpa [cutOkB, h1] using hn
    clear hn
    go_enter Try.func80, Try.ntmps80
    go_wp2_with (go_at_call 61; refine (has_is h1 hlo hhi hkey _).mono ?_; rintro e w1 ⟨rfl, hb1⟩; obtain ⟨hc1, hf1⟩ := bcell hb1)
    refine bodyPost_ret (v := .tuple #[.agg #[.string ⟨#[]⟩, .string ⟨#[]⟩], .agg #[.string ⟨#[]⟩, .string ⟨#[]⟩], .bool false]) (by simp [results, Try.results80, go_sem, hc1]) rfl ⟨rfl, ?_⟩
    refine Below.setCell (Below.setCell (Below.setCell (Below.setCell ?_ (zle1 _) _) (zle1 _) _) (zle2 _) _) (zle2 _) _
    exact ((((Below.refl _ _).alloc (Nat.le_refl _) _).alloc (by simp) _).alloc (by simp; omega) _).trans (hb1.mono (by simp; omega))

set_option maxHeartbeats 1000000 in
theorem cut_yes (lo hi key : ByteArray) (w : World) (hlo : lo.size ≤ maxLen) (hhi : hi.size ≤ maxLen) (hkey : key.size ≤ maxLen) (hn : cutOkB lo hi key = true) :
    Calls Try.prog 80 #[.agg #[.string lo, .string hi], .string key] w fun e w' => e = .returned (.tuple #[.agg #[.string lo, .string key], .agg #[.string key, .string hi], .bool true]) ∧ Below w.heap.size w w' := by
  have h1 : spanHasB lo hi key = true := by simp [cutOkB] at hn; exact hn.1
  have h2 : (key.toList == lo.toList) = false := by simp [cutOkB] at hn; simp; exact hn.2
  clear hn
  go_enter Try.func80, Try.ntmps80
  go_wp2_with (go_at_call 61; refine (has_is h1 hlo hhi hkey _).mono ?_; rintro e w1 ⟨rfl, hb1⟩; obtain ⟨hc1, hf1⟩ := bcell hb1)
  go_region
  go_wp2_with fail
  refine bodyPost_ret (v := .tuple #[.agg #[.string lo, .string key], .agg #[.string key, .string hi], .bool true]) (by simp [results, Try.results80, go_sem, hc1]) rfl ⟨rfl, ?_⟩
  repeat (first | with_reducible refine Below.drew ?_ | with_reducible refine Below.setCell ?_ (zle1 _) _ | with_reducible refine Below.setCell ?_ (zle2 _) _)
  exact ((((Below.refl _ _).alloc (Nat.le_refl _) _).alloc (by simp) _).alloc (by simp; omega) _).trans (hb1.mono (by simp; omega))

theorem cut_split {lo hi key : ByteArray} : cutOkB lo hi key = (spanOkB lo hi && keyOkB key && hasB lo hi key && !(key.toList == lo.toList)) := by
  unfold cutOkB spanHasB; rfl
end Go.Proofs.Ytodpodgdhiadnaa

/- Contracts of SpanJoin, the program's and the model's: each returns just what the plain conditions say, and turns nothing that was in memory. -/
namespace Go.Proofs.Ytodpodgdhiadnaa
open Go.RowKit

def joinOkB (a1 a2 b1 b2 : ByteArray) : Bool := spanOkB a1 a2 && spanOkB b1 b2 && !(a2.toList.isEmpty) && (a2.toList == b1.toList)

set_option maxHeartbeats 1000000 in
theorem join_no (a1 a2 b1 b2 : ByteArray) (w : World) (ha1 : a1.size ≤ maxLen) (ha2 : a2.size ≤ maxLen) (hb1 : b1.size ≤ maxLen) (hb2 : b2.size ≤ maxLen) (hn : joinOkB a1 a2 b1 b2 = false) :
    Calls Try.prog 54 #[.agg #[.string a1, .string a2], .agg #[.string b1, .string b2]] w fun e w' => e = .returned (.tuple #[.agg #[.string ⟨#[]⟩, .string ⟨#[]⟩], .bool false]) ∧ Below w.heap.size w w' := by
  unfold joinOkB at hn
  cases h1 : spanOkB a1 a2
  · clear hn
    go_enter Try.func54, Try.ntmps54
    go_wp2_with (go_at_call 55; refine (spanOk_is h1 ha1 ha2 _).mono ?_; rintro e w1 ⟨rfl, hw1⟩; obtain ⟨hc1, hf1⟩ := bcell hw1)
    refine bodyPost_ret (v := .tuple #[.agg #[.string ⟨#[]⟩, .string ⟨#[]⟩], .bool false]) (by simp [results, Try.results54, go_sem, hc1]) rfl ⟨rfl, ?_⟩
    refine Below.setCell (Below.setCell ?_ (zle2 _) _) (zle2 _) _
    exact ((((Below.refl _ _).alloc (Nat.le_refl _) _).alloc (by simp) _).alloc (by simp; omega) _).trans (hw1.mono (by simp; omega))
  · rw [h1] at hn
    cases h2 : spanOkB b1 b2
    · clear hn
      go_enter Try.func54, Try.ntmps54
      go_wp2_with (go_at_call 55; (with_reducible refine (spanOk_is h1 ha1 ha2 _).mono ?_); rintro e w1 ⟨rfl, hw1⟩; obtain ⟨hc1, hf1⟩ := bcell hw1)
      have za : w.heap.size + 1 + 1 < w1.heap.size := by have := hw1.size; simp at this; omega
      have zb : w.heap.size + 1 < w1.heap.size := by omega
      refine (spanOk_is h2 hb1 hb2 _).mono ?_; rintro e w2 ⟨rfl, hw2⟩; obtain ⟨hc2, hf2⟩ := bcell hw2
      go_wp2_with fail
      refine bodyPost_ret (v := .tuple #[.agg #[.string ⟨#[]⟩, .string ⟨#[]⟩], .bool false]) (by simp [results, Try.results54, go_sem, hc1, hc2, za]) rfl ⟨rfl, ?_⟩
      refine Below.setCell (Below.setCell ?_ (zle2 _) _) (zle2 _) _
      exact (((((Below.refl _ _).alloc (Nat.le_refl _) _).alloc (by simp) _).alloc (by simp; omega) _).trans (hw1.mono (by simp; omega))).trans (hw2.mono (by omega))
    · rw [h2] at hn
      cases h3 : a2.toList.isEmpty
      · have h4 : (a2.toList == b1.toList) = false := by simpa [h3] using hn
        clear hn
        go_enter Try.func54, Try.ntmps54
        go_wp2_with (go_at_call 55; (with_reducible refine (spanOk_is h1 ha1 ha2 _).mono ?_); rintro e w1 ⟨rfl, hw1⟩; obtain ⟨hc1, hf1⟩ := bcell hw1)
        have za : w.heap.size + 1 + 1 < w1.heap.size := by have := hw1.size; simp at this; omega
        have zb : w.heap.size + 1 < w1.heap.size := by omega
        have zc : w.heap.size < w1.heap.size := by omega
        refine (spanOk_is h2 hb1 hb2 _).mono ?_; rintro e w2 ⟨rfl, hw2⟩; obtain ⟨hc2, hf2⟩ := bcell hw2
        go_wp2_with fail
        refine bodyPost_ret (v := .tuple #[.agg #[.string ⟨#[]⟩, .string ⟨#[]⟩], .bool false]) (by simp [results, Try.results54, go_sem, hc1, hc2, za]) rfl ⟨rfl, ?_⟩
        refine Below.setCell (Below.setCell ?_ (zle2 _) _) (zle2 _) _
        exact (((((Below.refl _ _).alloc (Nat.le_refl _) _).alloc (by simp) _).alloc (by simp; omega) _).trans (hw1.mono (by simp; omega))).trans (hw2.mono (by omega))
      · clear hn
        go_enter Try.func54, Try.ntmps54
        go_wp2_with (go_at_call 55; (with_reducible refine (spanOk_is h1 ha1 ha2 _).mono ?_); rintro e w1 ⟨rfl, hw1⟩; obtain ⟨hc1, hf1⟩ := bcell hw1)
        have za : w.heap.size + 1 + 1 < w1.heap.size := by have := hw1.size; simp at this; omega
        have zb : w.heap.size + 1 < w1.heap.size := by omega
        have zc : w.heap.size < w1.heap.size := by omega
        refine (spanOk_is h2 hb1 hb2 _).mono ?_; rintro e w2 ⟨rfl, hw2⟩; obtain ⟨hc2, hf2⟩ := bcell hw2
        go_wp2_with fail
        refine bodyPost_ret (v := .tuple #[.agg #[.string ⟨#[]⟩, .string ⟨#[]⟩], .bool false]) (by simp [results, Try.results54, go_sem, hc1, hc2, za]) rfl ⟨rfl, ?_⟩
        refine Below.setCell (Below.setCell ?_ (zle2 _) _) (zle2 _) _
        exact (((((Below.refl _ _).alloc (Nat.le_refl _) _).alloc (by simp) _).alloc (by simp; omega) _).trans (hw1.mono (by simp; omega))).trans (hw2.mono (by omega))

set_option maxHeartbeats 1000000 in
theorem join_yes (a1 a2 b1 b2 : ByteArray) (w : World) (ha1 : a1.size ≤ maxLen) (ha2 : a2.size ≤ maxLen) (hb1 : b1.size ≤ maxLen) (hb2 : b2.size ≤ maxLen) (hn : joinOkB a1 a2 b1 b2 = true) :
    Calls Try.prog 54 #[.agg #[.string a1, .string a2], .agg #[.string b1, .string b2]] w fun e w' => e = .returned (.tuple #[.agg #[.string a1, .string b2], .bool true]) ∧ Below w.heap.size w w' := by
  unfold joinOkB at hn
  simp only [Bool.and_eq_true, Bool.not_eq_true'] at hn
  obtain ⟨⟨⟨h1, h2⟩, h3⟩, h4⟩ := hn
  go_enter Try.func54, Try.ntmps54
  go_wp2_with (go_at_call 55; (with_reducible refine (spanOk_is h1 ha1 ha2 _).mono ?_); rintro e w1 ⟨rfl, hw1⟩; obtain ⟨hc1, hf1⟩ := bcell hw1)
  have za : w.heap.size + 1 + 1 < w1.heap.size := by have := hw1.size; simp at this; omega
  have zb : w.heap.size + 1 < w1.heap.size := by omega
  have zc : w.heap.size < w1.heap.size := by omega
  refine (spanOk_is h2 hb1 hb2 _).mono ?_; rintro e w2 ⟨rfl, hw2⟩; obtain ⟨hc2, hf2⟩ := bcell hw2
  go_wp2_with fail
  refine bodyPost_ret (v := .tuple #[.agg #[.string a1, .string b2], .bool true]) (by simp [results, Try.results54, go_sem, hc1, hc2, za]) rfl ⟨rfl, ?_⟩
  refine Below.setCell (Below.setCell ?_ (zle2 _) _) (zle2 _) _
  exact (((((Below.refl _ _).alloc (Nat.le_refl _) _).alloc (by simp) _).alloc (by simp; omega) _).trans (hw1.mono (by simp; omega))).trans (hw2.mono (by omega))
end Go.Proofs.Ytodpodgdhiadnaa
