/- The span of a row, as the model tells it. -/
import Derived.Test.YtodpodgdhiadnaaPmSpanI
import Derived.Test.YtodpodgdhiadnaaVmSpec
namespace Go.Proofs.Ytodpodgdhiadnaa
open Go.RowKit

set_option maxRecDepth 100000 in
set_option maxHeartbeats 1000000 in
theorem l5Span_any (ep : Int) (a : Option Addr) (vs : List RowD) (cap : Nat) (j : Nat) (w : World) (hv : RowsIn w a vs) (hj : j < vs.length) (hlen : vs.length ≤ 1048576) :
    Calls Try.prog 137 #[.agg #[.int .i64 ep, .slice a vs.length cap], .int .i64 (j : Int)] w fun e w' => e = .returned (.agg #[.string (loOf vs j), .string (hiOf vs j)]) ∧ Below w.heap.size w w' := by
  rcases hv with hnil | ⟨b1, o1, rfl, hb1, hc1⟩
  · rw [hnil] at hj; simp at hj
  obtain ⟨c0, c1⟩ := hc1 j hj
  have hb2 : b1 < w.heap.size + 1 := by omega
  have hb3 : b1 < w.heap.size + 1 + 1 := by omega
  by_cases hl2 : j + 1 < vs.length
  · obtain ⟨e0, _⟩ := hc1 (j + 1) hl2
    clear hc1 c1
    go_enter Try.func137, Try.ntmps137
    go_wp2_with fail
    change bodyPost _ _ _ _ _ _
    exact bodyPost_ret (v := .agg #[.string vs[j].f0, .string vs[j + 1].f0]) (by simp [results, Try.results137, go_sem]) rfl ⟨by rw [loOf_lt hj, hiOf_lt hl2], by exact (((Below.refl _ _).alloc (Nat.le_refl _) _).alloc (by simp) _).alloc (by simp; omega) _⟩
  · clear hc1 c1
    go_enter Try.func137, Try.ntmps137
    go_wp2_with fail
    change bodyPost _ _ _ _ _ _
    exact bodyPost_ret (v := .agg #[.string vs[j].f0, .string ⟨#[]⟩]) (by simp [results, Try.results137, go_sem]) rfl ⟨by rw [loOf_lt hj, hiOf_ge hl2], by exact (((Below.refl _ _).alloc (Nat.le_refl _) _).alloc (by simp) _).alloc (by simp; omega) _⟩

set_option maxRecDepth 100000 in
set_option maxHeartbeats 1000000 in
theorem specPmapSpan_any (ep : Int) (a : Option Addr) (vs : List RowD) (cap : Nat) (k : Int) (w : World) (hv : RowsIn w a vs) (hf : ∀ v ∈ vs, v.fits) (hlen : vs.length ≤ 1048576) :
    Calls Try.prog 53 #[.agg #[.int .i64 ep, .slice a vs.length cap], .int .i64 k] w (PmSpanPost ep vs k w) := by
  have HV := Lib.hid hv
  have HF := Lib.hid hf
  clear hv hf
  obtain ⟨W1, hW1⟩ : ∃ W1, (w.alloc (.cells #[.int .i64 ep, .slice a vs.length cap] 80)).alloc (.cells #[.string ⟨#[]⟩, .string ⟨#[]⟩] 84) = W1 := ⟨_, rfl⟩
  have B1 : Below w.heap.size w W1 := by rw [← hW1]; exact ((Below.refl _ _).alloc (Nat.le_refl _) _).alloc (by simp) _
  have z1 : w.heap.size + 1 < W1.heap.size := by rw [← hW1]; simp
  have c0 : W1.cell? ⟨w.heap.size, 0, none⟩ = some (.int .i64 ep) := by rw [← hW1]; simp [go_sem]
  have c1 : W1.cell? ⟨w.heap.size, 1, none⟩ = some (.slice a vs.length cap) := by rw [← hW1]; simp [go_sem]
  have d0 : W1.cell? ⟨w.heap.size + 1, 0, none⟩ = some (.string ⟨#[]⟩) := by rw [← hW1]; simp [go_sem]
  have d1 : W1.cell? ⟨w.heap.size + 1, 1, none⟩ = some (.string ⟨#[]⟩) := by rw [← hW1]; simp [go_sem]
  have f0 : W1.frozen? ⟨w.heap.size + 1, 0, none⟩ = false := by rw [← hW1]; simp [go_sem]
  have f1 : W1.frozen? ⟨w.heap.size + 1, 1, none⟩ = false := by rw [← hW1]; simp [go_sem]
  go_enter Try.func53, Try.ntmps53
  go_wp2_with fail
  clear hW1
  refine (l5Ok_any ep a vs cap W1 (HV.out.below B1) HF.out (by unfold maxLen; omega)).mono ?_
  rintro e w1 ⟨b, rfl, hk, hb⟩
  have B2 := Lib.hid (B1.trans (hb.mono (by omega)))
  have c0' := (hb.cell (p := ⟨w.heap.size, 0, none⟩) (by show w.heap.size < _; omega)).trans c0
  have c1' := (hb.cell (p := ⟨w.heap.size, 1, none⟩) (by show w.heap.size < _; omega)).trans c1
  have d0' := (hb.cell (p := ⟨w.heap.size + 1, 0, none⟩) (by show w.heap.size + 1 < _; omega)).trans d0
  have d1' := (hb.cell (p := ⟨w.heap.size + 1, 1, none⟩) (by show w.heap.size + 1 < _; omega)).trans d1
  have f0' := (hb.frozen (p := ⟨w.heap.size + 1, 0, none⟩) (by show w.heap.size + 1 < _; omega)).trans f0
  have f1' := (hb.frozen (p := ⟨w.heap.size + 1, 1, none⟩) (by show w.heap.size + 1 < _; omega)).trans f1
  have s1 : w.heap.size + 1 < w1.heap.size := Nat.lt_of_lt_of_le z1 hb.size
  have HK := Lib.hid hk
  clear hb c0 c1 d0 d1 f0 f1 hk
  cases b
  · go_wp2_with fail
    exact bodyPost_ret (v := .tuple #[.agg #[.string ⟨#[]⟩, .string ⟨#[]⟩], .bool false]) (by simp [results, Try.results53, go_sem, d0', d1']) rfl (PmSpanPost.no (fun h => by simpa using HK.out.2 h.1) ((B2.out.setCell (p := ⟨w.heap.size + 1, 0, none⟩) (by simp) _).setCell (p := ⟨w.heap.size + 1, 1, none⟩) (by simp) _))
  · have h0 : 0 < vs.length := by have := (HK.out.1 (by simp)).2.1; simp [inB] at this; omega
    go_wp2_with fail
    cases hI : inB k 0 ((vs.length : Int) - 1)
    · refine (l1In_is hI _).mono ?_
      rintro e w2 ⟨rfl, rfl⟩
      go_wp2_with fail
      exact bodyPost_ret (v := .tuple #[.agg #[.string ⟨#[]⟩, .string ⟨#[]⟩], .bool false]) (by simp [results, Try.results53, go_sem, d0', d1']) rfl (PmSpanPost.no (fun h => by simp [inB] at hI; omega) ((B2.out.setCell (p := ⟨w.heap.size + 1, 0, none⟩) (by simp) _).setCell (p := ⟨w.heap.size + 1, 1, none⟩) (by simp) _))
    · have hin : 0 ≤ k ∧ k < vs.length := by simp [inB] at hI; omega
      obtain ⟨j, rfl⟩ := Int.eq_ofNat_of_zero_le hin.1
      have hj : j < vs.length := by omega
      refine (l1In_is hI _).mono ?_
      rintro e w2 ⟨rfl, rfl⟩
      clear hI hin
      go_wp2_with fail
      refine (l5Span_any ep a vs cap j _ (HV.out.below B2.out) hj hlen).mono ?_
      rintro e w3 ⟨rfl, hb2⟩
      have d0'' := (hb2.cell (p := ⟨w.heap.size + 1, 0, none⟩) s1).trans d0'
      have d1'' := (hb2.cell (p := ⟨w.heap.size + 1, 1, none⟩) s1).trans d1'
      have f0'' := (hb2.frozen (p := ⟨w.heap.size + 1, 0, none⟩) s1).trans f0'
      have f1'' := (hb2.frozen (p := ⟨w.heap.size + 1, 1, none⟩) s1).trans f1'
      have B3 := Lib.hid (B2.out.trans (hb2.mono (by omega)))
      clear hb2 c0' c1' d0' d1' f0' f1'
      go_wp2_with fail
      exact bodyPost_ret (v := .tuple #[.agg #[.string (loOf vs j), .string (hiOf vs j)], .bool true]) (by simp [results, Try.results53, go_sem, d0'', d1'']) rfl (PmSpanPost.yes (HK.out.1 (by simp)) hj ((B3.out.setCell (p := ⟨w.heap.size + 1, 0, none⟩) (by simp) _).setCell (p := ⟨w.heap.size + 1, 1, none⟩) (by simp) _))
end Go.Proofs.Ytodpodgdhiadnaa

/- When a question of a listing is ok: the model and the program say the same; its size and its copy. -/
namespace Go.Proofs.Ytodpodgdhiadnaa
open Go.RowKit

theorem bcell {W w1 : World} (hb : Below W.heap.size W w1) : (∀ b o, b < W.heap.size → w1.cell? ⟨b, o, none⟩ = W.cell? ⟨b, o, none⟩) ∧ (∀ b o, b < W.heap.size → w1.frozen? ⟨b, o, none⟩ = W.frozen? ⟨b, o, none⟩) :=
  ⟨fun b o h => hb.cell (p := ⟨b, o, none⟩) h, fun b o h => hb.frozen (p := ⟨b, o, none⟩) h⟩
def askOkB (h a : ByteArray) (m : Int) : Bool := okB keyB 6 h && (okB keyB 6 a && inB m 1 5)

set_option maxHeartbeats 1000000 in
theorem l3AskOk_any (h a : ByteArray) (g : Bool) (m : Int) (w : World) (hs : h.size ≤ maxLen) (ha : a.size ≤ maxLen) :
    Calls Try.prog 105 #[.agg #[.string h, .string a, .bool g, .int .i64 m]] w fun e w' => e = .returned (.bool (askOkB h a m)) ∧ Below w.heap.size w w' := by
  cases hH : okB keyB 6 h <;> cases hA : okB keyB 6 a <;> cases hI : inB m 1 5
  all_goals
    go_enter Try.func105, Try.ntmps105
    go_wp2_with first
      | (go_at_call 136; refine (l1In_any _ _ _ _).mono ?_; rintro e w' ⟨rfl, rfl⟩; rw [hI])
      | (go_at_call 121; refine (l1Part_any _ _ (by assumption)).mono ?_; rintro e w' ⟨rfl, rfl⟩; first | rw [hH] | rw [hA])
    go_ret
    exact ⟨ret_bool (by first | (simp [askOkB, hH, hA, hI]; done) | (simp [askOkB, hH, hA, hI]; omega)), (Below.refl _ _).alloc (Nat.le_refl _) _⟩

set_option maxHeartbeats 1000000 in
theorem askOk_any (h a : ByteArray) (g : Bool) (m : Int) (w : World) (hs : h.size ≤ maxLen) (ha : a.size ≤ maxLen) :
    Calls Try.prog 108 #[.agg #[.string h, .string a, .bool g, .int .i64 m]] w fun e w' => e = .returned (.bool (askOkB h a m)) ∧ Below w.heap.size w w' := by
  have hm : (m < 1 ∧ inB m 1 5 = false) ∨ (1 ≤ m ∧ m ≤ 5 ∧ inB m 1 5 = true) ∨ (5 < m ∧ inB m 1 5 = false) := by
    by_cases h1 : m < 1
    · exact .inl ⟨h1, by simp [inB]; omega⟩
    · by_cases h2 : m ≤ 5
      · exact .inr (.inl ⟨by omega, h2, by simp [inB]; omega⟩)
      · exact .inr (.inr ⟨by omega, by simp [inB]; omega⟩)
  cases hH : okB keyB 6 h <;> cases hA : okB keyB 6 a <;> rcases hm with ⟨h1, hI⟩ | ⟨h1, h2, hI⟩ | ⟨h1, hI⟩
  all_goals
    go_enter Try.func108, Try.ntmps108
    go_wp2_with
      (go_at_call 123; refine (prefixOk_any _ _ (by assumption)).mono ?_; rintro e w' ⟨rfl, rfl⟩; first | rw [hH] | rw [hA])
    go_ret
    exact ⟨ret_bool (by first | (simp [askOkB, hH, hA, hI]; done) | (simp [askOkB, hH, hA, hI]; omega)), (Below.refl _ _).alloc (Nat.le_refl _) _⟩

set_option maxHeartbeats 1000000 in
theorem szAsk_any (h a : ByteArray) (g : Bool) (m : Int) (left : Int) (w : World) (hs : h.size ≤ maxLen) (ha : a.size ≤ maxLen) (h0 : 0 ≤ left) (hl : left ≤ 1048576) :
    Calls Try.prog 33 #[.agg #[.string h, .string a, .bool g, .int .i64 m], .int .i64 left] w (SzPost left (h.size + a.size) w) := by
  unfold maxLen at hs ha
  by_cases h1 : left < h.size
  · go_enter Try.func33, Try.ntmps33
    go_wp2
    go_ret
    exact ⟨-1, rfl, .inl rfl, (Below.refl _ _).alloc (Nat.le_refl _) _⟩
  · by_cases h2 : left - h.size < a.size
    · go_enter Try.func33, Try.ntmps33
      go_wp2
      go_ret
      exact ⟨-1, rfl, .inl rfl, (Below.refl _ _).alloc (Nat.le_refl _) _⟩
    · go_enter Try.func33, Try.ntmps33
      go_wp2
      go_ret
      exact ⟨left - h.size - a.size, rfl, .inr ⟨by omega, by omega⟩, (Below.refl _ _).alloc (Nat.le_refl _) _⟩

set_option maxHeartbeats 1000000 in
theorem toAsk_any (h a : ByteArray) (g : Bool) (m : Int) (w : World) :
    Calls Try.prog 36 #[.agg #[.string h, .string a, .bool g, .int .i64 m]] w fun e w' => e = .returned (.agg #[.string h, .string a, .bool g, .int .i64 m]) ∧ Below w.heap.size w w' := by
  go_enter Try.func36, Try.ntmps36
  go_wp2
  exact bodyPost_ret (v := .agg #[.string h, .string a, .bool g, .int .i64 m]) (by simp [results, Try.results36, go_sem]) rfl ⟨rfl, (((Below.refl _ _).alloc (Nat.le_refl _) _).alloc (by simp) _).alloc (by simp; omega) _⟩
end Go.Proofs.Ytodpodgdhiadnaa
