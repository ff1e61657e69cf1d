/- What a transaction asks and writes in a span, as the program gathers it. -/
import Derived.Test.YtncipibjlpfkhaaTxAt
import Derived.Test.YtncipibjlpfkhaaTxE
import Derived.Test.YtncipibjlpfkhaaSpan
namespace Go.Proofs.Ytncipibjlpfkhaa
open Go.RowKit

theorem ownsRow_of_below {w w' : World} {base size n : Nat} {e : TypeId} {v : Value} {xs : List Value} (h : w.ownsRow base e size v n xs) (hb : Below w.heap.size w w') : w'.ownsRow base e size v n xs := by
  refine ⟨h.1, h.2.elim .inl fun ⟨g, cap, cur, hv, hg, hh, r⟩ => .inr ⟨g, cap, cur, hv, hg, ?_, r⟩⟩
  have hlt : g < w.heap.size := by
    rcases Nat.lt_or_ge g w.heap.size with q | q
    · exact q
    · rw [Array.getElem?_eq_none q] at hh; cases hh
  exact (hb.block g hlt).trans hh

def wantsIn (vs : List WantD) (lo hi : ByteArray) (k : Nat) : List WantD := (vs.take k).filter fun v => hasB lo hi v.f0
theorem wantsIn_no {vs : List WantD} {lo hi : ByteArray} {k : Nat} (hk : k < vs.length) (h : hasB lo hi vs[k].f0 = false) : wantsIn vs lo hi (k + 1) = wantsIn vs lo hi k := by
  unfold wantsIn; rw [List.take_succ_eq_append_getElem hk, List.filter_append]; simp [h]
theorem wantsIn_yes {vs : List WantD} {lo hi : ByteArray} {k : Nat} (hk : k < vs.length) (h : hasB lo hi vs[k].f0 = true) : wantsIn vs lo hi (k + 1) = wantsIn vs lo hi k ++ [vs[k]] := by
  unfold wantsIn; rw [List.take_succ_eq_append_getElem hk, List.filter_append]; simp [h]
theorem wantsIn_le (vs : List WantD) (lo hi : ByteArray) (k : Nat) : (wantsIn vs lo hi k).length ≤ vs.length := Nat.le_trans (List.length_filter_le _ _) (by rw [List.length_take]; omega)
theorem newsWant (w : World) (v : WantD) (t : TypeId) (g : Nat) (hg : w.heap.size = g) : ∀ j u, (wantCells v)[j]? = some u → (w.alloc (.cells #[.string v.f0, .int .i64 v.f1] t)).cell? ((⟨g, 0, none⟩ : Addr).add j) = some u := by
  subst hg
  exact World.news_of_block (heap_alloc_new w _)

set_option maxRecDepth 100000 in
set_option maxHeartbeats 1000000 in
theorem keysWithinWant_any (lo hi : ByteArray) (a : Option Addr) (vs : List WantD) (cap : Nat) (w : World) (hv : WantsIn w a vs) (hn : vs.length ≤ 1048576) :
    Calls Try.prog 193 #[.slice a vs.length cap, .agg #[.string lo, .string hi]] w fun e w' => ∃ v, e = .returned v ∧ w'.ownsRow (w.heap.size + 1) 101 2 v (wantsIn vs lo hi vs.length).length ((wantsIn vs lo hi vs.length).flatMap wantCells) ∧ Below w.heap.size w w' := by
  have HV := Lib.hid hv
  clear hv
  obtain ⟨i0, hi0, hz0, hz1, hz2⟩ := info_parts infoWant
  go_enter Try.func193, Try.ntmps193
  go_wp2_with fail
  go_loopw [5, 10] (fun v i wr => ∃ k : Nat, k ≤ vs.length ∧ i = .int .i64 (k : Int) ∧ Below (w.heap.size + 1) (w.alloc (.cells #[.string lo, .string hi] 88)) wr ∧ wr.ownsRow (w.heap.size + 1) 101 2 v (wantsIn vs lo hi k).length ((wantsIn vs lo hi k).flatMap wantCells)) (fun _ i _ => vs.length - (intOf i).toNat)
  case atStart => exact ⟨0, Nat.zero_le _, rfl, Below.refl _ _, World.ownsRow_nil _ _ _ _⟩
  case round =>
    obtain ⟨k, hk, rfl, hB, hO⟩ := hrel
    have x0 := hB.cell (p := ⟨w.heap.size, 0, none⟩) (by simp)
    have x1 := hB.cell (p := ⟨w.heap.size, 1, none⟩) (by simp)
    simp [go_sem] at x0 x1
    have HW := Lib.hid (((Below.refl w.heap.size w).alloc (Nat.le_refl _) _).trans (hB.mono (by omega)))
    have HB := Lib.hid hB
    have HO := Lib.hid hO
    have hsz : w.heap.size < wr.heap.size := by have := hB.size; simp at this; omega
    have hsz1 : w.heap.size + 1 ≤ wr.heap.size := hsz
    clear hB hO
    by_cases hlt : k < vs.length
    · rcases HV.out.below HW.out with hnil | ⟨b1, o1, rfl, hb1, hc1⟩
      · rw [hnil] at hlt; simp at hlt
      obtain ⟨c0, c1⟩ := hc1 k hlt
      clear hc1
      have mk := meth_want_key vs[k]
      obtain ⟨W1, hW1⟩ : ∃ W1, wr.alloc (.cells #[.string vs[k].f0, .int .i64 vs[k].f1] 101) = W1 := ⟨_, rfl⟩
      have B1 : Below wr.heap.size wr W1 := by rw [← hW1]; exact (Below.refl _ _).alloc (Nat.le_refl _) _
      have z1 : wr.heap.size < W1.heap.size := by rw [← hW1]; simp
      have z0 : w.heap.size < W1.heap.size := by omega
      have y0 := (B1.cell (p := ⟨w.heap.size, 0, none⟩) hsz).trans x0
      have y1 := (B1.cell (p := ⟨w.heap.size, 1, none⟩) hsz).trans x1
      have d0 : W1.cell? ⟨wr.heap.size, 0, none⟩ = some (.string vs[k].f0) := by rw [← hW1]; simp [go_sem]
      have d1 : W1.cell? ⟨wr.heap.size, 1, none⟩ = some (.int .i64 vs[k].f1) := by rw [← hW1]; simp [go_sem]
      have HB1 := Lib.hid B1
      clear B1
      go_wp2_with fail
      clear hW1 x0 x1
      go_region_with (first
        | (go_at_call 257; refine (wantKey_any vs[k] _).mono ?_; rintro e w2 ⟨rfl, hb2⟩; have y0' := (hb2.cell (p := ⟨w.heap.size, 0, none⟩) z0).trans y0; have y1' := (hb2.cell (p := ⟨w.heap.size, 1, none⟩) z0).trans y1; have e0 := (hb2.cell (p := ⟨wr.heap.size, 0, none⟩) z1).trans d0; have e1 := (hb2.cell (p := ⟨wr.heap.size, 1, none⟩) z1).trans d1; have z2 : wr.heap.size < w2.heap.size := Nat.lt_of_lt_of_le z1 hb2.size; have X2 := Lib.hid hb2; clear hb2)
        | (go_at_call 201; refine (has_any lo hi vs[k].f0 _).mono ?_; rintro e w3 ⟨rfl, hb3⟩; have g0 := (hb3.cell (p := ⟨wr.heap.size, 0, none⟩) z2).trans e0; have g1 := (hb3.cell (p := ⟨wr.heap.size, 1, none⟩) z2).trans e1; have X3 := Lib.hid hb3; clear hb3))
      all_goals
        have B3 := Lib.hid ((HB1.out.drew.trans (X2.out.mono (Nat.le_of_lt z1))).trans (X3.out.mono (Nat.le_of_lt z2)))
        have z3 : wr.heap.size ≤ w3.heap.size := B3.out.size
        have HO3 := Lib.hid (Go.Proofs.Ytncipibjlpfkhaa.ownsRow_of_below HO.out B3.out)
        cases hH : hasB lo hi vs[k].f0
        · go_wp2_with fail
          go_roundw
          case rel => exact ⟨k + 1, by omega, by go_num, HB.out.trans (B3.out.mono hsz1), by rw [wantsIn_no hlt hH]; exact HO3.out⟩
          case measure => simp [intOf]; omega
        · have hle := wantsIn_le vs lo hi k
          go_wp2_with (at_builtin; refine wpList_append_lies _ rfl _ _ 50 rfl (w.heap.size + 1) 101 i0 (.agg #[.string ⟨#[]⟩, .int .i64 0]) 2 24 Try.underlying50 hi0 hz0 hz1 hz2 rfl (by decide) _ (wantsIn vs lo hi k).length _ rfl (HO3.out.alloc _) ⟨w3.heap.size, 0, none⟩ 1 1 (wantCells vs[k]) rfl rfl (newsWant _ _ _ _ rfl) (fun u hu => by simp [wantCells] at hu; rcases hu with rfl | rfl <;> rfl) (by omega) (by unfold maxLen; omega) (by omega) (by simp; omega) _ rfl ?_; intro g cp w4 hown hgrow hat hlt2; have X := Lib.hid (And.intro hown hgrow); clear hown hgrow hat hlt2)
          go_roundw
          case rel => exact ⟨k + 1, by omega, by go_num, Below.grown ((HB.out.trans (B3.out.mono hsz1)).alloc (by omega) _) X.out.2 (by simp; omega) (fun j hj => (HO3.out.lt j hj).1), by rw [wantsIn_yes hlt hH, List.length_append, List.flatMap_append]; simpa using X.out.1⟩
          case measure => simp [intOf]; omega
    · obtain rfl : k = vs.length := by omega
      go_wp2_with fail
      go_ret
      exact ⟨_, rfl, HO.out, HW.out⟩

def writesIn (vs : List WriteD) (lo hi : ByteArray) (k : Nat) : List WriteD := (vs.take k).filter fun v => hasB lo hi v.f0
theorem writesIn_no {vs : List WriteD} {lo hi : ByteArray} {k : Nat} (hk : k < vs.length) (h : hasB lo hi vs[k].f0 = false) : writesIn vs lo hi (k + 1) = writesIn vs lo hi k := by
  unfold writesIn; rw [List.take_succ_eq_append_getElem hk, List.filter_append]; simp [h]
theorem writesIn_yes {vs : List WriteD} {lo hi : ByteArray} {k : Nat} (hk : k < vs.length) (h : hasB lo hi vs[k].f0 = true) : writesIn vs lo hi (k + 1) = writesIn vs lo hi k ++ [vs[k]] := by
  unfold writesIn; rw [List.take_succ_eq_append_getElem hk, List.filter_append]; simp [h]
theorem writesIn_le (vs : List WriteD) (lo hi : ByteArray) (k : Nat) : (writesIn vs lo hi k).length ≤ vs.length := Nat.le_trans (List.length_filter_le _ _) (by rw [List.length_take]; omega)
theorem newsWrite (w : World) (v : WriteD) (t : TypeId) (g : Nat) (hg : w.heap.size = g) : ∀ j u, (writeCells v)[j]? = some u → (w.alloc (.cells #[.string v.f0, .string v.f1, .bool v.f2] t)).cell? ((⟨g, 0, none⟩ : Addr).add j) = some u := by
  subst hg
  exact World.news_of_block (heap_alloc_new w _)

set_option maxRecDepth 100000 in
set_option maxHeartbeats 1000000 in
theorem keysWithinWrite_any (lo hi : ByteArray) (a : Option Addr) (vs : List WriteD) (cap : Nat) (w : World) (hv : WritesIn w a vs) (hn : vs.length ≤ 1048576) :
    Calls Try.prog 194 #[.slice a vs.length cap, .agg #[.string lo, .string hi]] w fun e w' => ∃ v, e = .returned v ∧ w'.ownsRow (w.heap.size + 1) 103 3 v (writesIn vs lo hi vs.length).length ((writesIn vs lo hi vs.length).flatMap writeCells) ∧ Below w.heap.size w w' := by
  have HV := Lib.hid hv
  clear hv
  obtain ⟨i0, hi0, hz0, hz1, hz2⟩ := info_parts infoWrite
  go_enter Try.func194, Try.ntmps194
  go_wp2_with fail
  go_loopw [5, 10] (fun v i wr => ∃ k : Nat, k ≤ vs.length ∧ i = .int .i64 (k : Int) ∧ Below (w.heap.size + 1) (w.alloc (.cells #[.string lo, .string hi] 88)) wr ∧ wr.ownsRow (w.heap.size + 1) 103 3 v (writesIn vs lo hi k).length ((writesIn vs lo hi k).flatMap writeCells)) (fun _ i _ => vs.length - (intOf i).toNat)
  case atStart => exact ⟨0, Nat.zero_le _, rfl, Below.refl _ _, World.ownsRow_nil _ _ _ _⟩
  case round =>
    obtain ⟨k, hk, rfl, hB, hO⟩ := hrel
    have x0 := hB.cell (p := ⟨w.heap.size, 0, none⟩) (by simp)
    have x1 := hB.cell (p := ⟨w.heap.size, 1, none⟩) (by simp)
    simp [go_sem] at x0 x1
    have HW := Lib.hid (((Below.refl w.heap.size w).alloc (Nat.le_refl _) _).trans (hB.mono (by omega)))
    have HB := Lib.hid hB
    have HO := Lib.hid hO
    have hsz : w.heap.size < wr.heap.size := by have := hB.size; simp at this; omega
    have hsz1 : w.heap.size + 1 ≤ wr.heap.size := hsz
    clear hB hO
    by_cases hlt : k < vs.length
    · rcases HV.out.below HW.out with hnil | ⟨b1, o1, rfl, hb1, hc1⟩
      · rw [hnil] at hlt; simp at hlt
      obtain ⟨c0, c1, c2⟩ := hc1 k hlt
      clear hc1
      have mk := meth_write_key vs[k]
      obtain ⟨W1, hW1⟩ : ∃ W1, wr.alloc (.cells #[.string vs[k].f0, .string vs[k].f1, .bool vs[k].f2] 103) = W1 := ⟨_, rfl⟩
      have B1 : Below wr.heap.size wr W1 := by rw [← hW1]; exact (Below.refl _ _).alloc (Nat.le_refl _) _
      have z1 : wr.heap.size < W1.heap.size := by rw [← hW1]; simp
      have z0 : w.heap.size < W1.heap.size := by omega
      have y0 := (B1.cell (p := ⟨w.heap.size, 0, none⟩) hsz).trans x0
      have y1 := (B1.cell (p := ⟨w.heap.size, 1, none⟩) hsz).trans x1
      have d0 : W1.cell? ⟨wr.heap.size, 0, none⟩ = some (.string vs[k].f0) := by rw [← hW1]; simp [go_sem]
      have d1 : W1.cell? ⟨wr.heap.size, 1, none⟩ = some (.string vs[k].f1) := by rw [← hW1]; simp [go_sem]
      have d2 : W1.cell? ⟨wr.heap.size, 2, none⟩ = some (.bool vs[k].f2) := by rw [← hW1]; simp [go_sem]
      have HB1 := Lib.hid B1
      clear B1
      go_wp2_with fail
      clear hW1 x0 x1
      go_region_with (first
        | (go_at_call 260; refine (writeKey_any vs[k] _).mono ?_; rintro e w2 ⟨rfl, hb2⟩; have y0' := (hb2.cell (p := ⟨w.heap.size, 0, none⟩) z0).trans y0; have y1' := (hb2.cell (p := ⟨w.heap.size, 1, none⟩) z0).trans y1; have e0 := (hb2.cell (p := ⟨wr.heap.size, 0, none⟩) z1).trans d0; have e1 := (hb2.cell (p := ⟨wr.heap.size, 1, none⟩) z1).trans d1; have e2 := (hb2.cell (p := ⟨wr.heap.size, 2, none⟩) z1).trans d2; have z2 : wr.heap.size < w2.heap.size := Nat.lt_of_lt_of_le z1 hb2.size; have X2 := Lib.hid hb2; clear hb2)
        | (go_at_call 201; refine (has_any lo hi vs[k].f0 _).mono ?_; rintro e w3 ⟨rfl, hb3⟩; have g0 := (hb3.cell (p := ⟨wr.heap.size, 0, none⟩) z2).trans e0; have g1 := (hb3.cell (p := ⟨wr.heap.size, 1, none⟩) z2).trans e1; have g2 := (hb3.cell (p := ⟨wr.heap.size, 2, none⟩) z2).trans e2; have X3 := Lib.hid hb3; clear hb3))
      all_goals
        have B3 := Lib.hid ((HB1.out.drew.trans (X2.out.mono (Nat.le_of_lt z1))).trans (X3.out.mono (Nat.le_of_lt z2)))
        have z3 : wr.heap.size ≤ w3.heap.size := B3.out.size
        have HO3 := Lib.hid (Go.Proofs.Ytncipibjlpfkhaa.ownsRow_of_below HO.out B3.out)
        cases hH : hasB lo hi vs[k].f0
        · go_wp2_with fail
          go_roundw
          case rel => exact ⟨k + 1, by omega, by go_num, HB.out.trans (B3.out.mono hsz1), by rw [writesIn_no hlt hH]; exact HO3.out⟩
          case measure => simp [intOf]; omega
        · have hle := writesIn_le vs lo hi k
          go_wp2_with (at_builtin; refine wpList_append_lies _ rfl _ _ 51 rfl (w.heap.size + 1) 103 i0 (.agg #[.string ⟨#[]⟩, .string ⟨#[]⟩, .bool false]) 3 40 Try.underlying51 hi0 hz0 hz1 hz2 rfl (by decide) _ (writesIn vs lo hi k).length _ rfl (HO3.out.alloc _) ⟨w3.heap.size, 0, none⟩ 1 1 (writeCells vs[k]) rfl rfl (newsWrite _ _ _ _ rfl) (fun u hu => by simp [writeCells] at hu; rcases hu with rfl | rfl | rfl <;> rfl) (by omega) (by unfold maxLen; omega) (by omega) (by simp; omega) _ rfl ?_; intro g cp w4 hown hgrow hat hlt2; have X := Lib.hid (And.intro hown hgrow); clear hown hgrow hat hlt2)
          go_roundw
          case rel => exact ⟨k + 1, by omega, by go_num, Below.grown ((HB.out.trans (B3.out.mono hsz1)).alloc (by omega) _) X.out.2 (by simp; omega) (fun j hj => (HO3.out.lt j hj).1), by rw [writesIn_yes hlt hH, List.length_append, List.flatMap_append]; simpa using X.out.1⟩
          case measure => simp [intOf]; omega
    · obtain rfl : k = vs.length := by omega
      go_wp2_with fail
      go_ret
      exact ⟨_, rfl, HO.out, HW.out⟩
end Go.Proofs.Ytncipibjlpfkhaa
