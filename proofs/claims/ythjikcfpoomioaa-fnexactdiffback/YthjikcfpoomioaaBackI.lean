/- Changes turned back, as the program makes them. -/
import Derived.Test.YthjikcfpoomioaaBackS
import Derived.Deep.RegionHeld3
namespace Go.Proofs.Ythjikcfpoomioaa
open Go.RowKit

set_option maxHeartbeats 1000000 in
theorem changeOf_any (k s1 s2 : ByteArray) (b1 b2 : Bool) (w : World) :
    Calls Try.prog 80 #[.string k, .agg #[.bool b1, .string s1], .agg #[.bool b2, .string s2]] w fun e w' => e = .returned (.agg #[.string k, .bool b1, .string s1, .bool b2, .string s2]) ∧ Below w.heap.size w w' := by
  go_enter Try.func80, Try.ntmps80
  go_wp2
  exact bodyPost_ret (v := .agg #[.string k, .bool b1, .string s1, .bool b2, .string s2]) (by simp [results, Try.results80, go_sem]) rfl ⟨rfl, (((Below.refl _ _).alloc (Nat.le_refl _) _).alloc (by simp) _).alloc (by simp; omega) _⟩

theorem keep5 {bx : Nat} {x0 x1 x2 x3 x4 : Value} {u v : World} (hb : Below u.heap.size u v) (h : u.cell? ⟨bx, 0, none⟩ = some x0 ∧ u.cell? ⟨bx, 1, none⟩ = some x1 ∧ u.cell? ⟨bx, 2, none⟩ = some x2 ∧ u.cell? ⟨bx, 3, none⟩ = some x3 ∧ u.cell? ⟨bx, 4, none⟩ = some x4 ∧ bx < u.heap.size) : v.cell? ⟨bx, 0, none⟩ = some x0 ∧ v.cell? ⟨bx, 1, none⟩ = some x1 ∧ v.cell? ⟨bx, 2, none⟩ = some x2 ∧ v.cell? ⟨bx, 3, none⟩ = some x3 ∧ v.cell? ⟨bx, 4, none⟩ = some x4 ∧ bx < v.heap.size := by
  obtain ⟨h0, h1, h2, h3, h4, hl⟩ := h
  exact ⟨(hb.cell (p := ⟨bx, 0, none⟩) hl).trans h0, (hb.cell (p := ⟨bx, 1, none⟩) hl).trans h1, (hb.cell (p := ⟨bx, 2, none⟩) hl).trans h2, (hb.cell (p := ⟨bx, 3, none⟩) hl).trans h3, (hb.cell (p := ⟨bx, 4, none⟩) hl).trans h4, Nat.lt_of_lt_of_le hl hb.size⟩
theorem keep5_alloc {bx : Nat} {x0 x1 x2 x3 x4 : Value} {u : World} {o : Obj} (h : u.cell? ⟨bx, 0, none⟩ = some x0 ∧ u.cell? ⟨bx, 1, none⟩ = some x1 ∧ u.cell? ⟨bx, 2, none⟩ = some x2 ∧ u.cell? ⟨bx, 3, none⟩ = some x3 ∧ u.cell? ⟨bx, 4, none⟩ = some x4 ∧ bx < u.heap.size) : (u.alloc o).cell? ⟨bx, 0, none⟩ = some x0 ∧ (u.alloc o).cell? ⟨bx, 1, none⟩ = some x1 ∧ (u.alloc o).cell? ⟨bx, 2, none⟩ = some x2 ∧ (u.alloc o).cell? ⟨bx, 3, none⟩ = some x3 ∧ (u.alloc o).cell? ⟨bx, 4, none⟩ = some x4 ∧ bx < (u.alloc o).heap.size := keep5 ((Below.refl _ _).alloc (Nat.le_refl _) _) h
theorem far5 {bx : Nat} {x0 x1 x2 x3 x4 : Value} {u v : World} {row : Option Nat} (hg : u.grownBy v row) (hne : some bx ≠ row) (h : u.cell? ⟨bx, 0, none⟩ = some x0 ∧ u.cell? ⟨bx, 1, none⟩ = some x1 ∧ u.cell? ⟨bx, 2, none⟩ = some x2 ∧ u.cell? ⟨bx, 3, none⟩ = some x3 ∧ u.cell? ⟨bx, 4, none⟩ = some x4 ∧ bx < u.heap.size) : v.cell? ⟨bx, 0, none⟩ = some x0 ∧ v.cell? ⟨bx, 1, none⟩ = some x1 ∧ v.cell? ⟨bx, 2, none⟩ = some x2 ∧ v.cell? ⟨bx, 3, none⟩ = some x3 ∧ v.cell? ⟨bx, 4, none⟩ = some x4 ∧ bx < v.heap.size := by
  obtain ⟨h0, h1, h2, h3, h4, hl⟩ := h
  exact ⟨(hg.cell_far ⟨bx, 0, none⟩ hl hne).trans h0, (hg.cell_far ⟨bx, 1, none⟩ hl hne).trans h1, (hg.cell_far ⟨bx, 2, none⟩ hl hne).trans h2, (hg.cell_far ⟨bx, 3, none⟩ hl hne).trans h3, (hg.cell_far ⟨bx, 4, none⟩ hl hne).trans h4, Nat.lt_of_lt_of_le hl hg.size⟩

set_option maxRecDepth 100000 in
set_option maxHeartbeats 4000000 in
theorem diffBack_any (a : Option Addr) (vs : List ChangeD) (cap : Nat) (w : World) (hv : ChangesIn w a vs) (hf : ∀ v ∈ vs, v.fits) (hn : vs.length ≤ 1048576) :
    Calls Try.prog 26 #[.slice a vs.length cap] w (DiffBackPost vs w) := by
  have HV := Lib.hid hv
  have HF := Lib.hid hf
  have hn2 : vs.length ≤ maxLen := by unfold maxLen; omega
  clear hv hf
  obtain ⟨i0, hi0, hz0, hz1, hz2⟩ := info_parts infoChange
  go_enter Try.func26, Try.ntmps26
  go_wp2_with fail
  refine (changeListOk_any a vs cap _ HV.out HF.out hn2).mono ?_
  rintro e w0 ⟨b, rfl, hb, hb0⟩
  have HI := Lib.hid hb
  have HB0 := Lib.hid hb0
  clear hb hb0
  cases b
  · go_wp2_with fail
    go_ret
    exact ⟨[], .inr ⟨fun h => absurd (HI.out.2 h) (by decide), rfl⟩, none, 0, rfl, (ChangesAt.nil w0).lower HB0.out.size, HB0.out⟩
  have hY := HI.out.1 (by simp)
  have HY := Lib.hid hY
  clear hY
  go_wp2_with fail
  go_loopw [3, 11] (fun v' i wr => ∃ (v : Value) (k : Nat), v = v' ∧ k ≤ vs.length ∧ i = .int .i64 (k : Int) ∧ Below w.heap.size w wr ∧ wr.ownsRow w.heap.size 115 5 v k ((backTo vs k).flatMap changeCells)) (fun _ i _ => vs.length - (intOf i).toNat)
  case atStart => exact ⟨_, 0, rfl, Nat.zero_le _, rfl, HB0.out, World.ownsRow_nil _ _ _ _⟩
  case round =>
    obtain ⟨v, k, rfl, hk, rfl, hB, hO⟩ := hrel
    have hsz : w.heap.size ≤ wr.heap.size := hB.size
    by_cases hlt : k < vs.length
    · rcases HV.out.below hB with hnil | ⟨b1, o1, rfl, hb1, hc1⟩
      · rw [hnil] at hlt; simp at hlt
      obtain ⟨c0, c1, c2, c3, c4⟩ := hc1 k hlt
      clear hc1
      obtain ⟨W1, hW1⟩ : ∃ W1, wr.alloc (.cells #[.string vs[k].f0, .bool vs[k].f1, .string vs[k].f2, .bool vs[k].f3, .string vs[k].f4] 115) = W1 := ⟨_, rfl⟩
      have B1 : Below wr.heap.size wr W1 := by rw [← hW1]; exact (Below.refl _ _).alloc (Nat.le_refl _) _
      have q : W1.drew.cell? ⟨wr.heap.size, 0, none⟩ = some (.string vs[k].f0) ∧ W1.drew.cell? ⟨wr.heap.size, 1, none⟩ = some (.bool vs[k].f1) ∧ W1.drew.cell? ⟨wr.heap.size, 2, none⟩ = some (.string vs[k].f2) ∧ W1.drew.cell? ⟨wr.heap.size, 3, none⟩ = some (.bool vs[k].f3) ∧ W1.drew.cell? ⟨wr.heap.size, 4, none⟩ = some (.string vs[k].f4) ∧ wr.heap.size < W1.drew.heap.size := by
        rw [← hW1]; refine ⟨?_, ?_, ?_, ?_, ?_, ?_⟩ <;> simp [go_sem]
      have hne : some wr.heap.size ≠ v.ownBlock := fun e => absurd (hO.lt _ e.symm).2 (Nat.lt_irrefl _)
      have HB := Lib.hid ((hB.trans (B1.mono hsz)).drew)
      have HO := Lib.hid (show W1.drew.ownsRow w.heap.size 115 5 v k ((backTo vs k).flatMap changeCells) from (Go.Proofs.Ythjikcfpoomioaa.ownsRow_of_below hO B1).drew)
      clear hB hO B1
      go_wp2_with fail
      clear hW1 c0 c1 c2 c3 c4
      go_region_held3 (fun u => u.cell? ⟨wr.heap.size, 0, none⟩ = some (.string vs[k].f0) ∧ u.cell? ⟨wr.heap.size, 1, none⟩ = some (.bool vs[k].f1) ∧ u.cell? ⟨wr.heap.size, 2, none⟩ = some (.string vs[k].f2) ∧ u.cell? ⟨wr.heap.size, 3, none⟩ = some (.bool vs[k].f3) ∧ u.cell? ⟨wr.heap.size, 4, none⟩ = some (.string vs[k].f4) ∧ wr.heap.size < u.heap.size)
        (first | with_reducible exact q | with_reducible exact keep5_alloc q | fail)
        (first
          | (go_at_call 81; (with_reducible refine (changeAfter_any vs[k] _).mono ?_); rintro e wA ⟨rfl, hb⟩; have q := keep5 hb q; have HO := Lib.hid (Go.Proofs.Ythjikcfpoomioaa.ownsRow_of_below HO.out hb); have HB := Lib.hid (HB.out.trans (hb.mono HB.out.size)); clear hb)
          | (go_at_call 82; (with_reducible refine (changeBefore_any vs[k] _).mono ?_); rintro e wB ⟨rfl, hb⟩; have q := keep5 hb q; have HO := Lib.hid (Go.Proofs.Ythjikcfpoomioaa.ownsRow_of_below HO.out hb); have HB := Lib.hid (HB.out.trans (hb.mono HB.out.size)); clear hb)
          | (go_at_call 80; (with_reducible refine (changeOf_any _ _ _ _ _ _).mono ?_); rintro e wC ⟨rfl, hb⟩; have q := keep5 hb q; have HO := Lib.hid (Go.Proofs.Ythjikcfpoomioaa.ownsRow_of_below HO.out hb); have HB := Lib.hid (HB.out.trans (hb.mono HB.out.size)); clear hb)
          | (refine step_append_lies _ (by rfl) _ _ 32 (by rfl) w.heap.size 115 i0 (.agg #[.string ⟨#[]⟩, .bool false, .string ⟨#[]⟩, .bool false, .string ⟨#[]⟩]) 5 64 Try.underlying32 hi0 hz0 hz1 hz2 rfl (by omega) v k ((backTo vs k).flatMap changeCells) (by rfl) (HO.out.alloc _) ⟨wC.heap.size, 0, none⟩ 1 1 (changeCells vs[k].back) (by rfl) (by rfl) (newsChange _ _ _ _ rfl) (change_one _) (by omega) (by unfold maxLen; omega) (by omega) (by have := HB.out.size; simp; omega) _ rfl ?_; intro gg cp wD hown hgrow hat hlt2; have q := far5 hgrow hne (keep5_alloc q); have X := Lib.hid (And.intro hown hgrow); clear hown hgrow hat hlt2)
          | fail)
      all_goals
        go_wp2_with fail
        go_roundw
        case rel => exact ⟨_, k + 1, rfl, by omega, by go_num, grown_own (HO.out.alloc _) X.out.2 (HB.out.alloc HB.out.size _) (by have := HB.out.size; simp; omega), by rw [backTo_succ hlt, List.flatMap_append]; simpa using X.out.1⟩
        case measure => simp [intOf]; omega
    · obtain rfl : k = vs.length := by omega
      go_wp2_with fail
      go_ret
      exact ⟨backTo vs vs.length, .inl ⟨HY.out, rfl⟩, changesOut_own (backTo_len (Nat.le_refl _)).symm hO (Nat.le_refl _) hB⟩
end Go.Proofs.Ythjikcfpoomioaa
