/- The new world: one part; worlds as they lie in memory. -/
import Derived.Test.YtncipibjlpfkhaaWNew
namespace Go.Proofs.Ytncipibjlpfkhaa
open Go.RowKit Go.Sort

set_option maxHeartbeats 1000000 in
theorem eqPartS1 (b1 b2 : Nat) (w : World) (c0 : w.cell? ⟨b1, 0, none⟩ = some (.string ⟨#[]⟩)) (c1 : w.cell? ⟨b1, 1, none⟩ = some (.string ⟨#[]⟩)) (c2 : w.cell? ⟨b1, 2, none⟩ = some (.slice none 0 0)) (c3 : w.cell? ⟨b1, 3, none⟩ = some (.slice none 0 0)) (d0 : w.cell? ⟨b2, 0, none⟩ = some (.string ⟨#[]⟩)) (d1 : w.cell? ⟨b2, 1, none⟩ = some (.string ⟨#[]⟩)) (d2 : w.cell? ⟨b2, 2, none⟩ = some (.slice none 0 0)) (d3 : w.cell? ⟨b2, 3, none⟩ = some (.slice none 0 0)) :
    Calls Try.prog 73 #[.slice (some ⟨b1, 0, none⟩) 1 1, .slice (some ⟨b2, 0, none⟩) 1 1] w fun e w' => e = .returned (.bool true) ∧ Below w.heap.size w w' := by
  go_enter Try.func73, Try.ntmps73
  go_wp2_with fail
  go_loopw [5] (fun i wr => (i = .int .i64 0 ∧ wr = w) ∨ (i = .int .i64 1 ∧ Below w.heap.size w wr)) (fun i _ => 1 - (intOf i).toNat)
  case atStart => exact .inl ⟨rfl, rfl⟩
  case round =>
    rcases hrel with ⟨rfl, rfl⟩ | ⟨rfl, hB⟩
    · go_wp2_with fail
      have q : wr.cell? ⟨b1, 0, none⟩ = some (.string ⟨#[]⟩) ∧ wr.cell? ⟨b1, 1, none⟩ = some (.string ⟨#[]⟩) ∧ wr.cell? ⟨b1, 2, none⟩ = some (.slice none 0 0) ∧ wr.cell? ⟨b1, 3, none⟩ = some (.slice none 0 0) ∧ wr.cell? ⟨b2, 0, none⟩ = some (.string ⟨#[]⟩) ∧ wr.cell? ⟨b2, 1, none⟩ = some (.string ⟨#[]⟩) ∧ wr.cell? ⟨b2, 2, none⟩ = some (.slice none 0 0) ∧ wr.cell? ⟨b2, 3, none⟩ = some (.slice none 0 0) := ⟨c0, c1, c2, c3, d0, d1, d2, d3⟩
      have hl1 : b1 < wr.heap.size := World.block_lt_of_cell? wr _ c0
      have hl2 : b2 < wr.heap.size := World.block_lt_of_cell? wr _ d0
      go_region_held3 (fun u => u.cell? ⟨b1, 0, none⟩ = some (.string ⟨#[]⟩) ∧ u.cell? ⟨b1, 1, none⟩ = some (.string ⟨#[]⟩) ∧ u.cell? ⟨b1, 2, none⟩ = some (.slice none 0 0) ∧ u.cell? ⟨b1, 3, none⟩ = some (.slice none 0 0) ∧ u.cell? ⟨b2, 0, none⟩ = some (.string ⟨#[]⟩) ∧ u.cell? ⟨b2, 1, none⟩ = some (.string ⟨#[]⟩) ∧ u.cell? ⟨b2, 2, none⟩ = some (.slice none 0 0) ∧ u.cell? ⟨b2, 3, none⟩ = some (.slice none 0 0))
        (first | with_reducible exact q | exact q)
        (first | (go_at_call 156; refine (eqPart0 _).mono ?_; rintro e w2 ⟨rfl, hb⟩; have hb := ((Below.refl _ _).drew).trans hb; have q := And.intro ((hb.cell (p := ⟨b1, 0, none⟩) hl1).trans c0) (And.intro ((hb.cell (p := ⟨b1, 1, none⟩) hl1).trans c1) (And.intro ((hb.cell (p := ⟨b1, 2, none⟩) hl1).trans c2) (And.intro ((hb.cell (p := ⟨b1, 3, none⟩) hl1).trans c3) (And.intro ((hb.cell (p := ⟨b2, 0, none⟩) hl2).trans d0) (And.intro ((hb.cell (p := ⟨b2, 1, none⟩) hl2).trans d1) (And.intro ((hb.cell (p := ⟨b2, 2, none⟩) hl2).trans d2) ((hb.cell (p := ⟨b2, 3, none⟩) hl2).trans d3))))))); have HB := Lib.hid hb; clear hb))
      all_goals
        go_wp2_with fail
        go_roundw
        case rel => exact .inr ⟨by first | rfl | go_num, HB.out⟩
        case measure => simp [intOf]
    · go_wp2_with fail
      go_ret
      exact ⟨rfl, hB⟩

set_option maxHeartbeats 2000000 in
theorem markPartS1 (b k : Nat) (x y : ByteArray) (w : World) (c0 : w.cell? ⟨b, 0, none⟩ = some (.string x)) (c1 : w.cell? ⟨b, 1, none⟩ = some (.string y)) (c2 : w.cell? ⟨b, 2, none⟩ = some (.slice none 0 0)) (c3 : w.cell? ⟨b, 3, none⟩ = some (.slice none 0 0)) (f0 : w.frozen? ⟨b, 0, none⟩ = false) (f1 : w.frozen? ⟨b, 1, none⟩ = false) (h1 : 1 ≤ k) (hk : k ≤ 1000) :
    Calls Try.prog 78 #[.slice (some ⟨b, 0, none⟩) 1 1, .int .i64 (k : Int)] w fun e w' => e = .returned (.int .i64 ((k : Int) + 1 + 1)) ∧ w'.cell? ⟨b, 0, none⟩ = some (.string (mtext k)) ∧ w'.cell? ⟨b, 1, none⟩ = some (.string (mtext (k + 1))) ∧ w'.cell? ⟨b, 2, none⟩ = some (.slice none 0 0) ∧ w'.cell? ⟨b, 3, none⟩ = some (.slice none 0 0) ∧ Turned (fun x => x = b) w w' := by
  have hl : b < w.heap.size := World.block_lt_of_cell? w _ c0
  go_enter Try.func78, Try.ntmps78
  go_wp2_with fail
  go_loopw [1, 5] (fun l i wr => (i = .int .i64 0 ∧ l = .int .i64 (k : Int) ∧ wr = w) ∨ (i = .int .i64 1 ∧ l = .int .i64 ((k : Int) + 1 + 1) ∧ wr.cell? ⟨b, 0, none⟩ = some (.string (mtext k)) ∧ wr.cell? ⟨b, 1, none⟩ = some (.string (mtext (k + 1))) ∧ wr.cell? ⟨b, 2, none⟩ = some (.slice none 0 0) ∧ wr.cell? ⟨b, 3, none⟩ = some (.slice none 0 0) ∧ Turned (fun x => x = b) w wr)) (fun _ i _ => 1 - (intOf i).toNat)
  case atStart => exact .inl ⟨rfl, rfl, rfl⟩
  case round =>
    rcases hrel with ⟨rfl, rfl, rfl⟩ | ⟨rfl, rfl, hc0, hc1, hc2, hc3, hT⟩
    · have m1 : (1 : Int) ≤ (k : Int) := by omega
      have m2 : (k : Int) ≤ 1000 := by omega
      go_wp2_with fail
      refine (markText_at k rfl _ h1 (by omega)).mono ?_
      rintro e w2 ⟨rfl, hb⟩
      have e0 := (hb.cell (p := ⟨b, 0, none⟩) hl).trans c0
      have e1 := (hb.cell (p := ⟨b, 1, none⟩) hl).trans c1
      have e2 := (hb.cell (p := ⟨b, 2, none⟩) hl).trans c2
      have e3 := (hb.cell (p := ⟨b, 3, none⟩) hl).trans c3
      have g0 := (hb.frozen (p := ⟨b, 0, none⟩) hl).trans f0
      have g1 := (hb.frozen (p := ⟨b, 1, none⟩) hl).trans f1
      have hl2 : b < w2.heap.size := Nat.lt_of_lt_of_le hl hb.size
      have HT := Lib.hid (show Turned (fun x => x = b) wr (w2.setCell ⟨b, 0, none⟩ (.string (mtext k))) from (Turned.of_below (S := fun x => x = b) hb).setCell (p := ⟨b, 0, none⟩) rfl _)
      obtain ⟨W3, hW3⟩ : ∃ W3, w2.setCell ⟨b, 0, none⟩ (.string (mtext k)) = W3 := ⟨_, rfl⟩
      rw [hW3] at HT
      have i0 : W3.cell? ⟨b, 0, none⟩ = some (.string (mtext k)) := by rw [← hW3]; simp [go_sem, e0, hl2]
      have i1 : W3.cell? ⟨b, 1, none⟩ = some (.string y) := by rw [← hW3]; simp [go_sem, e1]
      have i2 : W3.cell? ⟨b, 2, none⟩ = some (.slice none 0 0) := by rw [← hW3]; simp [go_sem, e2]
      have i3 : W3.cell? ⟨b, 3, none⟩ = some (.slice none 0 0) := by rw [← hW3]; simp [go_sem, e3]
      have j1 : W3.frozen? ⟨b, 1, none⟩ = false := by rw [← hW3]; simp [go_sem, g1]
      have hl3 : b < W3.heap.size := by rw [← hW3]; simpa using hl2
      clear hb e1 e2 e3 g1
      go_wp2_with fail
      clear hW3 e0 g0
      refine (markText_at (k + 1) (by omega) _ (by omega) (by omega)).mono ?_
      rintro e w4 ⟨rfl, hb⟩
      have e0 := (hb.cell (p := ⟨b, 0, none⟩) hl3).trans i0
      have e1 := (hb.cell (p := ⟨b, 1, none⟩) hl3).trans i1
      have e2 := (hb.cell (p := ⟨b, 2, none⟩) hl3).trans i2
      have e3 := (hb.cell (p := ⟨b, 3, none⟩) hl3).trans i3
      have g1 := (hb.frozen (p := ⟨b, 1, none⟩) hl3).trans j1
      have hl4 : b < w4.heap.size := Nat.lt_of_lt_of_le hl3 hb.size
      have HT := Lib.hid (show Turned (fun x => x = b) wr (w4.setCell ⟨b, 1, none⟩ (.string (mtext (k + 1)))) from (HT.out.trans (Turned.of_below (S := fun x => x = b) hb)).setCell (p := ⟨b, 1, none⟩) rfl _)
      obtain ⟨W5, hW5⟩ : ∃ W5, w4.setCell ⟨b, 1, none⟩ (.string (mtext (k + 1))) = W5 := ⟨_, rfl⟩
      rw [hW5] at HT
      have n0 : W5.cell? ⟨b, 0, none⟩ = some (.string (mtext k)) := by rw [← hW5]; simp [go_sem, e0]
      have n1 : W5.cell? ⟨b, 1, none⟩ = some (.string (mtext (k + 1))) := by rw [← hW5]; simp [go_sem, e1, hl4]
      have n2 : W5.cell? ⟨b, 2, none⟩ = some (.slice none 0 0) := by rw [← hW5]; simp [go_sem, e2]
      have n3 : W5.cell? ⟨b, 3, none⟩ = some (.slice none 0 0) := by rw [← hW5]; simp [go_sem, e3]
      clear hb e0 e2 e3 i0 i1 i2 i3 j1
      go_wp2_with (first | (go_at_call 160; refine (mark0_ObjS _ _).mono ?_; rintro e w9 ⟨rfl, rfl⟩) | (go_at_call 161; refine (mark0_TxnS _ _).mono ?_; rintro e w9 ⟨rfl, rfl⟩))
      go_roundw
      case rel => exact .inr ⟨by first | rfl | go_num, by first | rfl | go_num, n0, n1, n2, n3, HT.out⟩
      case measure => simp [intOf]
    · go_wp2_with fail
      go_ret
      exact ⟨rfl, hc0, hc1, hc2, hc3, hT⟩

set_option maxHeartbeats 2000000 in
theorem heldPartS1 (b k : Nat) (w : World) (c0 : w.cell? ⟨b, 0, none⟩ = some (.string (mtext k))) (c1 : w.cell? ⟨b, 1, none⟩ = some (.string (mtext (k + 1)))) (c2 : w.cell? ⟨b, 2, none⟩ = some (.slice none 0 0)) (c3 : w.cell? ⟨b, 3, none⟩ = some (.slice none 0 0)) (h1 : 1 ≤ k) (hk : k ≤ 1000) :
    Calls Try.prog 84 #[.slice (some ⟨b, 0, none⟩) 1 1, .int .i64 (k : Int)] w fun e w' => e = .returned (.int .i64 ((k : Int) + 1 + 1)) ∧ Below w.heap.size w w' := by
  have hl : b < w.heap.size := World.block_lt_of_cell? w _ c0
  go_enter Try.func84, Try.ntmps84
  go_wp2_with fail
  go_loopw [1, 5] (fun l i wr => (i = .int .i64 0 ∧ l = .int .i64 (k : Int) ∧ wr = w) ∨ (i = .int .i64 1 ∧ l = .int .i64 ((k : Int) + 1 + 1) ∧ Below w.heap.size w wr)) (fun _ i _ => 1 - (intOf i).toNat)
  case atStart => exact .inl ⟨rfl, rfl, rfl⟩
  case round =>
    rcases hrel with ⟨rfl, rfl, rfl⟩ | ⟨rfl, rfl, hT⟩
    · have m1 : (1 : Int) ≤ (k : Int) := by omega
      have m2 : (k : Int) ≤ 1000 := by omega
      have y0 := cell_regrown c0
      have n1 : ((mtext k).toList != (mtext k).toList) = false := by simp
      have n2 : ((mtext (k + 1)).toList != (mtext (k + 1)).toList) = false := by simp
      go_wp2_with fail
      refine wp_region_quiet_below (by kernel_rfl) (by kernel_rfl) ?_
      repeat (go_big_quiet_step ((go_at_call 127; exact Calls.regrown_of (markText_at k rfl _ h1 (by omega)))))
      refine wpQuiet_nil ?_
      intro _ hw'
      obtain ⟨⟨dq, osq⟩, hw''⟩ := hw'
      subst hw''
      obtain ⟨V, hV⟩ : ∃ V, grow (redrawn wr dq) osq = V := ⟨_, rfl⟩
      have hbV : Below wr.heap.size wr V := by rw [← hV]; exact below_regrown _ _ _
      rw [show grow (redrawn wr (Regrown.mk dq osq).d) (Regrown.mk dq osq).os = V from hV]
      have d1 := (hbV.cell (p := ⟨b, 1, none⟩) hl).trans c1
      have d2 := (hbV.cell (p := ⟨b, 2, none⟩) hl).trans c2
      have d3 := (hbV.cell (p := ⟨b, 3, none⟩) hl).trans c3
      have hl2 : b < V.heap.size := Nat.lt_of_lt_of_le hl hbV.size
      have y1 := cell_regrown d1
      have HB := Lib.hid hbV
      clear hV hbV y0
      go_wp2_with fail
      refine wp_region_quiet_below (by kernel_rfl) (by kernel_rfl) ?_
      repeat (go_big_quiet_step ((go_at_call 127; exact Calls.regrown_of (markText_at (k + 1) (by omega) _ (by omega) (by omega)))))
      refine wpQuiet_nil ?_
      intro _ hw'
      obtain ⟨⟨dr, osr⟩, hw''⟩ := hw'
      subst hw''
      obtain ⟨U, hU⟩ : ∃ U, grow (redrawn V dr) osr = U := ⟨_, rfl⟩
      have hbU : Below V.heap.size V U := by rw [← hU]; exact below_regrown _ _ _
      rw [show grow (redrawn V (Regrown.mk dr osr).d) (Regrown.mk dr osr).os = U from hU]
      have e2 := (hbU.cell (p := ⟨b, 2, none⟩) hl2).trans d2
      have e3 := (hbU.cell (p := ⟨b, 3, none⟩) hl2).trans d3
      have HB2 := Lib.hid (HB.out.trans (hbU.mono HB.out.size))
      clear hU hbU y1 d1 d2 d3
      go_wp2_with (first | (go_at_call 162; refine (held0_ObjS _ _).mono ?_; rintro e w9 ⟨rfl, rfl⟩) | (go_at_call 163; refine (held0_TxnS _ _).mono ?_; rintro e w9 ⟨rfl, rfl⟩))
      go_roundw
      case rel => exact .inr ⟨by first | rfl | go_num, by first | rfl | go_num, HB2.out⟩
      case measure => simp [intOf]
    · go_wp2_with fail
      go_ret
      exact ⟨rfl, hT⟩
end Go.Proofs.Ytncipibjlpfkhaa
