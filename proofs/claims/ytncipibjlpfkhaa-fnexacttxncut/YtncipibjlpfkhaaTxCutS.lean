/- What a transaction asks and writes in a span, as the model gathers it. -/
import Derived.Test.YtncipibjlpfkhaaTxCutI
import Derived.Test.YtncipibjlpfkhaaTxOkS
import Derived.Deep.RegionLaw
namespace Go.Proofs.Ytncipibjlpfkhaa
open Go.RowKit Go.Sort

theorem Turned.grown {S : Nat → Prop} {a w w' : World} {row : Option Nat} (h : Turned S a w) (hg : w.grownBy w' row) (hr : ∀ k, row = some k → a.heap.size ≤ k) : Turned S a w' :=
  ⟨hg.os.trans h.os, hg.tape.trans h.tape, hg.output.trans h.output, Nat.le_trans h.size hg.size, fun k hk hn => (hg.block k (Nat.lt_of_lt_of_le hk h.size) (fun e => by have := hr k e.symm; omega)).trans (h.block k hk hn)⟩
theorem ownsRow_turned {S : Nat → Prop} {w w' : World} {base size n : Nat} {e : TypeId} {v : Value} {xs : List Value} (h : w.ownsRow base e size v n xs) (hs : ∀ g, v.ownBlock = some g → ¬ S g) (ht : Turned S w w') : w'.ownsRow base e size v n xs := by
  refine ⟨h.1, h.2.elim .inl fun ⟨g, cap, cur, hv, hg, hh, r⟩ => .inr ⟨g, cap, cur, hv, hg, ?_, r⟩⟩
  have hlt : g < w.heap.size := by
    rcases Nat.lt_or_ge g w.heap.size with q | q
    · exact q
    · rw [Array.getElem?_eq_none q] at hh; cases hh
  exact (ht.block g hlt (hs g (by rw [hv]; rfl))).trans hh
/-- The model's list so far: the cell of the box that holds it, and the row. -/
structure Gath (T : TypeId) (size R j B : Nat) (W wr : World) (n : Nat) (cells : List Value) (a : Option Addr) (cp : Nat) : Prop where
  turned : Turned (fun b => b = R) W wr
  cell : wr.cell? ⟨R, j, none⟩ = some (.slice a n cp)
  frozen : wr.frozen? ⟨R, j, none⟩ = false
  own : wr.ownsRow B T size (.slice a n cp) n cells
  rest : ∀ i, i ≠ j → wr.cell? ⟨R, i, none⟩ = W.cell? ⟨R, i, none⟩
  restf : ∀ i, wr.frozen? ⟨R, i, none⟩ = W.frozen? ⟨R, i, none⟩
theorem setCell_rest {u : World} {R i j : Nat} {x : Value} (h : i ≠ j) : (u.setCell ⟨R, j, none⟩ x).cell? ⟨R, i, none⟩ = u.cell? ⟨R, i, none⟩ := World.cell?_setCell_other _ _ _ _ (by intro e; cases e; exact h rfl)

set_option maxRecDepth 100000 in
set_option maxHeartbeats 4000000 in
theorem l4Cut_any (id : Int) (a1 a2 : Option Addr) (ws : List WantD) (us : List WriteD) (k1 k2 : Nat) (lo hi : ByteArray) (w : World) (hv : WantsIn w a1 ws) (hu : WritesIn w a2 us) (hn : ws.length ≤ 1048576) (hm : us.length ≤ 1048576) :
    Calls Try.prog 129 #[.agg #[.int .i64 id, .slice a1 ws.length k1, .slice a2 us.length k2], .agg #[.string lo, .string hi]] w (TxOut id (wantsIn ws lo hi ws.length) (writesIn us lo hi us.length) w) := by
  have HV := Lib.hid hv
  have HU := Lib.hid hu
  clear hv hu
  obtain ⟨i0, hi0, hz0, hz1, hz2⟩ := info_parts infoWant
  obtain ⟨j0, hj0, hy0, hy1, hy2⟩ := info_parts infoWrite
  obtain ⟨W1, hW1⟩ : ∃ W1, ((w.alloc (.cells #[.int .i64 id, .slice a1 ws.length k1, .slice a2 us.length k2] 53)).alloc (.cells #[.string lo, .string hi] 88)).alloc (.cells #[.int .i64 0, .slice none 0 0, .slice none 0 0] 53) = W1 := ⟨_, rfl⟩
  have HB : Below w.heap.size w W1 := by rw [← hW1]; exact (((Below.refl _ _).alloc (Nat.le_refl _) _).alloc (by simp) _).alloc (by simp; omega) _
  have zc : w.heap.size < W1.heap.size := by rw [← hW1]; simp <;> omega
  have c0 : W1.cell? ⟨w.heap.size, 0, none⟩ = some (.int .i64 id) := by rw [← hW1]; simp [go_sem]
  have c1 : W1.cell? ⟨w.heap.size, 1, none⟩ = some (.slice a1 ws.length k1) := by rw [← hW1]; simp [go_sem]
  have c2 : W1.cell? ⟨w.heap.size, 2, none⟩ = some (.slice a2 us.length k2) := by rw [← hW1]; simp [go_sem]
  have zs : w.heap.size + 1 < W1.heap.size := by rw [← hW1]; simp <;> omega
  have s0 : W1.cell? ⟨w.heap.size + 1, 0, none⟩ = some (.string lo) := by rw [← hW1]; simp [go_sem]
  have s1 : W1.cell? ⟨w.heap.size + 1, 1, none⟩ = some (.string hi) := by rw [← hW1]; simp [go_sem]
  have zr : w.heap.size + 1 + 1 < W1.heap.size := by rw [← hW1]; simp
  have r0 : W1.cell? ⟨w.heap.size + 1 + 1, 0, none⟩ = some (.int .i64 0) := by rw [← hW1]; simp [go_sem]
  have r1 : W1.cell? ⟨w.heap.size + 1 + 1, 1, none⟩ = some (.slice none 0 0) := by rw [← hW1]; simp [go_sem]
  have r2 : W1.cell? ⟨w.heap.size + 1 + 1, 2, none⟩ = some (.slice none 0 0) := by rw [← hW1]; simp [go_sem]
  have fr0 : W1.frozen? ⟨w.heap.size + 1 + 1, 0, none⟩ = false := by rw [← hW1]; simp [go_sem]
  have fr1 : W1.frozen? ⟨w.heap.size + 1 + 1, 1, none⟩ = false := by rw [← hW1]; simp [go_sem]
  have fr2 : W1.frozen? ⟨w.heap.size + 1 + 1, 2, none⟩ = false := by rw [← hW1]; simp [go_sem]
  have HB := Lib.hid HB
  go_enter Try.func129, Try.ntmps129
  go_wp2_with fail
  clear hW1
  obtain ⟨W2, hW2⟩ : ∃ W2, W1.alloc (.cells #[.int .i64 id, .slice none 0 0, .slice none 0 0] 53) = W2 := ⟨_, rfl⟩
  rw [hW2]
  have hb : Below W1.heap.size W1 W2 := by rw [← hW2]; exact (Below.refl _ _).alloc (Nat.le_refl _) _
  have zo : W1.heap.size < W2.heap.size := by rw [← hW2]; simp
  have o0 : W2.cell? ⟨W1.heap.size, 0, none⟩ = some (.int .i64 id) := by rw [← hW2]; simp [go_sem]
  have o1 : W2.cell? ⟨W1.heap.size, 1, none⟩ = some (.slice none 0 0) := by rw [← hW2]; simp [go_sem]
  have o2 : W2.cell? ⟨W1.heap.size, 2, none⟩ = some (.slice none 0 0) := by rw [← hW2]; simp [go_sem]
  have fo1 : W2.frozen? ⟨W1.heap.size, 1, none⟩ = false := by rw [← hW2]; simp [go_sem]
  have fo2 : W2.frozen? ⟨W1.heap.size, 2, none⟩ = false := by rw [← hW2]; simp [go_sem]
  have c0 := (hb.cell (p := ⟨w.heap.size, 0, none⟩) zc).trans c0
  have c1 := (hb.cell (p := ⟨w.heap.size, 1, none⟩) zc).trans c1
  have c2 := (hb.cell (p := ⟨w.heap.size, 2, none⟩) zc).trans c2
  have s0 := (hb.cell (p := ⟨w.heap.size + 1, 0, none⟩) zs).trans s0
  have s1 := (hb.cell (p := ⟨w.heap.size + 1, 1, none⟩) zs).trans s1
  have r0 := (hb.cell (p := ⟨w.heap.size + 1 + 1, 0, none⟩) zr).trans r0
  have r1 := (hb.cell (p := ⟨w.heap.size + 1 + 1, 1, none⟩) zr).trans r1
  have r2 := (hb.cell (p := ⟨w.heap.size + 1 + 1, 2, none⟩) zr).trans r2
  have fr0 := (hb.frozen (p := ⟨w.heap.size + 1 + 1, 0, none⟩) zr).trans fr0
  have fr1 := (hb.frozen (p := ⟨w.heap.size + 1 + 1, 1, none⟩) zr).trans fr1
  have fr2 := (hb.frozen (p := ⟨w.heap.size + 1 + 1, 2, none⟩) zr).trans fr2
  have zc : w.heap.size < W2.heap.size := Nat.lt_of_lt_of_le zc hb.size
  have zs : w.heap.size + 1 < W2.heap.size := Nat.lt_of_lt_of_le zs hb.size
  have zr : w.heap.size + 1 + 1 < W2.heap.size := Nat.lt_of_lt_of_le zr hb.size
  have HB := Lib.hid (show Below w.heap.size w W2 by first | (with_reducible exact HB.out.trans (hb.mono HB.out.size)) | (with_reducible exact HB.out.drew.trans (hb.mono HB.out.drew.size)))
  have zk : w.heap.size + 3 ≤ W1.heap.size := by omega
  clear hW2 hb
  go_loopw [6] (fun i wr => ∃ (k : Nat) (a : Option Addr) (cp : Nat), k ≤ ws.length ∧ i = .int .i64 (k : Int) ∧ Gath 101 2 (W1.heap.size) 1 W2.heap.size W2 wr (wantsIn ws lo hi k).length ((wantsIn ws lo hi k).flatMap wantCells) a cp) (fun i _ => ws.length - (intOf i).toNat)
  case atStart => exact ⟨0, none, 0, Nat.zero_le _, rfl, ⟨Turned.refl _ _, o1, fo1, World.ownsRow_nil _ _ _ _, fun _ _ => rfl, fun _ => rfl⟩⟩
  case round =>
    obtain ⟨k, av, cv, hk, rfl, hG⟩ := hrel
    obtain ⟨hT, hc, hfz, hown, hre, hrf⟩ := hG
    have HR := Lib.hid (And.intro hre hrf)
    clear hre hrf
    have x1 := (hT.cell (p := ⟨w.heap.size, 1, none⟩) zc (by show ¬ (w.heap.size = W1.heap.size); omega)).trans c1
    have x2 := (hT.cell (p := ⟨w.heap.size, 2, none⟩) zc (by show ¬ (w.heap.size = W1.heap.size); omega)).trans c2
    have y0 := (hT.cell (p := ⟨w.heap.size + 1, 0, none⟩) zs (by show ¬ (w.heap.size + 1 = W1.heap.size); omega)).trans s0
    have y1 := (hT.cell (p := ⟨w.heap.size + 1, 1, none⟩) zs (by show ¬ (w.heap.size + 1 = W1.heap.size); omega)).trans s1
    have hsz : W2.heap.size ≤ wr.heap.size := hT.size
    have hBw : Below w.heap.size w wr := HB.out.trans (hT.below (fun b e => by omega) HB.out.size)
    have HT := Lib.hid hT
    have HO := Lib.hid hown
    have HBw := Lib.hid hBw
    clear hT hown hBw
    by_cases hlt : k < ws.length
    · rcases HV.out.below HBw.out with hnil | ⟨b1, p1, rfl, hb1, hc1⟩
      · rw [hnil] at hlt; simp at hlt
      obtain ⟨d0, d1⟩ := hc1 k hlt
      clear hc1
      have q1 : (0 : Int) ≤ (k : Int) := by omega
      have q2 : (k : Int) < (ws.length : Int) := by omega
      have g1 := cell_regrown x1
      have g2 := cell_regrown y0
      have g3 := cell_regrown y1
      have g4 := cell_regrown d0
      go_wp2_with fail
      refine wp_region_quiet_below (by kernel_rfl) (by kernel_rfl) ?_
      repeat (go_big_quiet_step ((go_at_call 192; exact Calls.regrown_of (l1Has_any lo hi _ _))))
      refine wpQuiet_nil ?_
      intro _ hw'
      obtain ⟨⟨dq, osq⟩, hw''⟩ := hw'
      subst hw''
      obtain ⟨V, hV⟩ : ∃ V, grow (redrawn wr dq) osq = V := ⟨_, rfl⟩
      have hbV : Below wr.heap.size wr V := by rw [← hV]; exact below_regrown _ _ _
      rw [show grow (redrawn wr (Regrown.mk dq osq).d) (Regrown.mk dq osq).os = V from hV]
      have hzo : W1.heap.size < wr.heap.size := Nat.lt_of_lt_of_le zo hsz
      have x1 := (hbV.cell (p := ⟨w.heap.size, 1, none⟩) (by show w.heap.size < _; omega)).trans x1
      have d0 := (hbV.cell (p := ⟨b1, p1 + k * 2, none⟩) hb1).trans d0
      have d1 := (hbV.cell (p := ⟨b1, p1 + k * 2 + 1, none⟩) hb1).trans d1
      have hc := (hbV.cell (p := ⟨W1.heap.size, 1, none⟩) hzo).trans hc
      have hfz := (hbV.frozen (p := ⟨W1.heap.size, 1, none⟩) hzo).trans hfz
      have HT := Lib.hid (HT.out.trans (Turned.of_below hbV))
      have HO := Lib.hid (Go.Proofs.Ytncipibjlpfkhaa.ownsRow_of_below HO.out hbV)
      have HR := Lib.hid (show (∀ i, i ≠ 1 → V.cell? ⟨W1.heap.size, i, none⟩ = W2.cell? ⟨W1.heap.size, i, none⟩) ∧ ∀ i, V.frozen? ⟨W1.heap.size, i, none⟩ = W2.frozen? ⟨W1.heap.size, i, none⟩ from ⟨fun i h => (hbV.cell (p := ⟨W1.heap.size, i, none⟩) hzo).trans (HR.out.1 i h), fun i => (hbV.frozen (p := ⟨W1.heap.size, i, none⟩) hzo).trans (HR.out.2 i)⟩)
      have hsz : W2.heap.size ≤ V.heap.size := Nat.le_trans hsz hbV.size
      have hbb : b1 < V.heap.size := Nat.lt_of_lt_of_le hb1 hbV.size
      clear hV hbV g1 g2 g3 g4
      cases hH : hasB lo hi ws[k].f0
      · go_wp2_with fail
        go_roundw
        case rel => exact ⟨k + 1, av, cv, by omega, by go_num, by rw [wantsIn_no hlt hH]; exact ⟨HT.out, hc, hfz, HO.out, HR.out.1, HR.out.2⟩⟩
        case measure => simp [intOf]; omega
      · have hle := wantsIn_le ws lo hi k
        have zR : ¬ (w.heap.size = W1.heap.size) := by omega
        have hzV : W1.heap.size < V.heap.size := by omega
        have hzW : w.heap.size < V.heap.size := by omega
        go_wp2_with fail
        go_region_law (refine step_append_lies _ rfl (.tmp 27) (.tmp 33) 50 rfl W2.heap.size 101 i0 (.agg #[.string ⟨#[]⟩, .int .i64 0]) 2 24 Try.underlying50 hi0 hz0 hz1 hz2 rfl (by decide) _ (wantsIn ws lo hi k).length _ rfl (HO.out.alloc _).drew ⟨V.heap.size, 0, none⟩ 1 1 (wantCells ws[k]) rfl rfl (newsWant _ ws[k] _ _ rfl) (fun u hu => (by simp [wantCells] at hu; rcases hu with rfl | rfl <;> rfl)) (by omega) (by unfold maxLen; omega) (by omega) (by simp; omega) _ rfl ?_; intro g cp w3 hown hgrow hat hlt2; have hbG := Below.grown (((Below.refl W2.heap.size V).alloc hsz _).drew) hgrow (by simp; omega) (fun j hj => (HO.out.lt j hj).1); have hc3 := (hbG.cell (p := ⟨W1.heap.size, 1, none⟩) zo).trans hc; have hf3 := (hbG.frozen (p := ⟨W1.heap.size, 1, none⟩) zo).trans hfz; have X := Lib.hid (And.intro hown hgrow); have Y := Lib.hid hbG; have Z3 := Lib.hid hbG.size; clear hown hgrow hat hlt2 hbG)
        all_goals
          go_wp2_with fail
          go_roundw
          case rel =>
            obtain ⟨hown, hgrow⟩ := X.out
            have zz : W1.heap.size < w3.heap.size := by have := Z3.out; omega
            refine ⟨k + 1, some ⟨g, 0, none⟩, cp, by omega, by go_num, ?_⟩
            rw [wantsIn_yes hlt hH, List.length_append, List.flatMap_append]
            exact ⟨(Turned.grown (HT.out.trans (Turned.of_below (((Below.refl _ _).alloc (Nat.le_refl _) _).drew))) hgrow (fun j hj => (HO.out.lt j hj).1)).setCell (p := ⟨W1.heap.size, 1, none⟩) rfl _, by simp [go_sem, zz, hc3], by simp [go_sem, hf3], ownsRow_setCell_below (by simpa using hown) (by show W1.heap.size < _; omega) _, fun i h => (setCell_rest h).trans ((Y.out.cell (p := ⟨W1.heap.size, i, none⟩) zo).trans (HR.out.1 i h)), fun i => (by simp [go_sem]; exact (Y.out.frozen (p := ⟨W1.heap.size, i, none⟩) zo).trans (HR.out.2 i))⟩
          case measure => simp [intOf]; omega
    · obtain rfl : k = ws.length := by omega
      go_wp2_with fail
      obtain ⟨WL, rfl⟩ : ∃ WL, WL = wr := ⟨_, rfl⟩
      obtain ⟨av0, rfl⟩ : ∃ av0, av0 = av := ⟨_, rfl⟩
      obtain ⟨cv0, rfl⟩ : ∃ cv0, cv0 = cv := ⟨_, rfl⟩
      have to : W1.heap.size < WL.heap.size := Nat.lt_of_lt_of_le zo hsz
      have tc : w.heap.size < WL.heap.size := by omega
      have ts : w.heap.size + 1 < WL.heap.size := by omega
      have m1 := x1
      have m2 := x2
      have n0 := y0
      have n1 := y1
      have p2 := (HR.out.1 2 (by decide)).trans o2
      have fp2 := (HR.out.2 2).trans fo2
      have p0 := (HR.out.1 0 (by decide)).trans o0
      have HC1 := Lib.hid (And.intro hc hfz)
      have HBL := Lib.hid HBw.out
      have HTL := Lib.hid HT.out
      have HOL := Lib.hid HO.out
      clear x1 x2 y0 y1 hc hfz
      go_loopw [7] (fun i wr => ∃ (k : Nat) (a : Option Addr) (cp : Nat), k ≤ us.length ∧ i = .int .i64 (k : Int) ∧ Gath 103 3 (W1.heap.size) 2 WL.heap.size WL wr (writesIn us lo hi k).length ((writesIn us lo hi k).flatMap writeCells) a cp) (fun i _ => us.length - (intOf i).toNat)
      case atStart => exact ⟨0, none, 0, Nat.zero_le _, rfl, ⟨Turned.refl _ _, p2, fp2, World.ownsRow_nil _ _ _ _, fun _ _ => rfl, fun _ => rfl⟩⟩
      case round =>
        obtain ⟨k, av, cv, hk, rfl, hG⟩ := hrel
        obtain ⟨hT, hc, hfz, hown, hre, hrf⟩ := hG
        have HR := Lib.hid (And.intro hre hrf)
        clear hre hrf
        have x1 := (hT.cell (p := ⟨w.heap.size, 1, none⟩) tc (by show ¬ (w.heap.size = W1.heap.size); omega)).trans m1
        have x2 := (hT.cell (p := ⟨w.heap.size, 2, none⟩) tc (by show ¬ (w.heap.size = W1.heap.size); omega)).trans m2
        have y0 := (hT.cell (p := ⟨w.heap.size + 1, 0, none⟩) ts (by show ¬ (w.heap.size + 1 = W1.heap.size); omega)).trans n0
        have y1 := (hT.cell (p := ⟨w.heap.size + 1, 1, none⟩) ts (by show ¬ (w.heap.size + 1 = W1.heap.size); omega)).trans n1
        have hsz : WL.heap.size ≤ wr.heap.size := hT.size
        have hBw : Below w.heap.size w wr := HBL.out.trans (hT.below (fun b e => by omega) HBL.out.size)
        have HT := Lib.hid hT
        have HO := Lib.hid hown
        have HBw := Lib.hid hBw
        clear hT hown hBw
        by_cases hlt : k < us.length
        · rcases HU.out.below HBw.out with hnil | ⟨b1, p1, rfl, hb1, hc1⟩
          · rw [hnil] at hlt; simp at hlt
          obtain ⟨d0, d1, d2⟩ := hc1 k hlt
          clear hc1
          have q1 : (0 : Int) ≤ (k : Int) := by omega
          have q2 : (k : Int) < (us.length : Int) := by omega
          have g1 := cell_regrown x2
          have g2 := cell_regrown y0
          have g3 := cell_regrown y1
          have g4 := cell_regrown d0
          go_wp2_with fail
          refine wp_region_quiet_below (by kernel_rfl) (by kernel_rfl) ?_
          repeat (go_big_quiet_step ((go_at_call 192; exact Calls.regrown_of (l1Has_any lo hi _ _))))
          refine wpQuiet_nil ?_
          intro _ hw'
          obtain ⟨⟨dq, osq⟩, hw''⟩ := hw'
          subst hw''
          obtain ⟨V, hV⟩ : ∃ V, grow (redrawn wr dq) osq = V := ⟨_, rfl⟩
          have hbV : Below wr.heap.size wr V := by rw [← hV]; exact below_regrown _ _ _
          rw [show grow (redrawn wr (Regrown.mk dq osq).d) (Regrown.mk dq osq).os = V from hV]
          have hzo : W1.heap.size < wr.heap.size := Nat.lt_of_lt_of_le to hsz
          have x2 := (hbV.cell (p := ⟨w.heap.size, 2, none⟩) (by show w.heap.size < _; omega)).trans x2
          have d0 := (hbV.cell (p := ⟨b1, p1 + k * 3, none⟩) hb1).trans d0
          have d1 := (hbV.cell (p := ⟨b1, p1 + k * 3 + 1, none⟩) hb1).trans d1
          have d2 := (hbV.cell (p := ⟨b1, p1 + k * 3 + 2, none⟩) hb1).trans d2
          have hc := (hbV.cell (p := ⟨W1.heap.size, 2, none⟩) hzo).trans hc
          have hfz := (hbV.frozen (p := ⟨W1.heap.size, 2, none⟩) hzo).trans hfz
          have HT := Lib.hid (HT.out.trans (Turned.of_below hbV))
          have HO := Lib.hid (Go.Proofs.Ytncipibjlpfkhaa.ownsRow_of_below HO.out hbV)
          have HR := Lib.hid (show (∀ i, i ≠ 2 → V.cell? ⟨W1.heap.size, i, none⟩ = WL.cell? ⟨W1.heap.size, i, none⟩) ∧ ∀ i, V.frozen? ⟨W1.heap.size, i, none⟩ = WL.frozen? ⟨W1.heap.size, i, none⟩ from ⟨fun i h => (hbV.cell (p := ⟨W1.heap.size, i, none⟩) hzo).trans (HR.out.1 i h), fun i => (hbV.frozen (p := ⟨W1.heap.size, i, none⟩) hzo).trans (HR.out.2 i)⟩)
          have hsz : WL.heap.size ≤ V.heap.size := Nat.le_trans hsz hbV.size
          have hbb : b1 < V.heap.size := Nat.lt_of_lt_of_le hb1 hbV.size
          clear hV hbV g1 g2 g3 g4
          cases hH : hasB lo hi us[k].f0
          · go_wp2_with fail
            go_roundw
            case rel => exact ⟨k + 1, av, cv, by omega, by go_num, by rw [writesIn_no hlt hH]; exact ⟨HT.out, hc, hfz, HO.out, HR.out.1, HR.out.2⟩⟩
            case measure => simp [intOf]; omega
          · have hle := writesIn_le us lo hi k
            have zR : ¬ (w.heap.size = W1.heap.size) := by omega
            have hzV : W1.heap.size < V.heap.size := by omega
            have hzW : w.heap.size < V.heap.size := by omega
            go_wp2_with fail
            go_region_law (refine step_append_lies _ rfl (.tmp 52) (.tmp 58) 51 rfl WL.heap.size 103 j0 (.agg #[.string ⟨#[]⟩, .string ⟨#[]⟩, .bool false]) 3 40 Try.underlying51 hj0 hy0 hy1 hy2 rfl (by decide) _ (writesIn us lo hi k).length _ rfl (HO.out.alloc _).drew ⟨V.heap.size, 0, none⟩ 1 1 (writeCells us[k]) rfl rfl (newsWrite _ us[k] _ _ rfl) (fun u hu => (by simp [writeCells] at hu; rcases hu with rfl | rfl | rfl <;> rfl)) (by omega) (by unfold maxLen; omega) (by omega) (by simp; omega) _ rfl ?_; intro g cp w3 hown hgrow hat hlt2; have hbG := Below.grown (((Below.refl WL.heap.size V).alloc hsz _).drew) hgrow (by simp; omega) (fun j hj => (HO.out.lt j hj).1); have hc3 := (hbG.cell (p := ⟨W1.heap.size, 2, none⟩) to).trans hc; have hf3 := (hbG.frozen (p := ⟨W1.heap.size, 2, none⟩) to).trans hfz; have X := Lib.hid (And.intro hown hgrow); have Y := Lib.hid hbG; have Z3 := Lib.hid hbG.size; clear hown hgrow hat hlt2 hbG)
            all_goals
              go_wp2_with fail
              go_roundw
              case rel =>
                obtain ⟨hown, hgrow⟩ := X.out
                have zz : W1.heap.size < w3.heap.size := by have := Z3.out; omega
                refine ⟨k + 1, some ⟨g, 0, none⟩, cp, by omega, by go_num, ?_⟩
                rw [writesIn_yes hlt hH, List.length_append, List.flatMap_append]
                exact ⟨(Turned.grown (HT.out.trans (Turned.of_below (((Below.refl _ _).alloc (Nat.le_refl _) _).drew))) hgrow (fun j hj => (HO.out.lt j hj).1)).setCell (p := ⟨W1.heap.size, 2, none⟩) rfl _, by simp [go_sem, zz, hc3], by simp [go_sem, hf3], ownsRow_setCell_below (by simpa using hown) (by show W1.heap.size < _; omega) _, fun i h => (setCell_rest h).trans ((Y.out.cell (p := ⟨W1.heap.size, i, none⟩) to).trans (HR.out.1 i h)), fun i => (by simp [go_sem]; exact (Y.out.frozen (p := ⟨W1.heap.size, i, none⟩) to).trans (HR.out.2 i))⟩
              case measure => simp [intOf]; omega
        · obtain rfl : k = us.length := by omega
          have tr : w.heap.size + 1 + 1 < WL.heap.size := by omega
          have R0 := (HT.out.cell (p := ⟨w.heap.size + 1 + 1, 0, none⟩) tr (by show ¬ (w.heap.size + 1 + 1 = W1.heap.size); omega)).trans ((HTL.out.cell (p := ⟨w.heap.size + 1 + 1, 0, none⟩) zr (by show ¬ (w.heap.size + 1 + 1 = W1.heap.size); omega)).trans r0)
          have R1 := (HT.out.cell (p := ⟨w.heap.size + 1 + 1, 1, none⟩) tr (by show ¬ (w.heap.size + 1 + 1 = W1.heap.size); omega)).trans ((HTL.out.cell (p := ⟨w.heap.size + 1 + 1, 1, none⟩) zr (by show ¬ (w.heap.size + 1 + 1 = W1.heap.size); omega)).trans r1)
          have R2 := (HT.out.cell (p := ⟨w.heap.size + 1 + 1, 2, none⟩) tr (by show ¬ (w.heap.size + 1 + 1 = W1.heap.size); omega)).trans ((HTL.out.cell (p := ⟨w.heap.size + 1 + 1, 2, none⟩) zr (by show ¬ (w.heap.size + 1 + 1 = W1.heap.size); omega)).trans r2)
          have F0 := (HT.out.frozen (p := ⟨w.heap.size + 1 + 1, 0, none⟩) tr (by show ¬ (w.heap.size + 1 + 1 = W1.heap.size); omega)).trans ((HTL.out.frozen (p := ⟨w.heap.size + 1 + 1, 0, none⟩) zr (by show ¬ (w.heap.size + 1 + 1 = W1.heap.size); omega)).trans fr0)
          have F1 := (HT.out.frozen (p := ⟨w.heap.size + 1 + 1, 1, none⟩) tr (by show ¬ (w.heap.size + 1 + 1 = W1.heap.size); omega)).trans ((HTL.out.frozen (p := ⟨w.heap.size + 1 + 1, 1, none⟩) zr (by show ¬ (w.heap.size + 1 + 1 = W1.heap.size); omega)).trans fr1)
          have F2 := (HT.out.frozen (p := ⟨w.heap.size + 1 + 1, 2, none⟩) tr (by show ¬ (w.heap.size + 1 + 1 = W1.heap.size); omega)).trans ((HTL.out.frozen (p := ⟨w.heap.size + 1 + 1, 2, none⟩) zr (by show ¬ (w.heap.size + 1 + 1 = W1.heap.size); omega)).trans fr2)
          have O0 := (HR.out.1 0 (by decide)).trans p0
          have O1 := (HR.out.1 1 (by decide)).trans HC1.out.1
          have hzr : w.heap.size + 1 + 1 < wr.heap.size := by omega
          go_wp2_with fail
          refine bodyPost_ret (v := .agg #[.int .i64 id, .slice av0 (wantsIn ws lo hi ws.length).length cv0, .slice av (writesIn us lo hi us.length).length cv]) (by simp [results, Try.results129, go_sem, R0, R1, R2]) rfl ?_
          have hW : wr.ownsRow W2.heap.size 101 2 (.slice av0 (wantsIn ws lo hi ws.length).length cv0) (wantsIn ws lo hi ws.length).length ((wantsIn ws lo hi ws.length).flatMap wantCells) := ownsRow_turned HOL.out (fun g hg e => by have := (HOL.out.lt g hg).1; omega) HT.out
          have hap : ∀ b c, (Value.slice av0 (wantsIn ws lo hi ws.length).length cv0).ownBlock = some b → (Value.slice av (writesIn us lo hi us.length).length cv).ownBlock = some c → b ≠ c := by
            intro b c hb hc
            have h1 := HOL.out.lt b hb
            have h2 := HO.out.lt c hc
            omega
          obtain ⟨x1, x2, y1, y2, e1, e2, hat⟩ := txAt_two (lo := w.heap.size + 3) hW HO.out hap (by omega) (by omega)
          cases e1
          cases e2
          exact ⟨_, _, _, _, rfl, (((hat.setT (by omega)).setT (by omega)).setT (by omega)).wide (by omega) (by simp) (Nat.le_refl _), ((HBw.out.setCell (p := ⟨w.heap.size + 1 + 1, 0, none⟩) (by simp; omega) _).setCell (p := ⟨w.heap.size + 1 + 1, 1, none⟩) (by simp; omega) _).setCell (p := ⟨w.heap.size + 1 + 1, 2, none⟩) (by simp; omega) _⟩

set_option maxRecDepth 100000 in
set_option maxHeartbeats 2000000 in
theorem specTxnCut_any (id : Int) (a1 a2 : Option Addr) (ws : List WantD) (us : List WriteD) (k1 k2 : Nat) (lo hi : ByteArray) (w : World) (hv : WantsIn w a1 ws) (hu : WritesIn w a2 us) (hf : ∀ v ∈ ws, v.fits) (hg : ∀ v ∈ us, v.fits) (hn : ws.length ≤ 1048576) (hm : us.length ≤ 1048576) (hlo : lo.size ≤ maxLen) (hhi : hi.size ≤ maxLen) :
    Calls Try.prog 49 #[.agg #[.int .i64 id, .slice a1 ws.length k1, .slice a2 us.length k2], .agg #[.string lo, .string hi]] w (TxnCutPost id ws us lo hi w) := by
  have HV := Lib.hid hv
  have HU := Lib.hid hu
  have HF := Lib.hid hf
  have HG := Lib.hid hg
  clear hv hu hf hg
  obtain ⟨W1, hW1⟩ : ∃ W1, ((w.alloc (.cells #[.int .i64 id, .slice a1 ws.length k1, .slice a2 us.length k2] 53)).alloc (.cells #[.string lo, .string hi] 88)).alloc (.cells #[.int .i64 0, .slice none 0 0, .slice none 0 0] 53) = W1 := ⟨_, rfl⟩
  have HB : Below w.heap.size w W1 := by rw [← hW1]; exact (((Below.refl _ _).alloc (Nat.le_refl _) _).alloc (by simp) _).alloc (by simp; omega) _
  have zc : w.heap.size < W1.heap.size := by rw [← hW1]; simp <;> omega
  have c0 : W1.cell? ⟨w.heap.size, 0, none⟩ = some (.int .i64 id) := by rw [← hW1]; simp [go_sem]
  have c1 : W1.cell? ⟨w.heap.size, 1, none⟩ = some (.slice a1 ws.length k1) := by rw [← hW1]; simp [go_sem]
  have c2 : W1.cell? ⟨w.heap.size, 2, none⟩ = some (.slice a2 us.length k2) := by rw [← hW1]; simp [go_sem]
  have zs : w.heap.size + 1 < W1.heap.size := by rw [← hW1]; simp <;> omega
  have s0 : W1.cell? ⟨w.heap.size + 1, 0, none⟩ = some (.string lo) := by rw [← hW1]; simp [go_sem]
  have s1 : W1.cell? ⟨w.heap.size + 1, 1, none⟩ = some (.string hi) := by rw [← hW1]; simp [go_sem]
  have zr : w.heap.size + 1 + 1 < W1.heap.size := by rw [← hW1]; simp
  have r0 : W1.cell? ⟨w.heap.size + 1 + 1, 0, none⟩ = some (.int .i64 0) := by rw [← hW1]; simp [go_sem]
  have r1 : W1.cell? ⟨w.heap.size + 1 + 1, 1, none⟩ = some (.slice none 0 0) := by rw [← hW1]; simp [go_sem]
  have r2 : W1.cell? ⟨w.heap.size + 1 + 1, 2, none⟩ = some (.slice none 0 0) := by rw [← hW1]; simp [go_sem]
  have fr0 : W1.frozen? ⟨w.heap.size + 1 + 1, 0, none⟩ = false := by rw [← hW1]; simp [go_sem]
  have fr1 : W1.frozen? ⟨w.heap.size + 1 + 1, 1, none⟩ = false := by rw [← hW1]; simp [go_sem]
  have fr2 : W1.frozen? ⟨w.heap.size + 1 + 1, 2, none⟩ = false := by rw [← hW1]; simp [go_sem]
  have HB := Lib.hid HB
  go_enter Try.func49, Try.ntmps49
  go_wp2_with fail
  clear hW1
  refine (l4TxnOk_any id a1 a2 ws us k1 k2 _ (HV.out.below HB.out) (HU.out.below HB.out) HF.out HG.out hn hm).mono ?_
  rintro e w2 ⟨b, rfl, hk, hb⟩
  have c0 := (hb.cell (p := ⟨w.heap.size, 0, none⟩) zc).trans c0
  have c1 := (hb.cell (p := ⟨w.heap.size, 1, none⟩) zc).trans c1
  have c2 := (hb.cell (p := ⟨w.heap.size, 2, none⟩) zc).trans c2
  have s0 := (hb.cell (p := ⟨w.heap.size + 1, 0, none⟩) zs).trans s0
  have s1 := (hb.cell (p := ⟨w.heap.size + 1, 1, none⟩) zs).trans s1
  have r0 := (hb.cell (p := ⟨w.heap.size + 1 + 1, 0, none⟩) zr).trans r0
  have r1 := (hb.cell (p := ⟨w.heap.size + 1 + 1, 1, none⟩) zr).trans r1
  have r2 := (hb.cell (p := ⟨w.heap.size + 1 + 1, 2, none⟩) zr).trans r2
  have fr0 := (hb.frozen (p := ⟨w.heap.size + 1 + 1, 0, none⟩) zr).trans fr0
  have fr1 := (hb.frozen (p := ⟨w.heap.size + 1 + 1, 1, none⟩) zr).trans fr1
  have fr2 := (hb.frozen (p := ⟨w.heap.size + 1 + 1, 2, none⟩) zr).trans fr2
  have zc : w.heap.size < w2.heap.size := Nat.lt_of_lt_of_le zc hb.size
  have zs : w.heap.size + 1 < w2.heap.size := Nat.lt_of_lt_of_le zs hb.size
  have zr : w.heap.size + 1 + 1 < w2.heap.size := Nat.lt_of_lt_of_le zr hb.size
  have HB := Lib.hid (show Below w.heap.size w w2 by first | (with_reducible exact HB.out.trans (hb.mono HB.out.size)) | (with_reducible exact HB.out.drew.trans (hb.mono HB.out.drew.size)))
  have HK := Lib.hid hk
  clear hb hk
  cases b
  · go_wp2_with fail
    refine bodyPost_ret (v := .agg #[.int .i64 0, .slice none 0 0, .slice none 0 0]) (by simp [results, Try.results49, go_sem, r0, r1, r2]) rfl ?_
    exact ⟨0, [], [], .inl ⟨fun h => by simpa using HK.out.2 h.1, rfl, rfl, rfl⟩, none, none, 0, 0, rfl, txAt_none _ _, ((HB.out.setCell (p := ⟨w.heap.size + 1 + 1, 0, none⟩) (by simp; omega) _).setCell (p := ⟨w.heap.size + 1 + 1, 1, none⟩) (by simp; omega) _).setCell (p := ⟨w.heap.size + 1 + 1, 2, none⟩) (by simp; omega) _⟩
  cases hS : spanOkB lo hi
  · go_wp2_with (go_at_call 128; refine (l1SpanOk_is hS hlo hhi _).mono ?_; rintro e w3 ⟨rfl, hb⟩; have c0 := (hb.cell (p := ⟨w.heap.size, 0, none⟩) zc).trans c0; have c1 := (hb.cell (p := ⟨w.heap.size, 1, none⟩) zc).trans c1; have c2 := (hb.cell (p := ⟨w.heap.size, 2, none⟩) zc).trans c2; have s0 := (hb.cell (p := ⟨w.heap.size + 1, 0, none⟩) zs).trans s0; have s1 := (hb.cell (p := ⟨w.heap.size + 1, 1, none⟩) zs).trans s1; have r0 := (hb.cell (p := ⟨w.heap.size + 1 + 1, 0, none⟩) zr).trans r0; have r1 := (hb.cell (p := ⟨w.heap.size + 1 + 1, 1, none⟩) zr).trans r1; have r2 := (hb.cell (p := ⟨w.heap.size + 1 + 1, 2, none⟩) zr).trans r2; have fr0 := (hb.frozen (p := ⟨w.heap.size + 1 + 1, 0, none⟩) zr).trans fr0; have fr1 := (hb.frozen (p := ⟨w.heap.size + 1 + 1, 1, none⟩) zr).trans fr1; have fr2 := (hb.frozen (p := ⟨w.heap.size + 1 + 1, 2, none⟩) zr).trans fr2; have zc : w.heap.size < w3.heap.size := Nat.lt_of_lt_of_le zc hb.size; have zs : w.heap.size + 1 < w3.heap.size := Nat.lt_of_lt_of_le zs hb.size; have zr : w.heap.size + 1 + 1 < w3.heap.size := Nat.lt_of_lt_of_le zr hb.size; have HB := Lib.hid (show Below w.heap.size w w3 by first | (with_reducible exact HB.out.trans (hb.mono HB.out.size)) | (with_reducible exact HB.out.drew.trans (hb.mono HB.out.drew.size))); clear hb)
    refine bodyPost_ret (v := .agg #[.int .i64 0, .slice none 0 0, .slice none 0 0]) (by simp [results, Try.results49, go_sem, r0, r1, r2]) rfl ?_
    exact ⟨0, [], [], .inl ⟨(fun h => by rw [h.2] at hS; cases hS), rfl, rfl, rfl⟩, none, none, 0, 0, rfl, txAt_none _ _, ((HB.out.setCell (p := ⟨w.heap.size + 1 + 1, 0, none⟩) (by simp; omega) _).setCell (p := ⟨w.heap.size + 1 + 1, 1, none⟩) (by simp; omega) _).setCell (p := ⟨w.heap.size + 1 + 1, 2, none⟩) (by simp; omega) _⟩
  · go_wp2_with (go_at_call 128; refine (l1SpanOk_is hS hlo hhi _).mono ?_; rintro e w3 ⟨rfl, hb⟩; have c0 := (hb.cell (p := ⟨w.heap.size, 0, none⟩) zc).trans c0; have c1 := (hb.cell (p := ⟨w.heap.size, 1, none⟩) zc).trans c1; have c2 := (hb.cell (p := ⟨w.heap.size, 2, none⟩) zc).trans c2; have s0 := (hb.cell (p := ⟨w.heap.size + 1, 0, none⟩) zs).trans s0; have s1 := (hb.cell (p := ⟨w.heap.size + 1, 1, none⟩) zs).trans s1; have r0 := (hb.cell (p := ⟨w.heap.size + 1 + 1, 0, none⟩) zr).trans r0; have r1 := (hb.cell (p := ⟨w.heap.size + 1 + 1, 1, none⟩) zr).trans r1; have r2 := (hb.cell (p := ⟨w.heap.size + 1 + 1, 2, none⟩) zr).trans r2; have fr0 := (hb.frozen (p := ⟨w.heap.size + 1 + 1, 0, none⟩) zr).trans fr0; have fr1 := (hb.frozen (p := ⟨w.heap.size + 1 + 1, 1, none⟩) zr).trans fr1; have fr2 := (hb.frozen (p := ⟨w.heap.size + 1 + 1, 2, none⟩) zr).trans fr2; have zc : w.heap.size < w3.heap.size := Nat.lt_of_lt_of_le zc hb.size; have zs : w.heap.size + 1 < w3.heap.size := Nat.lt_of_lt_of_le zs hb.size; have zr : w.heap.size + 1 + 1 < w3.heap.size := Nat.lt_of_lt_of_le zr hb.size; have HB := Lib.hid (show Below w.heap.size w w3 by first | (with_reducible exact HB.out.trans (hb.mono HB.out.size)) | (with_reducible exact HB.out.drew.trans (hb.mono HB.out.drew.size))); clear hb)
    refine (l4Cut_any id a1 a2 ws us k1 k2 lo hi _ (HV.out.below HB.out) (HU.out.below HB.out) hn hm).mono ?_
    rintro e w4 ⟨b1, b2, d1, d2, rfl, hat, hb⟩
    have c0 := (hb.cell (p := ⟨w.heap.size, 0, none⟩) zc).trans c0
    have c1 := (hb.cell (p := ⟨w.heap.size, 1, none⟩) zc).trans c1
    have c2 := (hb.cell (p := ⟨w.heap.size, 2, none⟩) zc).trans c2
    have s0 := (hb.cell (p := ⟨w.heap.size + 1, 0, none⟩) zs).trans s0
    have s1 := (hb.cell (p := ⟨w.heap.size + 1, 1, none⟩) zs).trans s1
    have r0 := (hb.cell (p := ⟨w.heap.size + 1 + 1, 0, none⟩) zr).trans r0
    have r1 := (hb.cell (p := ⟨w.heap.size + 1 + 1, 1, none⟩) zr).trans r1
    have r2 := (hb.cell (p := ⟨w.heap.size + 1 + 1, 2, none⟩) zr).trans r2
    have fr0 := (hb.frozen (p := ⟨w.heap.size + 1 + 1, 0, none⟩) zr).trans fr0
    have fr1 := (hb.frozen (p := ⟨w.heap.size + 1 + 1, 1, none⟩) zr).trans fr1
    have fr2 := (hb.frozen (p := ⟨w.heap.size + 1 + 1, 2, none⟩) zr).trans fr2
    have zc : w.heap.size < w4.heap.size := Nat.lt_of_lt_of_le zc hb.size
    have zs : w.heap.size + 1 < w4.heap.size := Nat.lt_of_lt_of_le zs hb.size
    have zr : w.heap.size + 1 + 1 < w4.heap.size := Nat.lt_of_lt_of_le zr hb.size
    have HB := Lib.hid (show Below w.heap.size w w4 by first | (with_reducible exact HB.out.trans (hb.mono HB.out.size)) | (with_reducible exact HB.out.drew.trans (hb.mono HB.out.drew.size)))
    have z3 := hb.size
    have X := Lib.hid hat
    clear hb hat
    go_wp2_with fail
    refine bodyPost_ret (v := .agg #[.int .i64 id, .slice b1 (wantsIn ws lo hi ws.length).length d1, .slice b2 (writesIn us lo hi us.length).length d2]) (by simp [results, Try.results49, go_sem, r0, r1, r2]) rfl ?_
    exact ⟨id, _, _, .inr ⟨⟨HK.out.1 (by simp), hS⟩, rfl, rfl, rfl⟩, b1, b2, d1, d2, rfl, (((X.out.setT (by omega)).setT (by omega)).setT (by omega)).wide (by omega) (by simp) (Nat.le_refl _), ((HB.out.setCell (p := ⟨w.heap.size + 1 + 1, 0, none⟩) (by simp; omega) _).setCell (p := ⟨w.heap.size + 1 + 1, 1, none⟩) (by simp; omega) _).setCell (p := ⟨w.heap.size + 1 + 1, 2, none⟩) (by simp; omega) _⟩
end Go.Proofs.Ytncipibjlpfkhaa
