/- One more in its place: the model's walk. -/
import Derived.Test.YtjijichgoodocaaRestS
import Derived.Deep.RegionHeld3
namespace Go.Proofs.Ytjijichgoodocaa
open Go.RowKit

theorem tw_split {p : KnownD → Bool} : ∀ {A B : List KnownD}, (∀ u ∈ A, p u = true) → (∀ b, B.head? = some b → p b = false) → (A ++ B).takeWhile p = A ∧ (A ++ B).dropWhile p = B
  | [], [], _, _ => ⟨rfl, rfl⟩
  | [], b :: B, _, h => by
    have := h b rfl
    simp [List.takeWhile, List.dropWhile, this]
  | a :: A, B, g, h => by
    have := g a (by simp)
    have ih := tw_split (A := A) (B := B) (fun u hu => g u (by simp [hu])) h
    simp [List.takeWhile_cons, List.dropWhile_cons, this, ih.1, ih.2]
theorem putS_at {k : KnownD} {us : List KnownD} {n : Nat} (hn : n ≤ us.length) (h : ∀ j (hj : j < us.length), j < n → us[j].f0.toList < k.f0.toList) (he : ∀ hn : n < us.length, ¬ us[n].f0.toList < k.f0.toList) : putS k us = us.take n ++ [k] ++ us.drop n := by
  unfold putS
  obtain ⟨t, d⟩ := tw_split (p := fun u => decide (u.f0.toList < k.f0.toList)) (A := us.take n) (B := us.drop n)
    (fun u hu => by
      obtain ⟨j, hj, rfl⟩ := List.getElem_of_mem hu
      rw [List.length_take] at hj
      rw [List.getElem_take]
      exact decide_eq_true (h j (by omega) (by omega)))
    (fun b hb => by
      rw [List.head?_drop] at hb
      obtain ⟨hl, rfl⟩ := List.getElem?_eq_some_iff.1 hb
      exact decide_eq_false (he hl))
  rw [List.take_append_drop] at t d
  rw [t, d]

set_option maxRecDepth 100000 in
set_option maxHeartbeats 4000000 in
theorem l12Put_any (k : KnownD) (g cap B : Nat) (us : List KnownD) (w : World) (hO : w.ownsRow B 84 4 (.slice (some ⟨g, 0, none⟩) us.length cap) us.length (us.flatMap knownCells)) (hlen : us.length ≤ 1048576) :
    Calls Try.prog 209 #[.slice (some ⟨g, 0, none⟩) us.length cap, .agg #[.string k.f0, .string k.f1, .int .i64 k.f2, .int .i64 k.f3]] w fun e w' => ∃ x, e = .returned x ∧ w'.ownsRow w.heap.size 84 4 x (putS k us).length ((putS k us).flatMap knownCells) ∧ Below w.heap.size w w' := by
  obtain ⟨i0, hi0, hz0, hz1, hz2⟩ := info_parts infoKnown
  obtain ⟨hcap, hcm, -, hg⟩ := own_some hO
  unfold maxLen at hcm
  obtain ⟨a', c', he, hat⟩ := own_knowns hO
  cases he
  have HV := Lib.hid hat.in1
  have HD := Lib.hid (fun (u : World) (hu : Below w.heap.size w u) => ((fun j x hx => by
    have := hO.cellAt j (by
      rcases Nat.lt_or_ge j (us.length * 4) with h | h
      · exact h
      · rw [List.getElem?_eq_none (by rw [knowns_len]; exact h)] at hx; cases hx)
    have e : (⟨g, 0, none⟩ : Addr).add j = ⟨g, j, none⟩ := by cases j <;> simp [Addr.add]
    rw [e, hu.cell (p := ⟨g, j, none⟩) hg, this]; exact hx) : ∀ j x, (us.flatMap knownCells)[j]? = some x → u.cell? ((⟨g, 0, none⟩ : Addr).add j) = some x))
  clear hat hO
  obtain ⟨W0, hW0⟩ : ∃ W0, w.alloc (.cells #[.string k.f0, .string k.f1, .int .i64 k.f2, .int .i64 k.f3] 84) = W0 := ⟨_, rfl⟩
  have B0 : Below w.heap.size w W0 := by rw [← hW0]; exact (Below.refl _ _).alloc (Nat.le_refl _) _
  have s0 : W0.heap.size = w.heap.size + 1 := by rw [← hW0]; simp
  have sx : w.heap.size < W0.heap.size := by omega
  have x0 : W0.cell? ⟨w.heap.size, 0, none⟩ = some (.string k.f0) := by rw [← hW0]; simp [go_sem]
  have x1 : W0.cell? ⟨w.heap.size, 1, none⟩ = some (.string k.f1) := by rw [← hW0]; simp [go_sem]
  have x2 : W0.cell? ⟨w.heap.size, 2, none⟩ = some (.int .i64 k.f2) := by rw [← hW0]; simp [go_sem]
  have x3 : W0.cell? ⟨w.heap.size, 3, none⟩ = some (.int .i64 k.f3) := by rw [← hW0]; simp [go_sem]
  have HB0 := Lib.hid B0
  clear B0
  go_enter Try.func209, Try.ntmps209
  go_wp2_with fail
  clear hW0
  go_loopw [5] (fun i wr => ∃ n : Nat, n ≤ us.length ∧ i = .int .i64 n ∧ Below W0.heap.size W0 wr ∧ (∀ j (hj : j < us.length), j < n → us[j].f0.toList < k.f0.toList)) (fun i _ => us.length - (intOf i).toNat)
  case atStart => exact ⟨0, Nat.zero_le _, rfl, Below.refl _ _, fun j _ h => absurd h (by omega)⟩
  case round =>
    obtain ⟨n, hn, rfl, hB, hM⟩ := hrel
    have z0 := (hB.cell (p := ⟨w.heap.size, 0, none⟩) sx).trans x0
    have HM := Lib.hid hM
    have HWr := Lib.hid hB
    have HX := Lib.hid (HB0.out.trans (hB.mono HB0.out.size))
    clear hB hM
    have hexit : Hid ((∀ h : n < us.length, ¬ us[n].f0.toList < k.f0.toList) → putS k us = us.take n ++ [k] ++ us.drop n) := fun h => putS_at hn HM.out h
    by_cases hlt : n < us.length
    · rcases HV.out.below HX.out with hnil | ⟨b1, o1, e1, hb1, hc1⟩
      · rw [hnil] at hlt; simp at hlt
      cases e1
      obtain ⟨c0, -, -, -⟩ := hc1 n hlt
      rw [Nat.zero_add] at c0
      clear hc1
      cases hz : Op.bytesLess us[n].f0.toList k.f0.toList
      · have HE := Lib.hid (hexit.out fun h g => by rw [(less_iffK _ _).2 g] at hz; cases hz)
        go_wp2_with fail
        go_quiet (fail)
        obtain ⟨U, hU⟩ : ∃ U, wr.drewN nq = U := ⟨_, rfl⟩
        rw [hU]
        have HU : Hid (Below W0.heap.size W0 U) := hU ▸ below_drewN HWr.out nq
        clear hU HWr HX z0
        have HXU := Lib.hid (HB0.out.trans (HU.out.mono HB0.out.size))
        have qU : W0.heap.size ≤ U.heap.size := HU.out.size
        have p1 : n ≤ cap := by omega
        go_upto_region 5 with (at_builtin; refine wpList_append_any rfl _ _ 80 rfl Try.underlying80 W0.heap.size (.slice (some ⟨U.heap.size, 0, none⟩) 0 0) 0 [] rfl (empty_knowns (heap_alloc_new U _) qU) ⟨g, 0, none⟩ n cap ((us.take n).flatMap knownCells) rfl (by rw [knowns_len, List.length_take, Nat.min_eq_left hn]) (take_news hn (HD.out _ (HXU.out.alloc HXU.out.size _))) (knowns_one _) (by omega) (by simp; omega) (by simp) ?_; intro g4 c4 w4 hown hgrow; have X := Lib.hid (And.intro hown hgrow); clear hown hgrow)
        have O4 := X.out.1
        rw [Nat.zero_add, List.nil_append] at O4
        have B4 := Below.grown (HU.out.alloc qU _) X.out.2 (by simp; omega) (fun j hj => by cases hj; exact qU)
        have y0 := (B4.cell (p := ⟨w.heap.size, 0, none⟩) sx).trans x0
        have y1 := (B4.cell (p := ⟨w.heap.size, 1, none⟩) sx).trans x1
        have y2 := (B4.cell (p := ⟨w.heap.size, 2, none⟩) sx).trans x2
        have y3 := (B4.cell (p := ⟨w.heap.size, 3, none⟩) sx).trans x3
        have q4 : W0.heap.size ≤ w4.heap.size := B4.size
        have HO4 := Lib.hid O4
        have HB4 := Lib.hid B4
        clear X O4 B4
        go_upto_region 6 with (at_builtin; refine wpList_append_any rfl _ _ 80 rfl Try.underlying80 W0.heap.size (.slice (some ⟨g4, 0, none⟩) n c4) n _ rfl (HO4.out.alloc _) ⟨w4.heap.size, 0, none⟩ 1 1 (knownCells k) rfl rfl (newsKnown _ k _ _ rfl) (known_one _) (by omega) (by simp; omega) (by simp) ?_; intro g5 c5 w5 hown hgrow; have X := Lib.hid (And.intro hown hgrow); clear hown hgrow)
        have HO5 := Lib.hid X.out.1
        have HB5 := Lib.hid (Below.grown (HB4.out.alloc q4 _) X.out.2 (by simp; omega) (fun j hj => (HO4.out.lt j hj).1))
        have q5 : W0.heap.size ≤ w5.heap.size := HB5.out.size
        have HX5 := Lib.hid (HB0.out.trans (HB5.out.mono HB0.out.size))
        clear X y0 y1 y2 y3
        have e1 : (us.take n ++ [k] ++ us.drop n).length = n + 1 + (us.length - n) := by simp; omega
        have e2 : (us.take n ++ [k] ++ us.drop n).flatMap knownCells = (us.take n).flatMap knownCells ++ knownCells k ++ (us.drop n).flatMap knownCells := by simp [List.flatMap_append]
        have HE1 := Lib.hid e1
        have HE2 := Lib.hid e2
        clear e1 e2
        by_cases hend : n < us.length
        · have p2 : ¬ cap = n := by omega
          go_wp2_with (at_builtin; refine wpList_append_any rfl _ _ 80 rfl Try.underlying80 W0.heap.size (.slice (some ⟨g5, 0, none⟩) (n + 1) c5) (n + 1) _ rfl HO5.out ⟨g, n * 4, none⟩ (us.length - n) (cap - n) ((us.drop n).flatMap knownCells) rfl (by rw [knowns_len, List.length_drop]) (by have := drop_news hn (HD.out _ HX5.out); rwa [Nat.zero_add] at this) (knowns_one _) (by omega) q5 (by simp) ?_; intro g6 c6 w6 hown hgrow; have X := Lib.hid (And.intro hown hgrow); clear hown hgrow)
          go_ret
          rw [HE.out, HE1.out, HE2.out]
          exact ⟨_, rfl, own_lower X.out.1 (by omega), HB0.out.trans ((Below.grown HB5.out X.out.2 q5 (fun j hj => (HO5.out.lt j hj).1)).mono (by omega))⟩
        · have e3 : us.drop n = [] := by rw [List.drop_eq_nil_iff]; omega
          have e4 : us.length - n = 0 := by omega
          have HE3 := Lib.hid e3
          clear e3
          by_cases p2 : cap = n
          all_goals
            go_wp2_with (at_builtin; refine wpList_append_any rfl _ _ 80 rfl Try.underlying80 W0.heap.size (.slice (some ⟨g5, 0, none⟩) (n + 1) c5) (n + 1) _ rfl HO5.out _ 0 _ [] rfl rfl (fun j u h => by simp at h) (by simp) (by omega) q5 (by simp) ?_; intro g6 c6 w6 hown hgrow; have X := Lib.hid (And.intro hown hgrow); clear hown hgrow)
            go_ret
            rw [HE.out, HE1.out, HE2.out, HE3.out, e4]
            exact ⟨_, rfl, own_lower (by simpa using X.out.1) (by omega), HB0.out.trans ((Below.grown HB5.out X.out.2 q5 (fun j hj => (HO5.out.lt j hj).1)).mono (by omega))⟩
      · go_wp2_with fail
        go_quiet (fail)
        go_wp2_with fail
        go_roundw
        case rel => exact ⟨n + 1, by omega, by go_num, below_drewN HWr.out _, fun j hj hjn => by
          by_cases q : j = n
          · subst q; exact (less_iffK _ _).1 hz
          · exact HM.out j hj (by omega)⟩
        case measure => simp [intOf]; omega
    · have HE := Lib.hid (hexit.out fun h => absurd h hlt)
      go_wp2_with fail
      go_quiet (fail)
      obtain ⟨U, hU⟩ : ∃ U, wr.drewN nq = U := ⟨_, rfl⟩
      rw [hU]
      have HU : Hid (Below W0.heap.size W0 U) := hU ▸ below_drewN HWr.out nq
      clear hU HWr HX z0
      have HXU := Lib.hid (HB0.out.trans (HU.out.mono HB0.out.size))
      have qU : W0.heap.size ≤ U.heap.size := HU.out.size
      have p1 : n ≤ cap := by omega
      go_upto_region 5 with (at_builtin; refine wpList_append_any rfl _ _ 80 rfl Try.underlying80 W0.heap.size (.slice (some ⟨U.heap.size, 0, none⟩) 0 0) 0 [] rfl (empty_knowns (heap_alloc_new U _) qU) ⟨g, 0, none⟩ n cap ((us.take n).flatMap knownCells) rfl (by rw [knowns_len, List.length_take, Nat.min_eq_left hn]) (take_news hn (HD.out _ (HXU.out.alloc HXU.out.size _))) (knowns_one _) (by omega) (by simp; omega) (by simp) ?_; intro g4 c4 w4 hown hgrow; have X := Lib.hid (And.intro hown hgrow); clear hown hgrow)
      have O4 := X.out.1
      rw [Nat.zero_add, List.nil_append] at O4
      have B4 := Below.grown (HU.out.alloc qU _) X.out.2 (by simp; omega) (fun j hj => by cases hj; exact qU)
      have y0 := (B4.cell (p := ⟨w.heap.size, 0, none⟩) sx).trans x0
      have y1 := (B4.cell (p := ⟨w.heap.size, 1, none⟩) sx).trans x1
      have y2 := (B4.cell (p := ⟨w.heap.size, 2, none⟩) sx).trans x2
      have y3 := (B4.cell (p := ⟨w.heap.size, 3, none⟩) sx).trans x3
      have q4 : W0.heap.size ≤ w4.heap.size := B4.size
      have HO4 := Lib.hid O4
      have HB4 := Lib.hid B4
      clear X O4 B4
      go_upto_region 6 with (at_builtin; refine wpList_append_any rfl _ _ 80 rfl Try.underlying80 W0.heap.size (.slice (some ⟨g4, 0, none⟩) n c4) n _ rfl (HO4.out.alloc _) ⟨w4.heap.size, 0, none⟩ 1 1 (knownCells k) rfl rfl (newsKnown _ k _ _ rfl) (known_one _) (by omega) (by simp; omega) (by simp) ?_; intro g5 c5 w5 hown hgrow; have X := Lib.hid (And.intro hown hgrow); clear hown hgrow)
      have HO5 := Lib.hid X.out.1
      have HB5 := Lib.hid (Below.grown (HB4.out.alloc q4 _) X.out.2 (by simp; omega) (fun j hj => (HO4.out.lt j hj).1))
      have q5 : W0.heap.size ≤ w5.heap.size := HB5.out.size
      have HX5 := Lib.hid (HB0.out.trans (HB5.out.mono HB0.out.size))
      clear X y0 y1 y2 y3
      have e1 : (us.take n ++ [k] ++ us.drop n).length = n + 1 + (us.length - n) := by simp; omega
      have e2 : (us.take n ++ [k] ++ us.drop n).flatMap knownCells = (us.take n).flatMap knownCells ++ knownCells k ++ (us.drop n).flatMap knownCells := by simp [List.flatMap_append]
      have HE1 := Lib.hid e1
      have HE2 := Lib.hid e2
      clear e1 e2
      by_cases hend : n < us.length
      · have p2 : ¬ cap = n := by omega
        go_wp2_with (at_builtin; refine wpList_append_any rfl _ _ 80 rfl Try.underlying80 W0.heap.size (.slice (some ⟨g5, 0, none⟩) (n + 1) c5) (n + 1) _ rfl HO5.out ⟨g, n * 4, none⟩ (us.length - n) (cap - n) ((us.drop n).flatMap knownCells) rfl (by rw [knowns_len, List.length_drop]) (by have := drop_news hn (HD.out _ HX5.out); rwa [Nat.zero_add] at this) (knowns_one _) (by omega) q5 (by simp) ?_; intro g6 c6 w6 hown hgrow; have X := Lib.hid (And.intro hown hgrow); clear hown hgrow)
        go_ret
        rw [HE.out, HE1.out, HE2.out]
        exact ⟨_, rfl, own_lower X.out.1 (by omega), HB0.out.trans ((Below.grown HB5.out X.out.2 q5 (fun j hj => (HO5.out.lt j hj).1)).mono (by omega))⟩
      · have e3 : us.drop n = [] := by rw [List.drop_eq_nil_iff]; omega
        have e4 : us.length - n = 0 := by omega
        have HE3 := Lib.hid e3
        clear e3
        by_cases p2 : cap = n
        all_goals
          go_wp2_with (at_builtin; refine wpList_append_any rfl _ _ 80 rfl Try.underlying80 W0.heap.size (.slice (some ⟨g5, 0, none⟩) (n + 1) c5) (n + 1) _ rfl HO5.out _ 0 _ [] rfl rfl (fun j u h => by simp at h) (by simp) (by omega) q5 (by simp) ?_; intro g6 c6 w6 hown hgrow; have X := Lib.hid (And.intro hown hgrow); clear hown hgrow)
          go_ret
          rw [HE.out, HE1.out, HE2.out, HE3.out, e4]
          exact ⟨_, rfl, own_lower (by simpa using X.out.1) (by omega), HB0.out.trans ((Below.grown HB5.out X.out.2 q5 (fun j hj => (HO5.out.lt j hj).1)).mono (by omega))⟩
end Go.Proofs.Ytjijichgoodocaa
