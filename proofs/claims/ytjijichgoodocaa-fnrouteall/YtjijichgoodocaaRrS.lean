/- Whether what is known is right by a map of parts, as the model tells it. -/
import Derived.Test.YtjijichgoodocaaRrI
namespace Go.Proofs.Ytjijichgoodocaa
open Go.RowKit

theorem spanNew (w : World) : (w.alloc (.cells #[.string ⟨#[]⟩, .string ⟨#[]⟩] 47)).cell? ⟨w.heap.size, 0, none⟩ = some (.string ⟨#[]⟩) ∧ (w.alloc (.cells #[.string ⟨#[]⟩, .string ⟨#[]⟩] 47)).cell? ⟨w.heap.size, 1, none⟩ = some (.string ⟨#[]⟩) ∧ (w.alloc (.cells #[.string ⟨#[]⟩, .string ⟨#[]⟩] 47)).frozen? ⟨w.heap.size, 0, none⟩ = false ∧ (w.alloc (.cells #[.string ⟨#[]⟩, .string ⟨#[]⟩] 47)).frozen? ⟨w.heap.size, 1, none⟩ = false ∧ w.heap.size < (w.alloc (.cells #[.string ⟨#[]⟩, .string ⟨#[]⟩] 47)).heap.size := by
  refine ⟨?_, ?_, ?_, ?_, ?_⟩ <;> simp [go_sem]
theorem below_bothD {B : Nat} {u v : World} (h : Below B u.drew v) : Below B u v := (Below.refl B u).drew.trans h
theorem below_bothV {u V v : World} (h0 : Below u.heap.size u V) (h : Below V.heap.size V.drew v) : Below u.heap.size u v := h0.drew.trans (h.mono h0.size)
theorem below_bothA {B : Nat} {u v : World} {o : Obj} (h : Below (u.alloc o).heap.size (u.alloc o) v) (hs : B ≤ u.heap.size) : Below B u v := ((Below.refl B u).alloc hs o).trans (h.mono (by simp; omega))
theorem rows_alloc {u : World} {o : Obj} {a : Option Addr} {vs : List RowD} (h : RowsIn u a vs) : RowsIn (u.alloc o) a vs := h.below ((Below.refl _ _).alloc (Nat.le_refl _) _)
theorem rows_allocD {u : World} {o : Obj} {a : Option Addr} {vs : List RowD} (h : RowsIn u.drew a vs) : RowsIn (u.alloc o).drew a vs := rows_alloc (u := u) h

set_option maxRecDepth 100000 in
set_option maxHeartbeats 8000000 in
theorem specRouteRight_any (a : Option Addr) (ks : List KnownD) (cap : Nat) (ep : Int) (am : Option Addr) (vs : List RowD) (cm : Nat) (w : World) (hk : KnownsIn w a ks) (hkf : ∀ v ∈ ks, v.fits) (hkn : ks.length ≤ maxLen) (hv : RowsIn w am vs) (hf : ∀ v ∈ vs, v.fits) (hn : vs.length ≤ 1048576) :
    Calls Try.prog 62 #[.slice a ks.length cap, .agg #[.int .i64 ep, .slice am vs.length cm]] w (BoolPost (RightP ks ep vs) w) := by
  have HK := Lib.hid hk
  have HKF := Lib.hid hkf
  have HKN := Lib.hid hkn
  unfold maxLen at hkn
  have HV := Lib.hid hv
  have HF := Lib.hid hf
  have hn2 : vs.length ≤ maxLen := by unfold maxLen; omega
  have HN2 := Lib.hid hn2
  clear hk hkf hv hf hn2
  obtain ⟨W0, hW0⟩ : ∃ W0, w.alloc (.cells #[.int .i64 ep, .slice am vs.length cm] 90) = W0 := ⟨_, rfl⟩
  have B0 : Below w.heap.size w W0 := by rw [← hW0]; exact (Below.refl _ _).alloc (Nat.le_refl _) _
  have s0 : w.heap.size < W0.heap.size := by rw [← hW0]; simp
  have x0 : W0.cell? ⟨w.heap.size, 0, none⟩ = some (.int .i64 ep) := by rw [← hW0]; simp [go_sem]
  have x1 : W0.cell? ⟨w.heap.size, 1, none⟩ = some (.slice am vs.length cm) := by rw [← hW0]; simp [go_sem]
  have HB0 := Lib.hid B0
  clear B0
  go_enter Try.func62, Try.ntmps62
  go_wp2_with fail
  clear hW0
  refine (l12Ok_any a ks cap _ (HK.out.below HB0.out) HKF.out HKN.out).mono ?_
  rintro e w1 ⟨b, rfl, hb, hb1⟩
  have HI := Lib.hid hb
  replace x0 := (hb1.cell (p := ⟨w.heap.size, 0, none⟩) s0).trans x0
  replace x1 := (hb1.cell (p := ⟨w.heap.size, 1, none⟩) s0).trans x1
  replace s0 : w.heap.size < w1.heap.size := Nat.lt_of_lt_of_le s0 hb1.size
  have HB1 := Lib.hid (HB0.out.trans (hb1.mono HB0.out.size))
  clear hb hb1
  cases b
  · go_wp2_with fail
    go_ret
    exact BoolPost.no (fun h => absurd (HI.out.2 h.1) (by decide)) HB1.out
  have HRK := Lib.hid (HI.out.1 (by simp))
  go_wp2_with fail
  refine (l5Ok_any ep am vs cm _ (HV.out.below HB1.out) HF.out HN2.out).mono ?_
  rintro e w2 ⟨b, rfl, hb, hb2⟩
  have HI2 := Lib.hid hb
  replace x0 := (hb2.cell (p := ⟨w.heap.size, 0, none⟩) s0).trans x0
  replace x1 := (hb2.cell (p := ⟨w.heap.size, 1, none⟩) s0).trans x1
  replace s0 : w.heap.size < w2.heap.size := Nat.lt_of_lt_of_le s0 hb2.size
  have HB2 := Lib.hid (HB1.out.trans (hb2.mono HB1.out.size))
  clear hb hb2
  cases b
  · go_wp2_with fail
    go_ret
    exact BoolPost.no (fun h => absurd (HI2.out.2 h.2.1) (by decide)) HB2.out
  have HPM := Lib.hid (HI2.out.1 (by simp))
  clear HI HI2
  go_wp2_with fail
  go_loopw [5] (fun i wr => ∃ k : Nat, k ≤ ks.length ∧ i = .int .i64 k ∧ Below w2.heap.size w2 wr ∧ RowsRight ks vs k) (fun i _ => ks.length - (intOf i).toNat)
  case atStart => exact ⟨0, Nat.zero_le _, rfl, Below.refl _ _, RowsRight.zero _ _⟩
  case round =>
    obtain ⟨k, hkl, rfl, hB, hM⟩ := hrel
    obtain ⟨wo, rfl⟩ : ∃ V, V = wr := ⟨_, rfl⟩
    have y0 := (hB.cell (p := ⟨w.heap.size, 0, none⟩) s0).trans x0
    have y1 := (hB.cell (p := ⟨w.heap.size, 1, none⟩) s0).trans x1
    have so : w.heap.size < wo.heap.size := Nat.lt_of_lt_of_le s0 hB.size
    have HW := Lib.hid (HB2.out.trans (hB.mono HB2.out.size))
    have HW2 := Lib.hid hB
    have HM := Lib.hid hM
    clear hB hM
    by_cases hlt : k < ks.length
    case neg =>
      obtain rfl : k = ks.length := by omega
      go_wp2_with fail
      go_ret
      exact BoolPost.yes ⟨HRK.out, HPM.out, HM.out⟩ HW.out
    rcases HK.out.below HW.out with hnil | ⟨b1, o1, rfl, hb1, hc1⟩
    · rw [hnil] at hlt; simp at hlt
    obtain ⟨c0, c1, c2, c3⟩ := hc1 k hlt
    clear hc1 c3
    obtain ⟨hs0, hs1⟩ := HKF.out _ (List.getElem_mem hlt)
    go_wp2_with fail
    go_loopw [6] (fun i wr => ∃ j : Nat, j ≤ vs.length ∧ i = .int .i64 j ∧ Below wo.heap.size wo wr ∧ (∀ j', j' < j → PairOkR ks vs k j')) (fun i _ => vs.length - (intOf i).toNat)
    case atStart => exact ⟨0, Nat.zero_le _, rfl, Below.refl _ _, fun j' h => absurd h (by omega)⟩
    case round =>
      obtain ⟨j, hjl, rfl, hB, hMj⟩ := hrel
      have HMj := Lib.hid hMj
      have z0 := (hB.cell (p := ⟨w.heap.size, 0, none⟩) so).trans y0
      have z1 := (hB.cell (p := ⟨w.heap.size, 1, none⟩) so).trans y1
      have d0 := (hB.cell (p := ⟨b1, o1 + k * 4, none⟩) hb1).trans c0
      have d1 := (hB.cell (p := ⟨b1, o1 + k * 4 + 1, none⟩) hb1).trans c1
      have d2 := (hB.cell (p := ⟨b1, o1 + k * 4 + 2, none⟩) hb1).trans c2
      have sr : w.heap.size < wr.heap.size := Nat.lt_of_lt_of_le so hB.size
      have sb : b1 < wr.heap.size := Nat.lt_of_lt_of_le hb1 hB.size
      have HWr := Lib.hid hB
      have HX := Lib.hid (HW.out.trans (hB.mono HW.out.size))
      clear hB hMj
      by_cases hjt : j < vs.length
      case neg =>
        obtain rfl : j = vs.length := by omega
        go_wp2_with fail
        go_roundw
        case rel => exact ⟨k + 1, by omega, by go_num, HW2.out.trans (HWr.out.mono HW2.out.size), HM.out.succ HMj.out⟩
        case measure => simp [intOf]; omega
      rcases HV.out.below HX.out with hnil | ⟨b2, o2, rfl, hb2, hc2⟩
      · rw [hnil] at hjt; simp at hjt
      have e1 := (hc2 j hjt).2
      have HR := Lib.hid (show RowsIn wr.drew (some ⟨b2, o2, none⟩) vs from .inr ⟨b2, o2, rfl, hb2, hc2⟩)
      clear hc2
      obtain ⟨ht0, ht1⟩ := kRow_fits (ep := ep) HF.out hjt
      have hnode := nodeOf_lt hjt
      have i1 : (0 : Int) ≤ (k : Int) := by omega
      have i2 : (k : Int) < (ks.length : Int) := by omega
      have i3 : (0 : Int) ≤ (j : Int) := by omega
      have i4 : (j : Int) < (vs.length : Int) := by omega
      obtain ⟨V, hV⟩ : ∃ V, wr.alloc (.cells #[.string ⟨#[]⟩, .string ⟨#[]⟩] 47) = V := ⟨_, rfl⟩
      have hb0 : Below wr.heap.size wr V := by rw [← hV]; exact (Below.refl _ _).alloc (Nat.le_refl _) _
      have n0 : V.cell? ⟨wr.heap.size, 0, none⟩ = some (.string ⟨#[]⟩) := by rw [← hV]; simp [go_sem]
      have n1 : V.cell? ⟨wr.heap.size, 1, none⟩ = some (.string ⟨#[]⟩) := by rw [← hV]; simp [go_sem]
      have m0 : V.frozen? ⟨wr.heap.size, 0, none⟩ = false := by rw [← hV]; simp [go_sem]
      have m1 : V.frozen? ⟨wr.heap.size, 1, none⟩ = false := by rw [← hV]; simp [go_sem]
      have v0 := (hb0.cell (p := ⟨w.heap.size, 0, none⟩) sr).trans z0
      have v1 := (hb0.cell (p := ⟨w.heap.size, 1, none⟩) sr).trans z1
      have v2 := (hb0.cell (p := ⟨b1, o1 + k * 4, none⟩) sb).trans d0
      have v3 := (hb0.cell (p := ⟨b1, o1 + k * 4 + 1, none⟩) sb).trans d1
      have srV := Nat.lt_of_lt_of_le sr hb0.size
      have sbV := Nat.lt_of_lt_of_le sb hb0.size
      have sn : wr.heap.size < V.heap.size := by rw [← hV]; simp
      have HRV := Lib.hid (show RowsIn V.drew (some ⟨b2, o2, none⟩) vs from by rw [← hV]; exact rows_alloc HR.out)
      go_upto_region 9 with fail
      go_cut [7, 8] from 30 to 41 (fun s7 s8 u => s8 = .bool (meetB ks[k].f0 ks[k].f1 (loOf vs j) (hiOf vs j)) ∧ Below wr.heap.size wr u)
      case first =>
        go_region_with (first
          | (go_at_call 123; (with_reducible refine (l5Span_any ep (some ⟨b2, o2, none⟩) vs cm j _ HR.out hjt hn).mono ?_); rintro e wC ⟨rfl, hb⟩; have z0' := (hb.cell (p := ⟨w.heap.size, 0, none⟩) sr).trans z0; have z1' := (hb.cell (p := ⟨w.heap.size, 1, none⟩) sr).trans z1; have d0' := (hb.cell (p := ⟨b1, o1 + k * 4, none⟩) sb).trans d0; have d1' := (hb.cell (p := ⟨b1, o1 + k * 4 + 1, none⟩) sb).trans d1; have sbC := Nat.lt_of_lt_of_le sb hb.size; have srC := Nat.lt_of_lt_of_le sr hb.size; have X1 := Lib.hid hb; clear hb)
          | (go_at_call 123; refine (l5Span_any ep (some ⟨b2, o2, none⟩) vs cm j _ HRV.out hjt hn).mono ?_; rintro e wC ⟨rfl, hb⟩; have z0' := (hb.cell (p := ⟨w.heap.size, 0, none⟩) srV).trans v0; have z1' := (hb.cell (p := ⟨w.heap.size, 1, none⟩) srV).trans v1; have d0' := (hb.cell (p := ⟨b1, o1 + k * 4, none⟩) sbV).trans v2; have d1' := (hb.cell (p := ⟨b1, o1 + k * 4 + 1, none⟩) sbV).trans v3; have n0' := (hb.cell (p := ⟨wr.heap.size, 0, none⟩) sn).trans n0; have n1' := (hb.cell (p := ⟨wr.heap.size, 1, none⟩) sn).trans n1; have m0' := (hb.frozen (p := ⟨wr.heap.size, 0, none⟩) sn).trans m0; have m1' := (hb.frozen (p := ⟨wr.heap.size, 1, none⟩) sn).trans m1; have sn' := Nat.lt_of_lt_of_le sn hb.size; have X1 := Lib.hid hb; clear hb)
          | (go_at_call 126; (with_reducible refine (specSpanMeet_any ks[k].f0 ks[k].f1 (loOf vs j) (hiOf vs j) (wC.alloc (.cells #[.string ⟨#[]⟩, .string ⟨#[]⟩] 47)) hs0 hs1 ht0 ht1).mono ?_); rintro e wD ⟨rfl, hb⟩; obtain ⟨r0, r1, t0, t1, sC⟩ := spanNew wC; have r0 := (hb.cell (p := ⟨wC.heap.size, 0, none⟩) sC).trans r0; have r1 := (hb.cell (p := ⟨wC.heap.size, 1, none⟩) sC).trans r1; have t0 := (hb.frozen (p := ⟨wC.heap.size, 0, none⟩) sC).trans t0; have t1 := (hb.frozen (p := ⟨wC.heap.size, 1, none⟩) sC).trans t1; have X2 := Lib.hid hb; clear hb)
          | (go_at_call 126; have n0'' := n0'; clear n0''; (with_reducible refine (specSpanMeet_any ks[k].f0 ks[k].f1 (loOf vs j) (hiOf vs j) _ hs0 hs1 ht0 ht1).mono ?_); rintro e wD ⟨rfl, hb⟩; have n0'' := (hb.cell (p := ⟨wr.heap.size, 0, none⟩) sn').trans n0'; have n1'' := (hb.cell (p := ⟨wr.heap.size, 1, none⟩) sn').trans n1'; have m0'' := (hb.frozen (p := ⟨wr.heap.size, 0, none⟩) sn').trans m0'; have m1'' := (hb.frozen (p := ⟨wr.heap.size, 1, none⟩) sn').trans m1'; have X2 := Lib.hid hb; clear hb)
          | (go_at_call 126; (with_reducible refine (specSpanMeet_any ks[k].f0 ks[k].f1 (loOf vs j) (hiOf vs j) _ hs0 hs1 ht0 ht1).mono ?_); rintro e wD ⟨rfl, hb⟩; have X2 := Lib.hid hb; clear hb))
        all_goals
          have BC : Below wr.heap.size wr wC := by first | exact below_bothD X1.out | exact below_bothV hb0 X1.out
          have BD : Below wr.heap.size wr wD := by first | exact BC.trans (X2.out.mono BC.size) | exact BC.trans (below_bothA (X2.out) BC.size)
          first
            | (obtain ⟨F, hF⟩ : ∃ F, wD.alloc (.cells #[.string (mLo ks[k].f0 ks[k].f1 (loOf vs j) (hiOf vs j)), .string (mHi ks[k].f0 ks[k].f1 (loOf vs j) (hiOf vs j))] 47) = F := ⟨_, rfl⟩; rw [hF]; have Z : Below wr.heap.size wr F := hF ▸ BD.alloc BD.size _)
            | (obtain ⟨F, hF⟩ : ∃ F, ((wD.setCell ⟨wC.heap.size, 0, none⟩ (.string (mLo ks[k].f0 ks[k].f1 (loOf vs j) (hiOf vs j)))).setCell ⟨wC.heap.size, 1, none⟩ (.string (mHi ks[k].f0 ks[k].f1 (loOf vs j) (hiOf vs j)))) = F := ⟨_, rfl⟩; rw [hF]; have Z : Below wr.heap.size wr F := hF ▸ (BD.setCell BC.size _).setCell BC.size _)
            | (obtain ⟨F, hF⟩ : ∃ F, ((wD.setCell ⟨wr.heap.size, 0, none⟩ (.string (mLo ks[k].f0 ks[k].f1 (loOf vs j) (hiOf vs j)))).setCell ⟨wr.heap.size, 1, none⟩ (.string (mHi ks[k].f0 ks[k].f1 (loOf vs j) (hiOf vs j)))) = F := ⟨_, rfl⟩; rw [hF]; have Z : Below wr.heap.size wr F := hF ▸ (BD.setCell (Nat.le_refl _) _).setCell (Nat.le_refl _) _)
          go_wp2_with fail
          go_meet
          exact ⟨rfl, Z⟩
      case rest =>
        obtain ⟨rfl, Z⟩ := hcut
        clear hb0 HRV hV n0 n1 m0 m1 v0 v1 v2 v3 srV sbV sn
        obtain ⟨F, rfl⟩ : ∃ F, F = wc := ⟨_, rfl⟩
        have z1F := (Z.cell (p := ⟨w.heap.size, 1, none⟩) sr).trans z1
        have d2F := (Z.cell (p := ⟨b1, o1 + k * 4 + 2, none⟩) sb).trans d2
        have e1F := (Z.cell (p := ⟨b2, o2 + j * 2 + 1, none⟩) hb2).trans e1
        have HZ := Lib.hid Z
        clear Z
        cases hMt : meetB ks[k].f0 ks[k].f1 (loOf vs j) (hiOf vs j)
        case' true => by_cases hND : vs[j].f1 = ks[k].f2
        case neg =>
          have hne : (vs[j].f1 == ks[k].f2) = false := by simpa using hND
          go_wp2_with fail
          go_quiet (fail)
          go_wp2_with fail
          go_ret
          exact BoolPost.no (right_no hlt hjt hMt (by rw [hnode]; exact hND)) (below_drewN (HX.out.trans (HZ.out.mono HX.out.size)) _)
        case' pos => have heq : (vs[j].f1 == ks[k].f2) = true := by simpa using hND
        all_goals
          have HP := Lib.hid (show PairOkR ks vs k j from fun _ hm => by first | (rw [hnode]; exact hND) | (rw [hMt] at hm; cases hm))
          go_wp2_with fail
          go_quiet (fail)
          go_wp2_with fail
          go_roundw
          case rel => exact ⟨j + 1, by omega, by go_num, below_drewN (HWr.out.trans (HZ.out.mono HWr.out.size)) _, fun j' hj' => by
            by_cases q : j' = j
            · subst q; exact HP.out
            · exact HMj.out j' (by omega)⟩
          case measure => simp [intOf]; omega
end Go.Proofs.Ytjijichgoodocaa
