/- When a transaction is ok, as the model says it. -/
import Derived.Test.YthjikcfpoomioaaTxOk
namespace Go.Proofs.Ythjikcfpoomioaa
open Go.RowKit Go.Maps Go.WideMaps

set_option maxRecDepth 100000 in
set_option maxHeartbeats 2000000 in
theorem l4TxnOk_any (id : Int) (a1 a2 : Option Addr) (ws : List WantD) (us : List WriteD) (k1 k2 : Nat) (w : World) (hv : WantsIn w a1 ws) (hu : WritesIn w a2 us) (hf : ∀ v ∈ ws, v.fits) (hg : ∀ v ∈ us, v.fits) (hn : ws.length ≤ 1048576) (hm : us.length ≤ 1048576) :
    Calls Try.prog 120 #[.agg #[.int .i64 id, .slice a1 ws.length k1, .slice a2 us.length k2]] w (BoolPost (TxnOkP id ws us) w) := by
  have HV := Lib.hid hv
  have HU := Lib.hid hu
  have HF := Lib.hid hf
  have HG := Lib.hid hg
  clear hv hu hf hg
  have hb0 : Below w.heap.size w (w.alloc (.cells #[.int .i64 id, .slice a1 ws.length k1, .slice a2 us.length k2] 93)) := (Below.refl _ _).alloc (Nat.le_refl _) _
  have H0 := Lib.hid hb0
  clear hb0
  go_enter Try.func120, Try.ntmps120
  go_wp2_with fail
  go_loopw [3] (fun i wr => ∃ k : Nat, k ≤ us.length ∧ i = .int .i64 (k : Int) ∧ Below (w.heap.size + 1) (w.alloc (.cells #[.int .i64 id, .slice a1 ws.length k1, .slice a2 us.length k2] 93)) wr ∧ LOk writeOkB WriteD.f0 us k) (fun i _ => us.length - (intOf i).toNat)
  case atStart => exact ⟨0, Nat.zero_le _, rfl, Below.refl _ _, LOk.zero _⟩
  case round =>
    obtain ⟨k, hk, rfl, hB, hL⟩ := hrel
    have c0 := hB.cell (p := ⟨w.heap.size, 0, none⟩) (by simp)
    have c1 := hB.cell (p := ⟨w.heap.size, 1, none⟩) (by simp)
    have c2 := hB.cell (p := ⟨w.heap.size, 2, none⟩) (by simp)
    simp [go_sem] at c0 c1 c2
    have s0 : w.heap.size < wr.heap.size := by have := hB.size; simp at this; omega
    have HW := Lib.hid (H0.out.trans (hB.mono (by omega)))
    have HL := Lib.hid hL
    have HB := Lib.hid hB
    clear hL hB
    by_cases hlt : k < us.length
    · rcases HU.out.below HW.out with hnil | ⟨b1, o1, rfl, hb1, hc1⟩
      · rw [hnil] at hlt; simp at hlt
      obtain ⟨d0, d1, d2⟩ := hc1 k hlt
      obtain ⟨hks, hts⟩ := HG.out _ (List.getElem_mem hlt)
      have HC := Lib.hid hc1
      clear hc1
      go_wp2_with fail
      refine (l4WriteOk_any us[k] _ hks hts).mono ?_
      rintro e w2 ⟨rfl, hb2⟩
      have e0 := (hb2.cell (p := ⟨w.heap.size, 0, none⟩) s0).trans c0
      have e1 := (hb2.cell (p := ⟨w.heap.size, 1, none⟩) s0).trans c1
      have e2 := (hb2.cell (p := ⟨w.heap.size, 2, none⟩) s0).trans c2
      have g0 := (hb2.cell (p := ⟨b1, o1 + k * 3, none⟩) hb1).trans d0
      have s2 : w.heap.size < w2.heap.size := Nat.lt_of_lt_of_le s0 hb2.size
      have hb1' : b1 < w2.heap.size := Nat.lt_of_lt_of_le hb1 hb2.size
      have HB2 := Lib.hid hb2
      clear hb2 c0 c1 c2 d0 d1 d2
      cases hV : writeOkB us[k]
      · go_wp2_with fail
        go_ret
        exact BoolPost.no (fun h => LOk.not_valid hlt hV h.2.2.1) (HW.out.trans (HB2.out.mono HW.out.size))
      · go_wp2_with fail
        go_loopw [4] (fun i wr2 => ∃ t : Nat, t ≤ k ∧ i = .int .i64 (t : Int) ∧ Below w2.heap.size w2 wr2 ∧ seenB WriteD.f0 us t us[k].f0 = false) (fun i _ => k - (intOf i).toNat)
        case atStart => exact ⟨0, Nat.zero_le _, rfl, Below.refl _ _, seenB_zero _ _⟩
        case round =>
          obtain ⟨t, ht, rfl, hB3, hS⟩ := hrel
          have x2 := (hB3.cell (p := ⟨w.heap.size, 2, none⟩) s2).trans e2
          have y0 := (hB3.cell (p := ⟨b1, o1 + k * 3, none⟩) hb1').trans g0
          have HS := Lib.hid hS
          have HB3 := Lib.hid hB3
          clear hS
          by_cases hlt2 : t < k
          · have ht' : t < us.length := by omega
            have z0 := (hB3.cell (p := ⟨b1, o1 + t * 3, none⟩) hb1').trans ((HB2.out.cell (p := ⟨b1, o1 + t * 3, none⟩) hb1).trans (HC.out t ht').1)
            clear hB3
            have hwt : IntKind.i64.wrap (t : Int) = (t : Int) := by rw [IntKind.wrap_i64]; omega
            have hwk : IntKind.i64.wrap (k : Int) = (k : Int) := by rw [IntKind.wrap_i64]; omega
            cases hE : (us[t].f0.toList == us[k].f0.toList)
            · go_wp2_with fail
              go_quiet (fail)
              go_wp2_with fail
              go_roundw
              case rel => exact ⟨t + 1, by omega, by go_num, Below.drewN HB3.out _, by rw [seenB_succ ht', HS.out, hE]; rfl⟩
              case measure => simp [intOf]; omega
            · go_wp2_with fail
              go_quiet (fail)
              go_wp2_with fail
              go_ret
              exact BoolPost.no (fun h => by have := (h.2.2.1 k hlt hlt).2 t ht' hlt2; rw [hE] at this; cases this) (Below.drewN ((HW.out.trans (HB2.out.mono HW.out.size)).trans (HB3.out.mono (Nat.le_trans HW.out.size HB2.out.size))) _)
          · obtain rfl : t = k := by omega
            clear hB3
            go_wp2_with fail
            go_roundw
            case rel => exact ⟨t + 1, by omega, by go_num, (HB.out.trans (HB2.out.mono (by omega))).trans (HB3.out.mono (by omega)), HL.out.succ hlt hV HS.out⟩
            case measure => simp [intOf]; omega
    · obtain rfl : k = us.length := by omega
      clear hlt hk
      obtain ⟨V, rfl⟩ : ∃ V, V = wr := ⟨_, rfl⟩
      go_wp2_with fail
      go_loopw [5] (fun i wr => ∃ k : Nat, k ≤ ws.length ∧ i = .int .i64 (k : Int) ∧ Below V.heap.size V wr ∧ LOk wantOkB WantD.f0 ws k) (fun i _ => ws.length - (intOf i).toNat)
      case atStart => exact ⟨0, Nat.zero_le _, rfl, Below.refl _ _, LOk.zero _⟩
      case round =>
        obtain ⟨k, hk, rfl, hB', hL'⟩ := hrel
        have e0 := (hB'.cell (p := ⟨w.heap.size, 0, none⟩) s0).trans c0
        have e1 := (hB'.cell (p := ⟨w.heap.size, 1, none⟩) s0).trans c1
        have e2 := (hB'.cell (p := ⟨w.heap.size, 2, none⟩) s0).trans c2
        have s1 : w.heap.size < wr.heap.size := Nat.lt_of_lt_of_le s0 hB'.size
        have HW2 := Lib.hid (HW.out.trans (hB'.mono HW.out.size))
        have HL2 := Lib.hid hL'
        have HB2 := Lib.hid hB'
        clear hL' hB' c0 c1 c2
        by_cases hlt : k < ws.length
        · rcases HV.out.below HW2.out with hnil | ⟨b1, o1, rfl, hb1, hc1⟩
          · rw [hnil] at hlt; simp at hlt
          obtain ⟨d0, d1⟩ := hc1 k hlt
          have hks : ws[k].f0.size ≤ maxLen := HF.out _ (List.getElem_mem hlt)
          have HC := Lib.hid hc1
          clear hc1
          have hwk : IntKind.i64.wrap (k : Int) = (k : Int) := by rw [IntKind.wrap_i64]; omega
          cases hK : keyOkB ws[k].f0
          · have hV : wantOkB ws[k] = false := by simp [wantOkB, hK]
            go_wp2_with (go_at_call 87; refine (l1Key_is hK hks _).mono ?_; rintro e w2 ⟨rfl, rfl⟩)
            go_ret
            exact BoolPost.no (fun h => LOk.not_valid hlt hV h.2.1) HW2.out
          cases hI : inB ws[k].f1 0 9999
          · have hV : wantOkB ws[k] = false := by simp [wantOkB, hI]
            go_wp2_with (first | (go_at_call 87; refine (l1Key_is hK hks _).mono ?_; rintro e w2 ⟨rfl, rfl⟩) | (go_at_call 144; refine (l1In_is hI _).mono ?_; rintro e w2 ⟨rfl, rfl⟩))
            go_ret
            exact BoolPost.no (fun h => LOk.not_valid hlt hV h.2.1) HW2.out
          · have hV : wantOkB ws[k] = true := by simp [wantOkB, hK, hI]
            go_wp2_with (first | (go_at_call 87; refine (l1Key_is hK hks _).mono ?_; rintro e w2 ⟨rfl, rfl⟩) | (go_at_call 144; refine (l1In_is hI _).mono ?_; rintro e w2 ⟨rfl, rfl⟩))
            obtain ⟨V2, rfl⟩ : ∃ V2, V2 = w2 := ⟨_, rfl⟩
            go_loopw [6] (fun i wr => ∃ t : Nat, t ≤ k ∧ i = .int .i64 (t : Int) ∧ Below V2.heap.size V2 wr ∧ seenB WantD.f0 ws t ws[k].f0 = false) (fun i _ => k - (intOf i).toNat)
            case atStart => exact ⟨0, Nat.zero_le _, rfl, Below.refl _ _, seenB_zero _ _⟩
            case round =>
              obtain ⟨t, ht, rfl, hB3, hS⟩ := hrel
              have x2 := (hB3.cell (p := ⟨w.heap.size, 1, none⟩) s1).trans e1
              have y0 := (hB3.cell (p := ⟨b1, o1 + k * 2, none⟩) hb1).trans d0
              have HS := Lib.hid hS
              have HB3 := Lib.hid hB3
              clear hS
              by_cases hlt2 : t < k
              · have ht' : t < ws.length := by omega
                have z0 := (hB3.cell (p := ⟨b1, o1 + t * 2, none⟩) hb1).trans (HC.out t ht').1
                clear hB3
                have hwt : IntKind.i64.wrap (t : Int) = (t : Int) := by rw [IntKind.wrap_i64]; omega
                cases hE : (ws[t].f0.toList == ws[k].f0.toList)
                · go_wp2_with fail
                  go_quiet (fail)
                  go_wp2_with fail
                  go_roundw
                  case rel => exact ⟨t + 1, by omega, by go_num, Below.drewN HB3.out _, by rw [seenB_succ ht', HS.out, hE]; rfl⟩
                  case measure => simp [intOf]; omega
                · go_wp2_with fail
                  go_quiet (fail)
                  go_wp2_with fail
                  go_ret
                  exact BoolPost.no (fun h => by have := (h.2.1 k hlt hlt).2 t ht' hlt2; rw [hE] at this; cases this) (Below.drewN (HW2.out.trans (HB3.out.mono HW2.out.size)) _)
              · obtain rfl : t = k := by omega
                clear hB3
                go_wp2_with fail
                go_roundw
                case rel => exact ⟨t + 1, by omega, by go_num, HB2.out.trans (HB3.out.mono (by have := HB2.out.size; omega)), HL2.out.succ hlt hV HS.out⟩
                case measure => simp [intOf]; omega
        · obtain rfl : k = ws.length := by omega
          clear hlt hk
          cases hI : inB id 1 60
          · go_wp2_with (go_at_call 144; refine (l1In_is hI _).mono ?_; rintro e w2 ⟨rfl, rfl⟩)
            go_ret
            exact BoolPost.no (fun h => by have := h.1; rw [hI] at this; cases this) HW2.out
          by_cases q1 : us.length ≤ 4
          case neg =>
            have q1' : decide ((us.length : Int) ≤ 4) = false := by simp; omega
            go_wp2_with (go_at_call 144; refine (l1In_is hI _).mono ?_; rintro e w2 ⟨rfl, rfl⟩)
            go_ret
            exact BoolPost.no (fun h => q1 h.2.2.2.1) HW2.out
          by_cases q2 : ws.length ≤ 4
          case neg =>
            have q2' : decide ((ws.length : Int) ≤ 4) = false := by simp; omega
            go_wp2_with (go_at_call 144; refine (l1In_is hI _).mono ?_; rintro e w2 ⟨rfl, rfl⟩)
            go_ret
            exact BoolPost.no (fun h => q2 h.2.2.2.2.1) HW2.out
          by_cases q3 : 0 < us.length + ws.length
          case neg =>
            have q3' : decide (0 < (us.length : Int) + (ws.length : Int)) = false := by simp; omega
            go_wp2_with (go_at_call 144; refine (l1In_is hI _).mono ?_; rintro e w2 ⟨rfl, rfl⟩)
            go_ret
            exact BoolPost.no (fun h => q3 h.2.2.2.2.2) HW2.out
          have q3' : 0 < (us.length : Int) + (ws.length : Int) := by omega
          have Q3 := Lib.hid q3
          clear q3
          go_wp2_with (go_at_call 144; refine (l1In_is hI _).mono ?_; rintro e w2 ⟨rfl, rfl⟩)
          go_ret
          exact BoolPost.yes ⟨hI, HL2.out, HL.out, q1, q2, Q3.out⟩ HW2.out
end Go.Proofs.Ythjikcfpoomioaa
