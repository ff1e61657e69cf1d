/- Is nothing of it known by a later map? The model's walk. -/
import Derived.Test.YthjikcfpoomioaaRrS
import Derived.Test.YthjikcfpoomioaaRlI
namespace Go.Proofs.Ythjikcfpoomioaa
open Go.RowKit

set_option maxRecDepth 100000 in
set_option maxHeartbeats 8000000 in
theorem l12Newer_any (k : KnownD) (a : Option Addr) (vs : List KnownD) (cap : Nat) (w : World) (hkf : k.fits) (hv : KnownsIn w a vs) (hf : ∀ v ∈ vs, v.fits) (hn : vs.length ≤ 1048576) :
    Calls Try.prog 102 #[.slice a vs.length cap, .agg #[.string k.f0, .string k.f1, .int .i64 k.f2, .int .i64 k.f3]] w (BoolPost (OldAll k vs vs.length) w) := by
  have HV := Lib.hid hv
  have HF := Lib.hid hf
  clear hv hf
  obtain ⟨ht0, ht1⟩ := hkf
  obtain ⟨W0, hW0⟩ : ∃ W0, w.alloc (.cells #[.string k.f0, .string k.f1, .int .i64 k.f2, .int .i64 k.f3] 48) = W0 := ⟨_, rfl⟩
  have B0 : Below w.heap.size w W0 := by rw [← hW0]; exact (Below.refl _ _).alloc (Nat.le_refl _) _
  have s0 : w.heap.size < W0.heap.size := by rw [← hW0]; simp
  have x0 : W0.cell? ⟨w.heap.size, 0, none⟩ = some (.string k.f0) := by rw [← hW0]; simp [go_sem]
  have x1 : W0.cell? ⟨w.heap.size, 1, none⟩ = some (.string k.f1) := by rw [← hW0]; simp [go_sem]
  have x3 : W0.cell? ⟨w.heap.size, 3, none⟩ = some (.int .i64 k.f3) := by rw [← hW0]; simp [go_sem]
  have HB0 := Lib.hid B0
  clear B0
  go_enter Try.func102, Try.ntmps102
  go_wp2_with fail
  clear hW0
  go_loopw [5] (fun i wr => ∃ j : Nat, j ≤ vs.length ∧ i = .int .i64 j ∧ Below W0.heap.size W0 wr ∧ OldAll k vs j) (fun i _ => vs.length - (intOf i).toNat)
  case atStart => exact ⟨0, Nat.zero_le _, rfl, Below.refl _ _, fun i _ h => absurd h (by omega)⟩
  case round =>
    obtain ⟨j, hjl, rfl, hB, hM⟩ := hrel
    have HM := Lib.hid hM
    have z0 := (hB.cell (p := ⟨w.heap.size, 0, none⟩) s0).trans x0
    have z1 := (hB.cell (p := ⟨w.heap.size, 1, none⟩) s0).trans x1
    have z3 := (hB.cell (p := ⟨w.heap.size, 3, none⟩) s0).trans x3
    have sr : w.heap.size < wr.heap.size := Nat.lt_of_lt_of_le s0 hB.size
    have HWr := Lib.hid hB
    have HX := Lib.hid (HB0.out.trans (hB.mono HB0.out.size))
    clear hB hM
    by_cases hjt : j < vs.length
    case neg =>
      obtain rfl : j = vs.length := by omega
      go_wp2_with fail
      go_ret
      exact BoolPost.yes HM.out HX.out
    rcases HV.out.below HX.out with hnil | ⟨b1, o1, rfl, sb, hc1⟩
    · rw [hnil] at hjt; simp at hjt
    obtain ⟨d0, d1, -, d3⟩ := hc1 j hjt
    clear hc1
    obtain ⟨hs0, hs1⟩ := HF.out _ (List.getElem_mem hjt)
    have i1 : (0 : Int) ≤ (j : Int) := by omega
    have i2 : (j : Int) < (vs.length : Int) := by omega
    obtain ⟨V, hV⟩ : ∃ V, wr.alloc (.cells #[.string ⟨#[]⟩, .string ⟨#[]⟩] 46) = V := ⟨_, rfl⟩
    have hb0 : Below wr.heap.size wr V := by rw [← hV]; exact (Below.refl _ _).alloc (Nat.le_refl _) _
    have n0 : V.cell? ⟨wr.heap.size, 0, none⟩ = some (.string ⟨#[]⟩) := by rw [← hV]; simp [go_sem]
    have n1 : V.cell? ⟨wr.heap.size, 1, none⟩ = some (.string ⟨#[]⟩) := by rw [← hV]; simp [go_sem]
    have m0 : V.frozen? ⟨wr.heap.size, 0, none⟩ = false := by rw [← hV]; simp [go_sem]
    have m1 : V.frozen? ⟨wr.heap.size, 1, none⟩ = false := by rw [← hV]; simp [go_sem]
    have v0 := (hb0.cell (p := ⟨w.heap.size, 0, none⟩) sr).trans z0
    have v1 := (hb0.cell (p := ⟨w.heap.size, 1, none⟩) sr).trans z1
    have v2 := (hb0.cell (p := ⟨b1, o1 + j * 4, none⟩) sb).trans d0
    have v3 := (hb0.cell (p := ⟨b1, o1 + j * 4 + 1, none⟩) sb).trans d1
    have sn : wr.heap.size < V.heap.size := by rw [← hV]; simp
    go_upto_region 4 with fail
    go_cut [6, 7] from 8 to 24 (fun s6 s7 u => s7 = .bool (meetB vs[j].f0 vs[j].f1 k.f0 k.f1) ∧ Below wr.heap.size wr u)
    case first =>
      go_region_with (first
        | (go_at_call 99; (with_reducible refine (specSpanMeet_any vs[j].f0 vs[j].f1 k.f0 k.f1 V.drew hs0 hs1 ht0 ht1).mono ?_); rintro e wD ⟨rfl, hb⟩; have n0' := (hb.cell (p := ⟨wr.heap.size, 0, none⟩) sn).trans n0; have n1' := (hb.cell (p := ⟨wr.heap.size, 1, none⟩) sn).trans n1; have m0' := (hb.frozen (p := ⟨wr.heap.size, 0, none⟩) sn).trans m0; have m1' := (hb.frozen (p := ⟨wr.heap.size, 1, none⟩) sn).trans m1; have X2 := Lib.hid hb; clear hb)
        | (go_at_call 99; (with_reducible refine (specSpanMeet_any vs[j].f0 vs[j].f1 k.f0 k.f1 _ hs0 hs1 ht0 ht1).mono ?_); rintro e wD ⟨rfl, hb⟩; have X2 := Lib.hid hb; clear hb))
      all_goals
        have BD : Below wr.heap.size wr wD := by first | exact below_bothD X2.out | exact below_bothV hb0 X2.out
        first
          | (obtain ⟨F, hF⟩ : ∃ F, wD.alloc (.cells #[.string (mLo vs[j].f0 vs[j].f1 k.f0 k.f1), .string (mHi vs[j].f0 vs[j].f1 k.f0 k.f1)] 46) = F := ⟨_, rfl⟩; rw [hF]; have Z : Below wr.heap.size wr F := hF ▸ BD.alloc BD.size _)
          | (obtain ⟨F, hF⟩ : ∃ F, ((wD.setCell ⟨wr.heap.size, 0, none⟩ (.string (mLo vs[j].f0 vs[j].f1 k.f0 k.f1))).setCell ⟨wr.heap.size, 1, none⟩ (.string (mHi vs[j].f0 vs[j].f1 k.f0 k.f1))) = F := ⟨_, rfl⟩; rw [hF]; have Z : Below wr.heap.size wr F := hF ▸ (BD.setCell (Nat.le_refl _) _).setCell (Nat.le_refl _) _)
        go_wp2_with fail
        go_meet
        exact ⟨rfl, Z⟩
    case rest =>
      obtain ⟨rfl, Z⟩ := hcut
      clear hb0 hV n0 n1 m0 m1 v0 v1 v2 v3 sn
      obtain ⟨F, rfl⟩ : ∃ F, F = wc := ⟨_, rfl⟩
      have z3F := (Z.cell (p := ⟨w.heap.size, 3, none⟩) sr).trans z3
      have d3F := (Z.cell (p := ⟨b1, o1 + j * 4 + 3, none⟩) sb).trans d3
      have HZ := Lib.hid Z
      clear Z
      cases hMt : meetB vs[j].f0 vs[j].f1 k.f0 k.f1
      case' true => by_cases hND : k.f3 < vs[j].f3
      case pos =>
        go_wp2_with fail
        go_quiet (fail)
        go_wp2_with fail
        go_ret
        exact BoolPost.no (fun h => absurd (h j hjt hjt hMt) (by simp [oldB, hND])) (below_drewN (HX.out.trans (HZ.out.mono HX.out.size)) _)
      all_goals
        have HP := Lib.hid (show meetB vs[j].f0 vs[j].f1 k.f0 k.f1 = true → oldB k.f3 vs[j] = true from fun hm => by first | (simp [oldB, hND]; done) | (rw [hMt] at hm; cases hm) | (simp [oldB]; omega))
        go_wp2_with fail
        go_quiet (fail)
        go_wp2_with fail
        go_roundw
        case rel => exact ⟨j + 1, by omega, by go_num, below_drewN (HWr.out.trans (HZ.out.mono HWr.out.size)) _, fun i hi hin => by
          by_cases q : i = j
          · subst q; exact HP.out
          · exact HM.out i hi (by omega)⟩
        case measure => simp [intOf]; omega
end Go.Proofs.Ythjikcfpoomioaa
