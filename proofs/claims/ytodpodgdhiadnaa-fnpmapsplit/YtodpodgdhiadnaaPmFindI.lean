/- The row of a key, as the program tells it. -/
import Derived.Test.YtodpodgdhiadnaaSpanB
namespace Go.Proofs.Ytodpodgdhiadnaa
open Go.RowKit

theorem nil_toList : (⟨#[]⟩ : ByteArray).toList = [] := by first | rfl | simp | (unfold ByteArray.toList ByteArray.toList.loop; rfl) | (unfold ByteArray.toList; unfold ByteArray.toList.loop; simp) | decide +kernel
theorem leB_not (x y : ByteArray) : leB x y = !(Op.bytesLess y.toList x.toList) := bytesLess_le _ _
theorem less_nil (x : List UInt8) : (Op.bytesLess [] x || [] == x) = true := by cases x <;> simp [Op.bytesLess]

theorem find_go {ep : Int} {vs : List RowD} {key : ByteArray} {n : Nat} (hP : PmapOkP ep vs) (hF : FindTo vs key n) (h : hasB (loOf vs n) (hiOf vs n) key = false) : FindTo vs key (n + 1) := by
  have hlo : Op.bytesLess key.toList (loOf vs n).toList = false := by
    rcases Nat.eq_zero_or_pos n with rfl | hn
    · have h0 := hF.1
      have hE := (hP.1 0 h0 h0).2.1 rfl
      rw [loOf_lt h0]
      have hE' : vs[0].f0.toList = [] := by simpa using hE
      rw [hE']
      cases key.toList <;> simp [Op.bytesLess]
    · have := hF.2 n hn (Nat.le_refl _); rw [leB_not] at this; simpa using this
  have hh : (hiOf vs n).toList.isEmpty = false ∧ Op.bytesLess key.toList (hiOf vs n).toList = false := by
    simpa [hasB, hlo] using h
  have hlt : n + 1 < vs.length := by
    by_cases g : n + 1 < vs.length
    · exact g
    · rw [hiOf_ge g, nil_toList] at hh; exact absurd hh.1 (by decide)
  refine ⟨hlt, fun i h1 h2 => ?_⟩
  by_cases e : i = n + 1
  · subst e
    have := hh.2
    rw [hiOf_lt hlt] at this
    rw [leB_not, loOf_lt hlt, this]; rfl
  · exact hF.2 i h1 (by omega)

theorem find_stop {ep : Int} {vs : List RowD} {key : ByteArray} {n : Nat} (hP : PmapOkP ep vs) (hF : FindTo vs key n) (h : hasB (loOf vs n) (hiOf vs n) key = true) : FindAt vs key n := by
  refine ⟨hF, fun hlt => ?_⟩
  have h2 : (hiOf vs n).toList.isEmpty = true ∨ Op.bytesLess key.toList (hiOf vs n).toList = true := by
    simp [hasB] at h; simpa using h.2
  rw [hiOf_lt hlt] at h2
  rw [leB_not, loOf_lt hlt]
  rcases h2 with h2 | h2
  · have := (hP.1 (n + 1) hlt hlt).2.2.1 n hF.1 rfl
    have hE' : vs[n + 1].f0.toList = [] := by simpa using h2
    rw [hE', less_nil] at this
    cases this
  · rw [h2]; rfl

set_option maxRecDepth 100000 in
set_option maxHeartbeats 1000000 in
theorem pmapFind_any (ep : Int) (a : Option Addr) (vs : List RowD) (cap : Nat) (key : ByteArray) (w : World) (hv : RowsIn w a vs) (hf : ∀ v ∈ vs, v.fits) (hlen : vs.length ≤ 1048576) (hkey : key.size ≤ maxLen) :
    Calls Try.prog 57 #[.agg #[.int .i64 ep, .slice a vs.length cap], .string key] w (PmFindPost ep vs key w) := by
  have HV := Lib.hid hv
  have HF := Lib.hid hf
  clear hv hf
  have hb0 : Below w.heap.size w (w.alloc (.cells #[.int .i64 ep, .slice a vs.length cap] 80)) := (Below.refl _ _).alloc (Nat.le_refl _) _
  cases hK : keyOkB key
  all_goals
    go_enter Try.func57, Try.ntmps57
    go_wp2_with fail
    refine (pmapOk_any ep a vs cap _ (HV.out.below hb0) HF.out (by unfold maxLen; omega)).mono ?_
    rintro e w1 ⟨b, rfl, hk, hb⟩
    have B2 := Lib.hid (hb0.trans (hb.mono (by simp)))
    have c0 := hb.cell (p := ⟨w.heap.size, 0, none⟩) (by simp)
    have c1 := hb.cell (p := ⟨w.heap.size, 1, none⟩) (by simp)
    simp [go_sem] at c0 c1
    have HK := Lib.hid hk
    clear hb hk hb0
    cases b
  · go_wp2_with fail
    go_ret
    exact PmFindPost.no (fun h => by simpa using HK.out.2 h.1) B2.out
  · go_wp2_with (go_at_call 99; refine (keyOk_is hK hkey _).mono ?_; rintro e w2 ⟨rfl, rfl⟩)
    go_ret
    exact PmFindPost.no (fun h => by rw [hK] at h; exact absurd h.2 (by decide)) B2.out
  · go_wp2_with fail
    go_ret
    exact PmFindPost.no (fun h => by simpa using HK.out.2 h.1) B2.out
  · have hP := Lib.hid (HK.out.1 (by simp))
    have h0 := hP.out.pos
    go_wp2_with (go_at_call 99; refine (keyOk_is hK hkey _).mono ?_; rintro e w2 ⟨rfl, rfl⟩)
    refine (spanRows_any ep a vs cap _ (HV.out.below B2.out) hlen).mono ?_
    rintro e w2 ⟨v, rfl, hown, hb2⟩
    obtain ⟨g, cp, rfl⟩ := Joins.ownsRow_form hown h0
    have hg2 := (hown.lt g rfl).2
    have HC := Lib.hid (fun j (hj : j < vs.length * 3) => hown.cellAt j hj)
    have B3 := Lib.hid (B2.out.trans (hb2.mono B2.out.size))
    clear hown hb2 c0 c1
    go_wp2_with fail
    go_loopw [18] (fun i wr => ∃ n : Nat, i = .int .i64 (n : Int) ∧ FindTo vs key n ∧ Below w2.heap.size w2 wr) (fun i _ => vs.length - (intOf i).toNat)
    case atStart => exact ⟨0, rfl, ⟨h0, fun i h1 h2 => by omega⟩, Below.refl _ _⟩
    case round =>
      obtain ⟨n, rfl, hF, hB⟩ := hrel
      have hn := hF.1
      obtain ⟨q0, q1, q2⟩ := spCells_at vs vs.length n hn
      have r0 := ((hB.cell (p := ⟨g, n * 3, none⟩) hg2).trans (HC.out (n * 3) (by omega))).trans q0
      have r1 := ((hB.cell (p := ⟨g, n * 3 + 1, none⟩) hg2).trans (HC.out (n * 3 + 1) (by omega))).trans q1
      have r2 := ((hB.cell (p := ⟨g, n * 3 + 2, none⟩) hg2).trans (HC.out (n * 3 + 2) (by omega))).trans q2
      have HFn := Lib.hid hF
      have HB := Lib.hid hB
      clear hF hB q0 q1 q2
      go_wp2_with fail
      refine (has_any (loOf vs n) (hiOf vs n) key _).mono ?_
      rintro e w3 ⟨rfl, hb3⟩
      have p2 := hb3.cell (p := ⟨wr.heap.size, 2, none⟩) (by simp)
      simp [go_sem] at p2
      have B4 := Lib.hid ((HB.out.alloc HB.out.size _).trans (hb3.mono (by have := HB.out.size; simp; omega)))
      clear hb3
      cases hH : hasB (loOf vs n) (hiOf vs n) key
      · go_wp2_with fail
        go_roundw
        case rel => exact ⟨n + 1, by go_num, find_go hP.out HFn.out hH, B4.out⟩
        case measure => simp [intOf]; omega
      · go_wp2_with fail
        go_ret
        exact PmFindPost.yes hP.out hK (find_stop hP.out HFn.out hH) (B3.out.trans (B4.out.mono B3.out.size))
end Go.Proofs.Ytodpodgdhiadnaa
