/- The row of a key, as the program tells it. -/
import Derived.Test.YtncipibjlpfkhaaPmFindS
import Derived.Test.YtncipibjlpfkhaaSpanB
namespace Go.Proofs.Ytncipibjlpfkhaa
open Go.RowKit

theorem nil_toList : (⟨#[]⟩ : ByteArray).toList = [] := by first | rfl | simp | (unfold ByteArray.toList ByteArray.toList.loop; rfl) | (unfold ByteArray.toList; unfold ByteArray.toList.loop; simp) | decide +kernel
theorem leB_not (x y : ByteArray) : leB x y = !(Op.bytesLess y.toList x.toList) := bytesLess_le _ _
theorem less_nil (x : List UInt8) : (Op.bytesLess [] x || [] == x) = true := by cases x <;> simp [Op.bytesLess]

theorem find_go {ep : Int} {vs : List RowD} {key : ByteArray} {n : Nat} (hP : PmapOkP ep vs) (hF : FindTo vs key n) (h : hasB (loOf vs n) (hiOf vs n) key = false) : FindTo vs key (n + 1) := by
  have hlo : Op.bytesLess key.toList (loOf vs n).toList = false := by
    rcases Nat.eq_zero_or_pos n with rfl | hn
    · have h0 := hF.1
      have hE := (hP.1 0 h0 h0).2.1 rfl
      rw [loOf_lt h0]
      have hE' : vs[0].f0.toList = [] := by simpa using hE
      rw [hE']
      cases key.toList <;> simp [Op.bytesLess]
    · have := hF.2 n hn (Nat.le_refl _); rw [leB_not] at this; simpa using this
  have hh : (hiOf vs n).toList.isEmpty = false ∧ Op.bytesLess key.toList (hiOf vs n).toList = false := by
    simpa [hasB, hlo] using h
  have hlt : n + 1 < vs.length := by
    by_cases g : n + 1 < vs.length
    · exact g
    · rw [hiOf_ge g, nil_toList] at hh; exact absurd hh.1 (by decide)
  refine ⟨hlt, fun i h1 h2 => ?_⟩
  by_cases e : i = n + 1
  · subst e
    have := hh.2
    rw [hiOf_lt hlt] at this
    rw [leB_not, loOf_lt hlt, this]; rfl
  · exact hF.2 i h1 (by omega)

theorem find_stop {ep : Int} {vs : List RowD} {key : ByteArray} {n : Nat} (hP : PmapOkP ep vs) (hF : FindTo vs key n) (h : hasB (loOf vs n) (hiOf vs n) key = true) : FindAt vs key n := by
  refine ⟨hF, fun hlt => ?_⟩
  have h2 : (hiOf vs n).toList.isEmpty = true ∨ Op.bytesLess key.toList (hiOf vs n).toList = true := by
    simp [hasB] at h; simpa using h.2
  rw [hiOf_lt hlt] at h2
  rw [leB_not, loOf_lt hlt]
  rcases h2 with h2 | h2
  · have := (hP.1 (n + 1) hlt hlt).2.2.1 n hF.1 rfl
    have hE' : vs[n + 1].f0.toList = [] := by simpa using h2
    rw [hE', less_nil] at this
    cases this
  · rw [h2]; rfl
end Go.Proofs.Ytncipibjlpfkhaa
