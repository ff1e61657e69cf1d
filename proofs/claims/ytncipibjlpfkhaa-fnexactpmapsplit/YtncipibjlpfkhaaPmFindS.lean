/- The row of a key, as the model tells it. -/
import Derived.Test.YtncipibjlpfkhaaPmSpanS
import Derived.Test.YtncipibjlpfkhaaSpan
namespace Go.Proofs.Ytncipibjlpfkhaa
open Go.RowKit

def leB (x y : ByteArray) : Bool := Op.bytesLess x.toList y.toList || x.toList == y.toList
/-- Whether the rows from 1 to k begin no later than the key. -/
def FindTo (vs : List RowD) (key : ByteArray) (k : Nat) : Prop := k < vs.length ∧ ∀ i, 1 ≤ i → i ≤ k → leB (loOf vs i) key = true
def FindAt (vs : List RowD) (key : ByteArray) (k : Nat) : Prop := FindTo vs key k ∧ (k + 1 < vs.length → leB (loOf vs (k + 1)) key = false)
theorem FindAt.unique {vs : List RowD} {key : ByteArray} {j k : Nat} (h : FindAt vs key j) (g : FindAt vs key k) : j = k := by
  rcases Nat.lt_trichotomy j k with hlt | rfl | hlt
  · have := h.2 (by have := g.1.1; omega); rw [g.1.2 (j + 1) (by omega) (by omega)] at this; cases this
  · rfl
  · have := g.2 (by have := h.1.1; omega); rw [h.1.2 (k + 1) (by omega) (by omega)] at this; cases this

set_option maxRecDepth 100000 in
set_option maxHeartbeats 1000000 in
theorem l5Find_any (ep : Int) (a : Option Addr) (vs : List RowD) (cap : Nat) (key : ByteArray) (w : World) (hv : RowsIn w a vs) (h0 : 0 < vs.length) (hlen : vs.length ≤ 1048576) :
    Calls Try.prog 170 #[.agg #[.int .i64 ep, .slice a vs.length cap], .string key] w fun e w' => ∃ k : Nat, e = .returned (.int .i64 (k : Int)) ∧ FindAt vs key k ∧ Below w.heap.size w w' := by
  rcases hv with hnil | ⟨b1, o1, rfl, hb1, hc1⟩
  · rw [hnil] at h0; simp at h0
  have hb2 : b1 < w.heap.size + 1 := by omega
  have HC := Lib.hid hc1
  clear hc1
  go_enter Try.func170, Try.ntmps170
  go_wp2_with fail
  go_loop [5] (fun i => ∃ k : Nat, i = .int .i64 (k : Int) ∧ FindTo vs key k) (fun i => vs.length - (intOf i).toNat)
  case atStart => exact ⟨0, rfl, h0, fun i h1 h2 => by omega⟩
  case round =>
    obtain ⟨k, rfl, hF⟩ := hrel
    have hk := hF.1
    have HF := Lib.hid hF
    clear hF
    by_cases hlt : k + 1 < vs.length
    · have e0 := (HC.out (k + 1) hlt).1
      have hd : decide ((k : Int) + 1 < (vs.length : Int)) = true := by simp; omega
      cases hO : (Op.bytesLess vs[k + 1].f0.toList key.toList || vs[k + 1].f0.toList == key.toList)
      all_goals
        go_wp2_with fail
      · go_ret
        exact ⟨k, rfl, ⟨HF.out, fun _ => by rw [loOf_lt hlt]; exact hO⟩, (Below.refl _ _).alloc (Nat.le_refl _) _⟩
      · go_round
        case rel => exact ⟨k + 1, by go_num, hlt, fun i h1 h2 => by
          by_cases e : i = k + 1
          · subst e; rw [loOf_lt hlt]; exact hO
          · exact HF.out.2 i h1 (by omega)⟩
        case measure => simp [intOf]; omega
    · have hd : decide ((k : Int) + 1 < (vs.length : Int)) = false := by simp; omega
      go_wp2_with fail
      go_ret
      exact ⟨k, rfl, ⟨HF.out, fun h => absurd h hlt⟩, (Below.refl _ _).alloc (Nat.le_refl _) _⟩

def PmFindPost (ep : Int) (vs : List RowD) (key : ByteArray) (w : World) (e : Ending) (w' : World) : Prop :=
  ∃ r : Int, e = .returned (.int .i64 r) ∧ (PmapOkP ep vs ∧ keyOkB key = true → ∃ k : Nat, r = k ∧ FindAt vs key k) ∧ (¬ (PmapOkP ep vs ∧ keyOkB key = true) → r = -1) ∧ Below w.heap.size w w'
theorem PmFindPost.no {ep : Int} {vs : List RowD} {key : ByteArray} {w w' : World} (h : ¬ (PmapOkP ep vs ∧ keyOkB key = true)) (hb : Below w.heap.size w w') : PmFindPost ep vs key w (.returned (.int .i64 (-1))) w' :=
  ⟨-1, rfl, fun g => absurd g h, fun _ => rfl, hb⟩
theorem PmFindPost.yes {ep : Int} {vs : List RowD} {key : ByteArray} {k : Nat} {w w' : World} (h : PmapOkP ep vs) (hk : keyOkB key = true) (hF : FindAt vs key k) (hb : Below w.heap.size w w') : PmFindPost ep vs key w (.returned (.int .i64 (k : Int))) w' :=
  ⟨k, rfl, fun _ => ⟨k, rfl, hF⟩, fun g => absurd ⟨h, hk⟩ g, hb⟩
theorem PmapOkP.pos {ep : Int} {vs : List RowD} (h : PmapOkP ep vs) : 0 < vs.length := by have := h.2.1; simp [inB] at this; omega
end Go.Proofs.Ytncipibjlpfkhaa
