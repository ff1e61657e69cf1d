/- The rows of a map of parts with their spans, as the program lays them. -/
import Derived.Test.YtodpodgdhiadnaaPmapI
import Derived.Deep.AppendLies
import Derived.Lib.SmallJoins
namespace Go.Proofs.Ytodpodgdhiadnaa
open Go.RowKit

def hiOf (vs : List RowD) (k : Nat) : ByteArray := if h : k + 1 < vs.length then vs[k + 1].f0 else ⟨#[]⟩
theorem hiOf_lt {vs : List RowD} {k : Nat} (h : k + 1 < vs.length) : hiOf vs k = vs[k + 1].f0 := by simp [hiOf, h]
theorem hiOf_ge {vs : List RowD} {k : Nat} (h : ¬ k + 1 < vs.length) : hiOf vs k = ⟨#[]⟩ := by simp [hiOf, h]
def loOf (vs : List RowD) (k : Nat) : ByteArray := if h : k < vs.length then vs[k].f0 else ⟨#[]⟩
theorem loOf_lt {vs : List RowD} {k : Nat} (h : k < vs.length) : loOf vs k = vs[k].f0 := by simp [loOf, h]
def srCells (vs : List RowD) (i : Nat) : List Value := [.string (loOf vs i), .string (hiOf vs i), .int .i64 (i : Int)]
def spCells (vs : List RowD) (k : Nat) : List Value := (List.range k).flatMap (srCells vs)
theorem spCells_succ (vs : List RowD) (k : Nat) : spCells vs (k + 1) = spCells vs k ++ srCells vs k := by simp [spCells, List.range_succ]

theorem infoSpanRow : (Try.prog.info? 175).map (fun i => (i.zero, i.size, i.bytes)) = some (some (.agg #[.string ⟨#[]⟩, .string ⟨#[]⟩, .int .i64 0]), 3, 40) := by kernel_rfl

theorem news3 (w : World) (x y z : Value) (t : TypeId) (g : Nat) (hg : w.heap.size = g) : ∀ j u, [x, y, z][j]? = some u → (w.alloc (.cells #[x, y, z] t)).cell? ((⟨g, 0, none⟩ : Addr).add j) = some u := by
  subst hg
  exact World.news_of_block (heap_alloc_new w _)

set_option maxRecDepth 100000 in
set_option maxHeartbeats 1000000 in
theorem spanRows_any (ep : Int) (a : Option Addr) (vs : List RowD) (cap : Nat) (w : World) (hv : RowsIn w a vs) (hn : vs.length ≤ 1048576) :
    Calls Try.prog 134 #[.agg #[.int .i64 ep, .slice a vs.length cap]] w (fun e w' => ∃ v, e = .returned v ∧ w'.ownsRow w.heap.size 175 3 v vs.length (spCells vs vs.length) ∧ Below w.heap.size w w') := by
  have HV := Lib.hid hv
  clear hv
  obtain ⟨i0, hi, hz0, hz1, hz2⟩ := info_parts infoSpanRow
  go_enter Try.func134, Try.ntmps134
  go_wp2_with fail
  go_loopw [3, 10] (fun v i wr => ∃ k : Nat, k ≤ vs.length ∧ i = .int .i64 k ∧ Below (w.heap.size + 1) (w.alloc (.cells #[.int .i64 ep, .slice a vs.length cap] 80)) wr ∧ wr.ownsRow (w.heap.size + 1) 175 3 v k (spCells vs k)) (fun _ i _ => vs.length - (intOf i).toNat)
  case atStart => exact ⟨0, Nat.zero_le _, rfl, Below.refl _ _, World.ownsRow_nil _ _ _ _⟩
  case round =>
    obtain ⟨k, hk, rfl, hB, hO⟩ := hrel
    have c0 := hB.cell (p := ⟨w.heap.size, 0, none⟩) (by simp)
    have c1 := hB.cell (p := ⟨w.heap.size, 1, none⟩) (by simp)
    simp [go_sem] at c0 c1
    have HW := Lib.hid (((Below.refl w.heap.size w).alloc (Nat.le_refl _) _).trans (hB.mono (by omega)))
    have HB := Lib.hid hB
    have HO := Lib.hid hO
    have hsz : w.heap.size < wr.heap.size := by have := hB.size; simp at this; omega
    clear hB hO
    by_cases hlt : k < vs.length
    · rcases HV.out.below HW.out with hnil | ⟨b1, o1, rfl, hb1, hc1⟩
      · rw [hnil] at hlt; simp at hlt
      obtain ⟨d0, d1⟩ := hc1 k hlt
      by_cases hl2 : k + 1 < vs.length
      · obtain ⟨e0, _⟩ := hc1 (k + 1) hl2
        clear hc1
        go_wp2_with (at_builtin; refine wpList_append_lies _ rfl _ _ 176 rfl (w.heap.size + 1) 175 i0 (.agg #[.string ⟨#[]⟩, .string ⟨#[]⟩, .int .i64 0]) 3 40 Try.underlying176 hi hz0 hz1 hz2 rfl (by decide) _ k (spCells vs k) rfl (((HO.out.alloc _).alloc _).alloc _) ⟨wr.heap.size + 1 + 1, 0, none⟩ 1 1 [.string vs[k].f0, .string vs[k + 1].f0, .int .i64 (k : Int)] rfl rfl (news3 _ _ _ _ _ _ (by simp)) (fun u hu => by simp at hu; rcases hu with rfl | rfl | rfl <;> rfl) (by omega) (by unfold maxLen; omega) (by omega) (by simp; omega) _ rfl ?_; intro g cp w2 hown hgrow hat hlt2; have X := Lib.hid (And.intro hown hgrow); clear hown hgrow hat hlt2)
        go_roundw
        case rel => exact ⟨k + 1, by omega, by go_num, Below.grown (((HB.out.alloc (by omega) _).alloc (by simp; omega) _).alloc (by simp; omega) _) X.out.2 (by simp; omega) (fun j hj => (HO.out.lt j hj).1), by rw [spCells_succ, srCells, loOf_lt hlt, hiOf_lt hl2]; exact X.out.1⟩
        case measure => simp [intOf]; omega
      · clear hc1
        go_wp2_with (at_builtin; refine wpList_append_lies _ rfl _ _ 176 rfl (w.heap.size + 1) 175 i0 (.agg #[.string ⟨#[]⟩, .string ⟨#[]⟩, .int .i64 0]) 3 40 Try.underlying176 hi hz0 hz1 hz2 rfl (by decide) _ k (spCells vs k) rfl (((HO.out.alloc _).alloc _).alloc _) ⟨wr.heap.size + 1 + 1, 0, none⟩ 1 1 [.string vs[k].f0, .string ⟨#[]⟩, .int .i64 (k : Int)] rfl rfl (news3 _ _ _ _ _ _ (by simp)) (fun u hu => by simp at hu; rcases hu with rfl | rfl | rfl <;> rfl) (by omega) (by unfold maxLen; omega) (by omega) (by simp; omega) _ rfl ?_; intro g cp w2 hown hgrow hat hlt2; have X := Lib.hid (And.intro hown hgrow); clear hown hgrow hat hlt2)
        go_roundw
        case rel => exact ⟨k + 1, by omega, by go_num, Below.grown (((HB.out.alloc (by omega) _).alloc (by simp; omega) _).alloc (by simp; omega) _) X.out.2 (by simp; omega) (fun j hj => (HO.out.lt j hj).1), by rw [spCells_succ, srCells, loOf_lt hlt, hiOf_ge hl2]; exact X.out.1⟩
        case measure => simp [intOf]; omega
    · obtain rfl : k = vs.length := by omega
      go_wp2_with fail
      go_ret
      exact ⟨_, rfl, Joins.ownsRow_le HO.out (by omega), HW.out⟩
end Go.Proofs.Ytodpodgdhiadnaa
