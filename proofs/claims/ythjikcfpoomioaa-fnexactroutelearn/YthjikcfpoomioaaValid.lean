/- The iterator over versions: its contract for every loop body. -/
import Derived.RangeFuncNested
import Derived.RangeFuncBound
import Derived.RangeFuncCalls
import Derived.RangeFuncLeaves
import Derived.Shelf.Abstract
import Derived.Shelf.RegionOpen
import Derived.WalkKit
import Derived.OwnWalkIn
import Derived.TacticsInMore
import Derived.LoopNIn
import Derived.LoopIn
import Derived.Test.YthjikcfpoomioaaIter
namespace Go.Proofs.Ythjikcfpoomioaa
open Go.RowKit Go.Shelf
attribute [local go_sem] Oper.semAt_some

set_option maxHeartbeats 400000 in
theorem verRank_is (i : Int) (s : ByteArray) (g : Bool) (w : World) :
    Calls Try.prog 245 #[.agg #[.int .i64 i, .string s, .bool g]] w fun e w' => e = .returned (.int .i64 i) ∧ w' = w.alloc (.cells #[.int .i64 i, .string s, .bool g] 282) := by
  go_enter Try.func245, Try.ntmps245
  go_wp2
  go_ret
  exact ⟨rfl, rfl⟩

def verArgs (v : VerD) : Array Value := #[.int .i64 v.id, .agg #[.int .i64 v.id, .string v.text, .bool v.gone]]
end Go.Proofs.Ythjikcfpoomioaa

/- Whether an object is valid, as the program asks it: a loop over the iterator of its versions. -/
namespace Go.Proofs.Ythjikcfpoomioaa
open Go.RowKit Go.Shelf
attribute [local go_sem] Oper.semAt_some
theorem wide_fn (f : FuncId) : Fence.wide.fn f = True := rfl
attribute [local go_sem] wide_fn

theorem cell_alloc_l {W : World} {a : Addr} {v : Value} (o : Obj) (h : W.cell? a = some v) : (W.alloc o).cell? a = some v := cell_kept h (World.grownBy_alloc W o none) (fun r e => by cases e)
theorem frozen_alloc_l {W : World} {a : Addr} {v : Value} (o : Obj) (h : W.cell? a = some v) (hf : W.frozen? a = false) : (W.alloc o).frozen? a = false := (frozen_kept h (World.grownBy_alloc W o none) (fun r e => by cases e)).trans hf
theorem keeps_of_below {W W' : World} (h : Below W.heap.size W W') : KeepsOthers W W' := ⟨h.size, fun k _ hk _ => (h.block k (Array.getElem?_eq_some_iff.1 hk).1).trans hk⟩

theorem verValid_is {i : Int} {s : ByteArray} {g b : Bool} (h : verOkB i s g = b) (hs : s.size ≤ maxLen) (w : World) :
    Calls Try.prog 240 #[.agg #[.int .i64 i, .string s, .bool g]] w fun e w' => e = .returned (.bool b) ∧ Below w.heap.size w w' := h ▸ verValid_any i s g w hs
theorem keyOk_is {s : ByteArray} {b : Bool} (h : keyOkB s = b) (hs : s.size ≤ maxLen) (w : World) :
    Calls Try.prog 149 #[.string s] w fun e w' => e = .returned (.bool b) ∧ w = w' := h ▸ keyOk_any s w hs
theorem versOk_iff (vs : List VerD) : VersOkTo vs vs.length ↔ (∀ x ∈ vs, verOkB x.id x.text x.gone = true) ∧ VersUp vs vs.length := by
  constructor
  · intro h
    refine ⟨fun x hx => ?_, fun i hi hk j hj e => (h i hi hk).2 j hj e⟩
    obtain ⟨i, hi, rfl⟩ := List.getElem_of_mem hx
    exact (h i hi hi).1
  · intro ⟨h1, h2⟩ i hi hk
    exact ⟨h1 _ (List.getElem_mem hi), fun j hj e => h2 i hi hk j hj e⟩
end Go.Proofs.Ythjikcfpoomioaa
