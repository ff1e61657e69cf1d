/- Whether a map is valid, as the program asks it: a loop over the iterator of its objects; it says what the model says. -/
import Derived.RangeFuncNested
import Derived.RangeFuncBound
import Derived.RangeFuncCalls
import Derived.RangeFuncLeaves
import Derived.Shelf.Abstract
import Derived.Shelf.RegionOpen
import Derived.WalkKit
import Derived.OwnWalkIn
import Derived.TacticsInMore
import Derived.LoopNIn
import Derived.LoopIn
import Derived.Test.YthjikcfpoomioaaValid
namespace Go.Proofs.Ythjikcfpoomioaa
open Go.RowKit Go.Shelf
attribute [local go_sem] Oper.semAt_some
attribute [local go_sem] wide_fn

theorem ObjsIn.mem {u : World} {a : Option Addr} {os : List ObjD} (h : ObjsIn u a os) {o : ObjD} (ho : o ∈ os) : VersIn u o.at_ o.vers := by
  rcases h with h | ⟨b, off, e, hb, hc⟩
  · subst h; cases ho
  · obtain ⟨i, hi, rfl⟩ := List.getElem_of_mem ho
    exact (hc i hi).2.2

def ObjOk (o : ObjD) : Prop := keyOkB o.key = true ∧ 0 < o.vers.length ∧ VersOkTo o.vers o.vers.length
theorem mapOk_iff (os : List ObjD) : MapOkTo os os.length ↔ (∀ o ∈ os, ObjOk o) ∧ ObjsUp os os.length := by
  constructor
  · intro h
    refine ⟨fun x hx => ?_, fun i hi hk j hj e => (h i hi hk).2.1 j hj e⟩
    obtain ⟨i, hi, rfl⟩ := List.getElem_of_mem hx
    have := h i hi hi
    exact ⟨this.1, this.2.2.1, this.2.2.2⟩
  · intro ⟨h1, h2⟩ i hi hk
    have := h1 _ (List.getElem_mem hi)
    exact ⟨this.1, fun j hj e => h2 i hi hk j hj e, this.2.1, this.2.2⟩
end Go.Proofs.Ythjikcfpoomioaa
