/- What a transaction asks and writes in a span, as the program gathers it. -/
import Derived.Test.YthjikcfpoomioaaTxAt
import Derived.Test.YthjikcfpoomioaaTxE
import Derived.Test.YthjikcfpoomioaaSpan
namespace Go.Proofs.Ythjikcfpoomioaa
open Go.RowKit

def wantsIn (vs : List WantD) (lo hi : ByteArray) (k : Nat) : List WantD := (vs.take k).filter fun v => hasB lo hi v.f0
theorem wantsIn_no {vs : List WantD} {lo hi : ByteArray} {k : Nat} (hk : k < vs.length) (h : hasB lo hi vs[k].f0 = false) : wantsIn vs lo hi (k + 1) = wantsIn vs lo hi k := by
  unfold wantsIn; rw [List.take_succ_eq_append_getElem hk, List.filter_append]; simp [h]
theorem wantsIn_yes {vs : List WantD} {lo hi : ByteArray} {k : Nat} (hk : k < vs.length) (h : hasB lo hi vs[k].f0 = true) : wantsIn vs lo hi (k + 1) = wantsIn vs lo hi k ++ [vs[k]] := by
  unfold wantsIn; rw [List.take_succ_eq_append_getElem hk, List.filter_append]; simp [h]
theorem wantsIn_le (vs : List WantD) (lo hi : ByteArray) (k : Nat) : (wantsIn vs lo hi k).length ≤ vs.length := Nat.le_trans (List.length_filter_le _ _) (by rw [List.length_take]; omega)
theorem newsWant (w : World) (v : WantD) (t : TypeId) (g : Nat) (hg : w.heap.size = g) : ∀ j u, (wantCells v)[j]? = some u → (w.alloc (.cells #[.string v.f0, .int .i64 v.f1] t)).cell? ((⟨g, 0, none⟩ : Addr).add j) = some u := by
  subst hg
  exact World.news_of_block (heap_alloc_new w _)

def writesIn (vs : List WriteD) (lo hi : ByteArray) (k : Nat) : List WriteD := (vs.take k).filter fun v => hasB lo hi v.f0
theorem writesIn_no {vs : List WriteD} {lo hi : ByteArray} {k : Nat} (hk : k < vs.length) (h : hasB lo hi vs[k].f0 = false) : writesIn vs lo hi (k + 1) = writesIn vs lo hi k := by
  unfold writesIn; rw [List.take_succ_eq_append_getElem hk, List.filter_append]; simp [h]
theorem writesIn_yes {vs : List WriteD} {lo hi : ByteArray} {k : Nat} (hk : k < vs.length) (h : hasB lo hi vs[k].f0 = true) : writesIn vs lo hi (k + 1) = writesIn vs lo hi k ++ [vs[k]] := by
  unfold writesIn; rw [List.take_succ_eq_append_getElem hk, List.filter_append]; simp [h]
theorem writesIn_le (vs : List WriteD) (lo hi : ByteArray) (k : Nat) : (writesIn vs lo hi k).length ≤ vs.length := Nat.le_trans (List.length_filter_le _ _) (by rw [List.length_take]; omega)
theorem newsWrite (w : World) (v : WriteD) (t : TypeId) (g : Nat) (hg : w.heap.size = g) : ∀ j u, (writeCells v)[j]? = some u → (w.alloc (.cells #[.string v.f0, .string v.f1, .bool v.f2] t)).cell? ((⟨g, 0, none⟩ : Addr).add j) = some u := by
  subst hg
  exact World.news_of_block (heap_alloc_new w _)
end Go.Proofs.Ythjikcfpoomioaa
