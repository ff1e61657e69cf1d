/- When a map is ok, as the model says it. -/
import Derived.Test.YthjikcfpoomioaaVmTo
import Derived.Test.YthjikcfpoomioaaText
import Derived.Lib.QuietBelow
namespace Go.Proofs.Ythjikcfpoomioaa
open Go.RowKit

def inB (n lo hi : Int) : Bool := decide (lo ≤ n) && decide (n ≤ hi)
def verOkB (i : Int) (s : ByteArray) (g : Bool) : Bool := inB i 1 9999 && (okB textB 8 s && (!g || s.toList.isEmpty))

set_option maxHeartbeats 400000 in
theorem l1In_any (n lo hi : Int) (w : World) :
    Calls Try.prog 144 #[.int .i64 n, .int .i64 lo, .int .i64 hi] w fun e w' => e = .returned (.bool (inB n lo hi)) ∧ w = w' := by
  by_cases h1 : lo ≤ n <;> by_cases h2 : n ≤ hi
  all_goals
    go_enter Try.func144, Try.ntmps144
    go_wp2
    go_ret
    exact ⟨ret_bool (by simp [inB, h1, h2]), rfl⟩
end Go.Proofs.Ythjikcfpoomioaa

/- When a map is ok, as the model says it: the walk. -/
namespace Go.Proofs.Ythjikcfpoomioaa
open Go.RowKit

def VersOkTo (vs : List VerD) (k : Nat) : Prop := ∀ i (h : i < vs.length), i < k → verOkB vs[i].id vs[i].text vs[i].gone = true ∧ (∀ j (hj : j < vs.length), j + 1 = i → vs[j].id < vs[i].id)
def ObjOkAt (os : List ObjD) (i : Nat) (h : i < os.length) : Prop := keyOkB os[i].key = true ∧ (∀ j (hj : j < os.length), j + 1 = i → (Op.bytesLess os[i].key.toList os[j].key.toList || os[i].key.toList == os[j].key.toList) = false) ∧ 0 < os[i].vers.length ∧ VersOkTo os[i].vers os[i].vers.length
def MapOkTo (os : List ObjD) (k : Nat) : Prop := ∀ i (h : i < os.length), i < k → ObjOkAt os i h
def OkPost (os : List ObjD) (w : World) (e : Ending) (w' : World) : Prop := ∃ b : Bool, e = .returned (.bool b) ∧ (b = true ↔ MapOkTo os os.length) ∧ Below w.heap.size w w'
theorem MapOkTo.zero (os : List ObjD) : MapOkTo os 0 := fun _ _ h => absurd h (by omega)
theorem MapOkTo.succ {os : List ObjD} {k : Nat} (h : MapOkTo os k) (hk : k < os.length) (ho : ObjOkAt os k hk) : MapOkTo os (k + 1) := fun i hi hik => by
  by_cases e : i = k
  · subst e; exact ho
  · exact h i hi (by omega)
theorem VersOkTo.zero (vs : List VerD) : VersOkTo vs 0 := fun _ _ h => absurd h (by omega)
theorem VersOkTo.succ {vs : List VerD} {k : Nat} (h : VersOkTo vs k) (hk : k < vs.length) (hv : verOkB vs[k].id vs[k].text vs[k].gone = true) (ho : ∀ j (hj : j < vs.length), j + 1 = k → vs[j].id < vs[k].id) : VersOkTo vs (k + 1) := fun i hi hik => by
  by_cases e : i = k
  · subst e; exact ⟨hv, ho⟩
  · exact h i hi (by omega)
theorem not_ok {os : List ObjD} {k : Nat} (hk : k < os.length) (h : ¬ ObjOkAt os k hk) : ¬ MapOkTo os os.length := fun g => h (g k hk hk)

theorem Below.drewN {B : Nat} {a w : World} (h : Below B a w) (n : Nat) : Below B a (w.drewN n) := ⟨h.os, h.tape, h.output, h.size, h.block⟩

theorem keepL {ur u u' : World} {p1 p2 p3 p4 p5 : Addr} {y1 y2 y3 y4 y5 : Option Value} (l1 : p1.block < ur.heap.size) (l2 : p2.block < ur.heap.size) (l3 : p3.block < ur.heap.size) (l4 : p4.block < ur.heap.size) (l5 : p5.block < ur.heap.size) (hb : Below u.heap.size u u')
    (h : u.cell? p1 = y1 ∧ u.cell? p2 = y2 ∧ u.cell? p3 = y3 ∧ u.cell? p4 = y4 ∧ u.cell? p5 = y5 ∧ Below ur.heap.size ur u) : u'.cell? p1 = y1 ∧ u'.cell? p2 = y2 ∧ u'.cell? p3 = y3 ∧ u'.cell? p4 = y4 ∧ u'.cell? p5 = y5 ∧ Below ur.heap.size ur u' := by
  obtain ⟨h1, h2, h3, h4, h5, h6⟩ := h
  have hs := h6.size
  exact ⟨(hb.cell (Nat.lt_of_lt_of_le l1 hs)).trans h1, (hb.cell (Nat.lt_of_lt_of_le l2 hs)).trans h2, (hb.cell (Nat.lt_of_lt_of_le l3 hs)).trans h3, (hb.cell (Nat.lt_of_lt_of_le l4 hs)).trans h4, (hb.cell (Nat.lt_of_lt_of_le l5 hs)).trans h5, h6.trans (hb.mono hs)⟩

theorem l1Key_is {s : ByteArray} {b : Bool} (h : keyOkB s = b) (hs : s.size ≤ maxLen) (w : World) :
    Calls Try.prog 87 #[.string s] w fun e w' => e = .returned (.bool b) ∧ w' = w := (h ▸ l1Key_any s w hs).mono fun _ _ ⟨a, b⟩ => ⟨a, b.symm⟩
end Go.Proofs.Ythjikcfpoomioaa
