/- Slices of strings in memory that belongs to a call: where they lie, copies, equality, marks. -/
import Derived.Test.YthjikcfpoomioaaStrsM
import Derived.Test.YthjikcfpoomioaaLie
namespace Go.Proofs.Ythjikcfpoomioaa
open Go.RowKit

structure StringsAt (w : World) (lo hi : Nat) (a : Option Addr) (vs : List ByteArray) : Prop where
  in1 : StrsIn w a vs
  fr1 : Free w a vs.length
  l1 : Lies lo hi a
  le : hi ≤ w.heap.size
theorem StringsAt.below {w w' : World} {lo hi : Nat} {a : Option Addr} {vs : List ByteArray} (h : StringsAt w lo hi a vs) (hb : Below w.heap.size w w') : StringsAt w' lo hi a vs := ⟨h.in1.below hb, h.fr1.below hb, h.l1, Nat.le_trans h.le hb.size⟩
theorem StringsAt.turned {S : Nat → Prop} {w w' : World} {lo hi : Nat} {a : Option Addr} {vs : List ByteArray} (h : StringsAt w lo hi a vs) (hS : ∀ b, lo ≤ b → b < hi → ¬ S b) (ht : Turned S w w') : StringsAt w' lo hi a vs :=
  ⟨h.in1.turned (h.l1.off hS) ht, h.fr1.turned (h.l1.off hS) ht, h.l1, Nat.le_trans h.le ht.size⟩
theorem StringsAt.drewAt {w : World} {lo hi : Nat} {a : Option Addr} {vs : List ByteArray} (h : StringsAt w lo hi a vs) : StringsAt w.drew lo hi a vs := ⟨h.in1, h.fr1, h.l1, h.le⟩
theorem StringsAt.nil (w : World) : StringsAt w w.heap.size w.heap.size none [] := ⟨.inl rfl, .inl rfl, (fun b off e => by cases e), Nat.le_refl _⟩
theorem StringsAt.lower {w : World} {lo lo' hi : Nat} {a : Option Addr} {vs : List ByteArray} (h : StringsAt w lo hi a vs) (hl : lo' ≤ lo) : StringsAt w lo' w.heap.size a vs := ⟨h.in1, h.fr1, h.l1.mono hl h.le, Nat.le_refl _⟩
def StringsOut (vs : List ByteArray) (w : World) (e : Ending) (w' : World) : Prop :=
  ∃ a c, e = .returned (.slice a vs.length c) ∧ StringsAt w' w.heap.size w'.heap.size a vs ∧ Below w.heap.size w w'
theorem eqStringS_at {a b : Option Addr} {vs : List ByteArray} {k l lo hi lo' hi' : Nat} {w : World} (ha : StringsAt w lo hi a vs) (hb : StringsAt w lo' hi' b vs) (hn : vs.length ≤ maxLen) :
    Calls Try.prog 60 #[.slice a vs.length k, .slice b vs.length l] w fun e w' => e = .returned (.bool true) ∧ Below w.heap.size w w' :=
  eqStringS_same a b vs k l w ha.in1 hb.in1 hn
def StringsMk (lo hi : Nat) (a : Option Addr) (k n : Nat) (w : World) (e : Ending) (w' : World) : Prop :=
  e = .returned (.int .i64 ((k : Int) + n)) ∧ StringsAt w' lo hi a (marks k n) ∧ Turned (fun b => lo ≤ b ∧ b < hi) w w'
theorem markStringS_at {a : Option Addr} {vs : List ByteArray} {c lo hi k : Nat} {w : World} (h : StringsAt w lo hi a vs) (hk : 1 ≤ k) (hkn : k + vs.length ≤ 100000000) :
    Calls Try.prog 63 #[.slice a vs.length c, .int .i64 (k : Int)] w (StringsMk lo hi a k vs.length w) :=
  (markStringS_any (fun b => lo ≤ b ∧ b < hi) a vs.length c k w h.fr1 (fun b off e => h.l1 b off e) hk hkn).mono fun e w' ⟨he, i1, f1, ht⟩ =>
    ⟨he, ⟨i1, by rw [marks_length]; exact f1, h.l1, Nat.le_trans h.le ht.size⟩, ht⟩
theorem heldStringS_at {a : Option Addr} {n c lo hi k : Nat} {w : World} (h : StringsAt w lo hi a (marks k n)) (hk : 1 ≤ k) (hkn : k + n ≤ 100000000) :
    Calls Try.prog 64 #[.slice a n c, .int .i64 (k : Int)] w fun e w' => e = .returned (.int .i64 ((k : Int) + n)) ∧ Below w.heap.size w w' :=
  heldStringS_any a n c k w h.in1 hk hkn
end Go.Proofs.Ythjikcfpoomioaa
