/- Sorting and thinning a row of strings that a call owns. -/
import Derived.Test.YthjikcfpoomioaaKeysI
import Derived.Test.YthjikcfpoomioaaShf
import Derived.Sort.OwnSorted
namespace Go.Proofs.Ythjikcfpoomioaa
open Go.RowKit Go.Sort

def baOf (l : List UInt8) : ByteArray := ⟨l.toArray⟩
theorem encStr_eq (l : List UInt8) : encStr l = .string (baOf l) := rfl
theorem baOf_data (b : ByteArray) : baOf b.data.toList = b := rfl

theorem turned_of_grown {w w' : World} {g : Nat} (h : w.grownBy w' (some g)) : Turned (fun k => k = g) w w' := ⟨h.os, h.tape, h.output, h.size, fun k hk hn => h.block k hk (fun e => hn (Option.some.inj e))⟩
theorem turned_put {w : World} {g q : Nat} (d : Array (List UInt8)) : Turned (fun k => k = g) w (putRow encStr (Sort.ahead w q) g 0 d) := by
  have := grownBy_sorted (w := w) (g := g) (n := q) (os := #[]) d
  rw [Sort.grow_empty] at this
  exact turned_of_grown this

theorem compactUpTo_len (d : Array (List UInt8)) : ∀ m, (Lib.compactUpTo d m).length ≤ m
  | 0 => by simp [Lib.compactUpTo]
  | m + 1 => by
    rw [Lib.compactUpTo_succ, List.length_append]
    have := compactUpTo_len d m
    split <;> simp <;> omega
theorem compact_len (zs : List (List UInt8)) : (Lib.compact zs).length ≤ zs.length := by
  have := compactUpTo_len zs.toArray zs.toArray.size
  simpa [Lib.compact] using this

theorem sort_own (g cap base : Nat) (ss : List (List UInt8)) (w : World) (hown : w.ownsRow base 9 1 (.slice (some ⟨g, 0, none⟩) ss.length cap) ss.length (ss.map encStr)) (h0 : 0 < ss.length) (hsz : ss.length < 4611686018427387904) :
    Calls Try.prog 171 #[.slice (some ⟨g, 0, none⟩) ss.length cap] w fun e w' => e = .returned (.tuple #[]) ∧ Turned (fun k => k = g) w w' ∧ ss.length ≤ cap ∧ base ≤ g ∧ g < w.heap.size ∧ Holds encStr w' g 0 (ss.mergeSort fun x y => decide (x ≤ y)).toArray := by
  rcases hown.2 with ⟨h, _⟩ | ⟨g', cap', cur, hv, hb, hblk, h1, h2, h3, h4⟩
  · cases h
  cases hv
  have hg : g < w.heap.size := (hown.lt g rfl).2
  have hH : Holds encStr w g 0 ss.toArray := holds_of_block hblk (by simpa using h4)
  refine (Any.slices_Sort_string Try.lays190 g 0 cap ss w hH hg hsz).mono ?_
  rintro e w' ⟨rfl, n, os, rfl⟩
  refine ⟨rfl, turned_of_grown (grownBy_sorted _), h1, hb, hg, ?_⟩
  exact Sort.holds_grow _ _ _ _ _ _ (by simpa using hg) (Sort.holds_putRow _ _ _ _ ss.toArray _ (Sort.holds_ahead _ _ _ _ _ _ hH) (by simp))

theorem compact_own (g cap : Nat) (zs : List (List UInt8)) (w : World) (hH : Holds encStr w g 0 zs.toArray) (hg : g < w.heap.size) (hsz : zs.length ≤ 9223372036854775807) (hcap : zs.length ≤ cap) :
    Calls Try.prog 172 #[.slice (some ⟨g, 0, none⟩) zs.length cap] w fun e w' => e = .returned (.slice (some ⟨g, 0, none⟩) (Lib.compact zs).length cap) ∧ Turned (fun k => k = g) w w' ∧ StrsIn w' (some ⟨g, 0, none⟩) ((Lib.compact zs).map baOf) ∧ Free w' (some ⟨g, 0, none⟩) (Lib.compact zs).length := by
  refine (Any.slices_Compact_string Try.lays194 g 0 cap zs w hH hsz hcap).mono ?_
  rintro e w' ⟨rfl, q, rfl⟩
  have hle : (Lib.compact zs).length ≤ zs.length := compact_len zs
  have hK := Sort.holds_putRow encStr (Sort.ahead w q) g 0 zs.toArray (Lib.compact zs ++ List.replicate (zs.length - (Lib.compact zs).length) []).toArray (Sort.holds_ahead _ _ _ _ _ _ hH) (by simp; omega)
  have hT := turned_put (w := w) (g := g) (q := q) (Lib.compact zs ++ List.replicate (zs.length - (Lib.compact zs).length) []).toArray
  refine ⟨rfl, hT, .inr ⟨g, 0, rfl, Nat.lt_of_lt_of_le hg hT.size, fun i hi => ?_⟩, .inr ⟨g, 0, rfl, Nat.lt_of_lt_of_le hg hT.size, fun i hi => ?_⟩⟩
  · have hi' : i < (Lib.compact zs).length := by simpa using hi
    have := (hK i (by simp; omega)).1
    rw [this, encStr_eq, getElem!_pos _ i (by simp; omega)]
    simp [hi']
  · have := hK i (by simp; omega)
    exact ⟨⟨_, this.1⟩, this.2⟩
end Go.Proofs.Ythjikcfpoomioaa
