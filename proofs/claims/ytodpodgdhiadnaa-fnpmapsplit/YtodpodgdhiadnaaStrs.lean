/- Slices of strings: their sizes, copies, equality and marks. -/
import Derived.Test.YtodpodgdhiadnaaMark
import Derived.Lib.QuietBelow
import Derived.Test.YtodpodgdhiadnaaVmOk
namespace Go.Proofs.Ytodpodgdhiadnaa
open Go.RowKit

/-- Of all that was there only these blocks may have turned. -/
structure Turned (S : Nat → Prop) (w w' : World) : Prop where
  os : w'.os = w.os
  tape : w'.tape = w.tape
  output : w'.output = w.output
  size : w.heap.size ≤ w'.heap.size
  block : ∀ k, k < w.heap.size → ¬ S k → w'.heap[k]? = w.heap[k]?
theorem Turned.refl (S : Nat → Prop) (w : World) : Turned S w w := ⟨rfl, rfl, rfl, Nat.le_refl _, fun _ _ _ => rfl⟩
theorem Turned.trans {S : Nat → Prop} {a b c : World} (h : Turned S a b) (k : Turned S b c) : Turned S a c :=
  ⟨k.os.trans h.os, k.tape.trans h.tape, k.output.trans h.output, Nat.le_trans h.size k.size, fun i hi hn => (k.block i (Nat.lt_of_lt_of_le hi h.size) hn).trans (h.block i hi hn)⟩
theorem Turned.mono {S T : Nat → Prop} {a b : World} (h : Turned S a b) (hs : ∀ k, k < a.heap.size → S k → T k) : Turned T a b := ⟨h.os, h.tape, h.output, h.size, fun k hk hn => h.block k hk (fun q => hn (hs k hk q))⟩
theorem Turned.of_below {S : Nat → Prop} {a b : World} (h : Below a.heap.size a b) : Turned S a b := ⟨h.os, h.tape, h.output, h.size, fun k hk _ => h.block k hk⟩
theorem Turned.setCell {S : Nat → Prop} {a w : World} (h : Turned S a w) {p : Addr} (hp : S p.block) (u : Value) : Turned S a (w.setCell p u) :=
  h.trans ⟨rfl, rfl, rfl, by simp [World.setCell], fun k _ hn => Below.heap_setCell _ _ _ _ (fun e => hn (e ▸ hp))⟩
theorem Turned.cell {S : Nat → Prop} {w w' : World} (h : Turned S w w') {p : Addr} (hp : p.block < w.heap.size) (hn : ¬ S p.block) : w'.cell? p = w.cell? p := World.cell?_of_block (w := w) (h.block p.block hp hn)
theorem Turned.frozen {S : Nat → Prop} {w w' : World} (h : Turned S w w') {p : Addr} (hp : p.block < w.heap.size) (hn : ¬ S p.block) : w'.frozen? p = w.frozen? p := World.frozen?_of_block (w := w) (h.block p.block hp hn)
theorem Turned.below {S : Nat → Prop} {w w' : World} {B : Nat} (h : Turned S w w') (hB : ∀ k, S k → B ≤ k) (hs : B ≤ w.heap.size) : Below B w w' := ⟨h.os, h.tape, h.output, h.size, fun k hk => h.block k (by omega) (fun q => by have := hB k q; omega)⟩

/-- A slice of strings, as it reads in u. -/
def StrsIn (u : World) (a : Option Addr) (ss : List ByteArray) : Prop :=
  ss = [] ∨ ∃ b off, a = some ⟨b, off, none⟩ ∧ b < u.heap.size ∧ ∀ i (h : i < ss.length), u.cell? ⟨b, off + i, none⟩ = some (.string ss[i])
theorem StrsIn.below {u v : World} {a : Option Addr} {ss : List ByteArray} (h : StrsIn u a ss) (hb : Below u.heap.size u v) : StrsIn v a ss := by
  rcases h with h | ⟨b, off, e, hlt, hc⟩
  · exact .inl h
  · exact .inr ⟨b, off, e, Nat.lt_of_lt_of_le hlt hb.size, fun i hi => (hb.cell (p := ⟨b, off + i, none⟩) hlt).trans (hc i hi)⟩
/-- This slice lies in no block of S. -/
def OffS (S : Nat → Prop) (a : Option Addr) : Prop := ∀ b off, a = some ⟨b, off, none⟩ → ¬ S b
theorem StrsIn.turned {S : Nat → Prop} {u v : World} {a : Option Addr} {ss : List ByteArray} (h : StrsIn u a ss) (ho : OffS S a) (ht : Turned S u v) : StrsIn v a ss := by
  rcases h with h | ⟨b, off, e, hlt, hc⟩
  · exact .inl h
  · exact .inr ⟨b, off, e, Nat.lt_of_lt_of_le hlt ht.size, fun i hi => (ht.cell (p := ⟨b, off + i, none⟩) hlt (ho b off e)).trans (hc i hi)⟩
/-- Its cells may be written. -/
def Free (u : World) (a : Option Addr) (n : Nat) : Prop := n = 0 ∨ ∃ b off, a = some ⟨b, off, none⟩ ∧ b < u.heap.size ∧ ∀ i, i < n → (∃ v, u.cell? ⟨b, off + i, none⟩ = some v) ∧ u.frozen? ⟨b, off + i, none⟩ = false
theorem Free.below {u v : World} {a : Option Addr} {n : Nat} (h : Free u a n) (hb : Below u.heap.size u v) : Free v a n := by
  rcases h with h | ⟨b, off, e, hlt, hc⟩
  · exact .inl h
  · exact .inr ⟨b, off, e, Nat.lt_of_lt_of_le hlt hb.size, fun i hi => ⟨by obtain ⟨x, hx⟩ := (hc i hi).1; exact ⟨x, (hb.cell (p := ⟨b, off + i, none⟩) hlt).trans hx⟩, (hb.frozen (p := ⟨b, off + i, none⟩) hlt).trans (hc i hi).2⟩⟩
theorem Free.turned {S : Nat → Prop} {u v : World} {a : Option Addr} {n : Nat} (h : Free u a n) (ho : OffS S a) (ht : Turned S u v) : Free v a n := by
  rcases h with h | ⟨b, off, e, hlt, hc⟩
  · exact .inl h
  · exact .inr ⟨b, off, e, Nat.lt_of_lt_of_le hlt ht.size, fun i hi => ⟨by obtain ⟨x, hx⟩ := (hc i hi).1; exact ⟨x, (ht.cell (p := ⟨b, off + i, none⟩) hlt (ho b off e)).trans hx⟩, (ht.frozen (p := ⟨b, off + i, none⟩) hlt (ho b off e)).trans (hc i hi).2⟩⟩

def lensTo (ss : List ByteArray) (k : Nat) : Nat := ((ss.take k).map fun s => s.size).sum
theorem lensTo_zero (ss : List ByteArray) : lensTo ss 0 = 0 := by simp [lensTo]
theorem lensTo_succ (ss : List ByteArray) (k : Nat) (h : k < ss.length) : lensTo ss (k + 1) = lensTo ss k + ss[k].size := by
  unfold lensTo
  rw [List.take_succ_eq_append_getElem h, List.map_append, List.sum_append]
  simp
def strsSize (ss : List ByteArray) : Nat := ss.length + lensTo ss ss.length

set_option maxHeartbeats 1000000 in
theorem szStringS_any (a : Option Addr) (ss : List ByteArray) (cap : Nat) (left : Int) (w : World) (hv : StrsIn w a ss) (ht : ∀ s ∈ ss, s.size ≤ maxLen) (hn : ss.length ≤ maxLen) (h0 : 0 ≤ left) (hl : left ≤ 1048576) :
    Calls Try.prog 104 #[.slice a ss.length cap, .int .i64 left] w (SzPost left (strsSize ss) w) := by
  unfold maxLen at hn
  have HV := Lib.hid hv
  have HT := Lib.hid ht
  clear hv ht
  by_cases h : left < ss.length
  · go_enter Try.func104, Try.ntmps104
    go_wp2_with fail
    go_ret
    exact ⟨-1, rfl, .inl rfl, Below.refl _ _⟩
  · go_enter Try.func104, Try.ntmps104
    go_wp2_with fail
    go_loop [1, 5] (fun l i => ∃ (k : Nat) (z : Int), k ≤ ss.length ∧ i = .int .i64 k ∧ l = .int .i64 z ∧ 0 ≤ z ∧ z + ss.length + lensTo ss k = left) (fun _ i => ss.length - (intOf i).toNat)
    case atStart => exact ⟨0, left - ss.length, Nat.zero_le _, rfl, rfl, by omega, by rw [lensTo_zero]; omega⟩
    case round =>
      obtain ⟨k, z, hk, rfl, rfl, hz0, hz⟩ := hrel
      have HZ := Lib.hid hz
      have hzl : z ≤ 1048576 := by omega
      clear hz
      by_cases hlt : k < ss.length
      · rcases HV.out with hnil | ⟨b, off, rfl, hb, hc⟩
        · rw [hnil] at hlt; simp at hlt
        · have c0 := hc k hlt
          have hsz := HT.out _ (List.getElem_mem hlt)
          unfold maxLen at hsz
          clear hc
          by_cases hov : z < ss[k].size
          · go_wp2_with fail
            go_ret
            exact ⟨-1, rfl, .inl rfl, Below.refl _ _⟩
          · go_wp2_with fail
            go_round
            case rel => exact ⟨k + 1, z - ss[k].size, by omega, by go_num, rfl, by omega, by rw [lensTo_succ ss k hlt]; have := HZ.out; omega⟩
            case measure => simp [intOf]; omega
      · go_wp2_with fail
        go_ret
        obtain rfl : k = ss.length := by omega
        exact ⟨z, rfl, .inr ⟨hz0, by unfold strsSize; have := HZ.out; omega⟩, Below.refl _ _⟩

theorem infoStr : (Try.prog.info? 9).map (fun i => (i.zero, i.size, i.bytes)) = some (some (.string ⟨#[]⟩), 1, 16) := by kernel_rfl
theorem run_make_strs (n : Nat) (hn : n ≤ 1048576) (w : World) :
    (Instr.makeSlice 53 (.int .i64 (n : Int)) (.int .i64 (n : Int))).run Try.prog w = .ok (.slice (some ⟨w.heap.size, 0, none⟩) n n) (w.alloc (.cells (madeCells #[.string ⟨#[]⟩] n) 9)) := by
  obtain ⟨i, hi, hzz⟩ := Option.map_eq_some_iff.1 infoStr
  simp only [Prod.mk.injEq] at hzz
  obtain ⟨hz, hs, hb⟩ := hzz
  have := run_make (w := w) (P := Try.prog) 53 9 i _ Try.underlying53 hi hz .i64 .i64 (n : Int) (n : Int) (by omega) (Int.le_refl _) (by rw [hb]; omega) (by omega)
  rw [hs] at this
  simpa [Value.cells] using this

/-- The first k strings have been copied into block g. -/
def StrRow (g : Nat) (ss : List ByteArray) (k : Nat) (u : World) : Prop := ∀ i (h : i < ss.length), i < k → u.cell? ⟨g, i, none⟩ = some (.string ss[i])
def ToStrs (ss : List ByteArray) (w : World) (e : Ending) (w' : World) : Prop :=
  e = .returned (.slice (some ⟨w.heap.size, 0, none⟩) ss.length ss.length) ∧ StrsIn w' (some ⟨w.heap.size, 0, none⟩) ss ∧ Free w' (some ⟨w.heap.size, 0, none⟩) ss.length ∧ Below w.heap.size w w'

set_option maxHeartbeats 2000000 in
theorem toStringS_any (a : Option Addr) (ss : List ByteArray) (cap : Nat) (w : World) (hv : StrsIn w a ss) (hn : ss.length ≤ 1048576) :
    Calls Try.prog 107 #[.slice a ss.length cap] w (ToStrs ss w) := by
  have HV := Lib.hid hv
  clear hv
  have hmk := run_make_strs ss.length hn
  go_enter Try.func107, Try.ntmps107
  go_wp2_with fail
  go_loopw [4] (fun i wr => ∃ k : Nat, k ≤ ss.length ∧ i = .int .i64 k ∧ Below w.heap.size w wr ∧ Row w.heap.size ss.length wr ∧ StrRow w.heap.size ss k wr) (fun i _ => ss.length - (intOf i).toNat)
  case atStart => exact ⟨0, Nat.zero_le _, rfl, (Below.refl _ _).alloc (Nat.le_refl _) _, Row.made _ _ _ w, fun _ _ h => absurd h (by omega)⟩
  case round =>
    obtain ⟨k, hk, rfl, hB, hR, hP⟩ := hrel
    have HW := Lib.hid hB
    have HR := Lib.hid hR
    have HP := Lib.hid hP
    clear hB hR hP hmk
    by_cases hlt : k < ss.length
    · rcases HV.out.below HW.out with hnil | ⟨b1, o1, rfl, hb1, hc1⟩
      · rw [hnil] at hlt; simp at hlt
      have c0 := hc1 k hlt
      obtain ⟨v0, d0⟩ := (HR.out.2 k hlt).1
      have f0 := (HR.out.2 k hlt).2
      clear hc1
      go_wp2_with fail
      go_roundw
      case rel => exact ⟨k + 1, by omega, by go_num, HW.out.setCell (p := ⟨w.heap.size, k, none⟩) (Nat.le_refl _) _, HR.out.set, fun i hi hik => by
        by_cases e : i = k
        · subst e; exact World.cell?_setCell_same _ _ _ d0
        · rw [cell_off (by omega)]; exact HP.out i hi (by omega)⟩
      case measure => simp [intOf]; omega
    · go_wp2_with fail
      go_ret
      obtain rfl : k = ss.length := by omega
      refine ⟨rfl, .inr ⟨w.heap.size, 0, rfl, HR.out.1, fun i hi => ?_⟩, .inr ⟨w.heap.size, 0, rfl, HR.out.1, fun i hi => ?_⟩, HW.out⟩
      · have := HP.out i hi hi
        simpa using this
      · have := HR.out.2 i hi
        simpa using this

set_option maxHeartbeats 2000000 in
theorem eqStringS_same (a b : Option Addr) (ss : List ByteArray) (ca cb : Nat) (w : World) (ha : StrsIn w a ss) (hb : StrsIn w b ss) (hn : ss.length ≤ maxLen) :
    Calls Try.prog 112 #[.slice a ss.length ca, .slice b ss.length cb] w fun e w' => e = .returned (.bool true) ∧ Below w.heap.size w w' := by
  unfold maxLen at hn
  have HA := Lib.hid ha
  have HB := Lib.hid hb
  clear ha hb
  go_enter Try.func112, Try.ntmps112
  go_wp2_with fail
  go_loopw [5] (fun i wr => ∃ k : Nat, k ≤ ss.length ∧ i = .int .i64 k ∧ Below w.heap.size w wr) (fun i _ => ss.length - (intOf i).toNat)
  case atStart => exact ⟨0, Nat.zero_le _, rfl, Below.refl _ _⟩
  case round =>
    obtain ⟨k, hk, rfl, hB⟩ := hrel
    have HW := Lib.hid hB
    clear hB
    by_cases hlt : k < ss.length
    · rcases HA.out.below HW.out with hnil | ⟨b1, o1, rfl, hb1, hc1⟩
      · rw [hnil] at hlt; simp at hlt
      rcases HB.out.below HW.out with hnil | ⟨b2, o2, rfl, hb2, hc2⟩
      · rw [hnil] at hlt; simp at hlt
      have c0 := hc1 k hlt
      have d0 := hc2 k hlt
      clear hc1 hc2
      go_wp2_with fail
      go_quiet (fail)
      go_wp2_with fail
      go_roundw
      case rel => exact ⟨k + 1, by omega, by go_num, Below.drewN HW.out _⟩
      case measure => simp [intOf]; omega
    · go_wp2_with fail
      go_ret
      exact ⟨rfl, HW.out⟩
end Go.Proofs.Ytodpodgdhiadnaa
