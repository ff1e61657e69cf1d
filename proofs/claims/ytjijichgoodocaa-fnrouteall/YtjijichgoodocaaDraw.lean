/- Contracts of the reader that draws inputs: 'pick' hands back a number below its bound, 'of' one of its list; only the reader's own place moves on. -/
import Derived.Test.YtjijichgoodocaaRows
import Derived.WalkKit
import Derived.WalkSpells
import Derived.WalkLawsBesides
import Derived.Lib.Hide
import Derived.Deep.QuietTactic
import Derived.BigQuiet
import Derived.IntWalk
namespace Go.Proofs.Ytjijichgoodocaa
open Go.RowKit

/-- Only block rb, of all that was there, may have turned. -/
structure Only (rb : Nat) (w w' : World) : Prop where
  os : w'.os = w.os
  tape : w'.tape = w.tape
  output : w'.output = w.output
  size : w.heap.size ≤ w'.heap.size
  block : ∀ k, k < w.heap.size → k ≠ rb → w'.heap[k]? = w.heap[k]?
theorem Only.refl (rb : Nat) (w : World) : Only rb w w := ⟨rfl, rfl, rfl, Nat.le_refl _, fun _ _ _ => rfl⟩
theorem Only.trans {rb : Nat} {a b c : World} (h : Only rb a b) (k : Only rb b c) : Only rb a c :=
  ⟨k.os.trans h.os, k.tape.trans h.tape, k.output.trans h.output, Nat.le_trans h.size k.size, fun i hi hn => (k.block i (Nat.lt_of_lt_of_le hi h.size) hn).trans (h.block i hi hn)⟩
theorem Only.drew {rb : Nat} {a w : World} (h : Only rb a w) : Only rb a w.drew := ⟨h.os, h.tape, h.output, h.size, h.block⟩
theorem Only.of_below {rb : Nat} {a w : World} (h : Below a.heap.size a w) : Only rb a w := ⟨h.os, h.tape, h.output, h.size, fun k hk _ => h.block k hk⟩
theorem Only.setCell {rb : Nat} {a w : World} (h : Only rb a w) {p : Addr} (hp : p.block = rb) (u : Value) : Only rb a (w.setCell p u) :=
  h.trans ⟨rfl, rfl, rfl, by simp [World.setCell], fun k _ hn => Below.heap_setCell _ _ _ _ (by omega)⟩
theorem Only.cell {rb : Nat} {w w' : World} (h : Only rb w w') {p : Addr} (hp : p.block < w.heap.size) (hn : p.block ≠ rb) : w'.cell? p = w.cell? p := World.cell?_of_block (w := w) (h.block p.block hp hn)
theorem Only.frozen {rb : Nat} {w w' : World} (h : Only rb w w') {p : Addr} (hp : p.block < w.heap.size) (hn : p.block ≠ rb) : w'.frozen? p = w.frozen? p := World.frozen?_of_block (w := w) (h.block p.block hp hn)
theorem Only.below {rb : Nat} {w w' : World} {B : Nat} (h : Only rb w w') (hB : B ≤ rb) (hs : B ≤ w.heap.size) : Below B w w' := ⟨h.os, h.tape, h.output, h.size, fun k hk => h.block k (by omega) (by omega)⟩
theorem Only.drewN {rb : Nat} {a w : World} (h : Only rb a w) (n : Nat) : Only rb a (w.drewN n) := ⟨h.os, h.tape, h.output, h.size, h.block⟩

theorem ofInt_i64 (a : Nat) (ha : a < 4294967296) : (BitVec.ofInt 64 (a : Int)).toNat = a := by
  rw [BitVec.ofInt_natCast, BitVec.toNat_ofNat]; exact Nat.mod_eq_of_lt (by omega)
theorem xor_nat (a b : Nat) (ha : a < 4294967296) (hb : b < 4294967296) : bits .xor .i64 (a : Int) (b : Int) = ((a ^^^ b : Nat) : Int) := by
  have hx : a ^^^ b < 2 ^ 32 := Nat.xor_lt_two_pow (by omega) (by omega)
  show IntKind.i64.wrap ((BitVec.ofInt 64 (a : Int) ^^^ BitVec.ofInt 64 (b : Int)).toNat : Int) = _
  rw [BitVec.toNat_xor, ofInt_i64 a ha, ofInt_i64 b hb]
  exact IntWalk.i64_in _ (by omega)
theorem xor_pos (a b : Int) (h1 : 0 ≤ a) (h2 : a < 4294967296) (h3 : 0 ≤ b) (h4 : b < 4294967296) : 0 ≤ bits .xor .i64 a b := by
  obtain ⟨A, rfl⟩ := Int.eq_ofNat_of_zero_le h1
  obtain ⟨B, rfl⟩ := Int.eq_ofNat_of_zero_le h3
  rw [xor_nat A B (by omega) (by omega)]; omega

/-- The reader at block rb: the bytes that it reads, and its place p. -/
def RdAt (rb p : Nat) (w : World) : Prop :=
  ∃ (sa : Option Addr) (len cap : Nat) (zs : List Int),
    w.cell? ⟨rb, 0, none⟩ = some (.slice sa len cap) ∧ w.cell? ⟨rb, 1, none⟩ = some (.int .i64 p) ∧ w.frozen? ⟨rb, 1, none⟩ = false ∧ rb < w.heap.size ∧ len ≤ 2000 ∧
    (len = 0 ∨ ∃ b off, sa = some ⟨b, off, none⟩ ∧ b < rb ∧ ∀ i, i < len → w.cell? ⟨b, off + i, none⟩ = some (.int .u8 (zs.getD i 0)) ∧ 0 ≤ zs.getD i 0 ∧ zs.getD i 0 ≤ 255)

theorem RdAt.next {rb p : Nat} {w : World} (h : RdAt rb p w) : RdAt rb (p + 1) (w.setCell ⟨rb, 1, none⟩ (.int .i64 ((p : Int) + 1))) := by
  obtain ⟨sa, len, cap, zs, h1, h2, h3, h4, h5, h6⟩ := h
  have ho : Only rb w (w.setCell ⟨rb, 1, none⟩ (.int .i64 ((p : Int) + 1))) := (Only.refl _ _).setCell (p := ⟨rb, 1, none⟩) rfl _
  refine ⟨sa, len, cap, zs, by simp [go_sem, h1], by simp [go_sem, h2], by simp [go_sem, h3], Nat.lt_of_lt_of_le h4 ho.size, h5, ?_⟩
  rcases h6 with h6 | ⟨b, off, e, hn, hz⟩
  · exact .inl h6
  · refine .inr ⟨b, off, e, hn, fun i hi => ?_⟩
    rw [ho.cell (p := ⟨b, off + i, none⟩) (Nat.lt_trans hn h4) (Nat.ne_of_lt hn)]
    exact hz i hi
theorem RdAt.drew {rb p : Nat} {w : World} (h : RdAt rb p w) : RdAt rb p w.drew := h
theorem RdAt.drewN {rb p : Nat} {w : World} (h : RdAt rb p w) (n : Nat) : RdAt rb p (w.drewN n) := h
theorem RdAt.below {rb p : Nat} {w w' : World} (h : RdAt rb p w) (hb : Below w.heap.size w w') : RdAt rb p w' := by
  obtain ⟨sa, len, cap, zs, h1, h2, h3, h4, h5, h6⟩ := h
  refine ⟨sa, len, cap, zs, by rw [hb.cell (p := ⟨rb, 0, none⟩) h4, h1], by rw [hb.cell (p := ⟨rb, 1, none⟩) h4, h2], by rw [hb.frozen (p := ⟨rb, 1, none⟩) h4, h3], Nat.lt_of_lt_of_le h4 hb.size, h5, ?_⟩
  rcases h6 with h6 | ⟨b, off, e, hn, hz⟩
  · exact .inl h6
  · refine .inr ⟨b, off, e, hn, fun i hi => ?_⟩
    rw [hb.cell (p := ⟨b, off + i, none⟩) (Nat.lt_trans hn h4)]
    exact hz i hi
/-- A store into a block that was made behind the reader. -/
theorem RdAt.setNew {rb p : Nat} {w : World} (h : RdAt rb p w) {a : Addr} (ha : rb < a.block) (u : Value) : RdAt rb p (w.setCell a u) := by
  obtain ⟨sa, len, cap, zs, h1, h2, h3, h4, h5, h6⟩ := h
  have hb : Below (rb + 1) w (w.setCell a u) := (Below.refl _ _).setCell ha _
  refine ⟨sa, len, cap, zs, by rw [hb.cell (p := ⟨rb, 0, none⟩) (Nat.lt_succ_self _), h1], by rw [hb.cell (p := ⟨rb, 1, none⟩) (Nat.lt_succ_self _), h2], by rw [hb.frozen (p := ⟨rb, 1, none⟩) (Nat.lt_succ_self _), h3], Nat.lt_of_lt_of_le h4 hb.size, h5, ?_⟩
  rcases h6 with h6 | ⟨b, off, e, hn, hz⟩
  · exact .inl h6
  · refine .inr ⟨b, off, e, hn, fun i hi => ?_⟩
    rw [hb.cell (p := ⟨b, off + i, none⟩) (Nat.lt_succ_of_lt hn)]
    exact hz i hi
theorem Only.setNew {rb : Nat} {a w : World} (h : Only rb a w) {p : Addr} (hp : a.heap.size ≤ p.block) (u : Value) : Only rb a (w.setCell p u) :=
  ⟨h.os, h.tape, h.output, Nat.le_trans h.size (by simp [World.setCell]), fun k hk hn => (Below.heap_setCell w p u k (by omega)).trans (h.block k hk hn)⟩
theorem Only.alloc {rb : Nat} {a w : World} (h : Only rb a w) (o : Obj) : Only rb a (w.alloc o) :=
  h.trans (Only.of_below ((Below.refl _ _).alloc (Nat.le_refl _) _))
theorem RdAt.alloc {rb p : Nat} {w : World} (h : RdAt rb p w) (o : Obj) : RdAt rb p (w.alloc o) := h.below ((Below.refl _ _).alloc (Nat.le_refl _) _)
theorem RdAt.lt {rb p : Nat} {w : World} (h : RdAt rb p w) : rb < w.heap.size := by
  obtain ⟨sa, len, cap, zs, h1, h2, h3, h4, h5, h6⟩ := h; exact h4

def SomeBelow (m : Int) (rb p : Nat) (w : World) (e : Ending) (w' : World) : Prop := ∃ n : Int, 0 ≤ n ∧ n < m ∧ e = .returned (.int .i64 n) ∧ RdAt rb p w' ∧ Only rb w w'

set_option maxRecDepth 100000 in
set_option maxHeartbeats 1000000 in
theorem pick_empty (rb p : Nat) (m : Int) (w : World) (sa : Option Addr) (cap : Nat) (h : RdAt rb p w) (hp : p < 1000000) (hm : 1 ≤ m)
    (c0 : w.cell? ⟨rb, 0, none⟩ = some (.slice sa 0 cap)) (c1 : w.cell? ⟨rb, 1, none⟩ = some (.int .i64 p)) (c2 : w.frozen? ⟨rb, 1, none⟩ = false) :
    Calls Try.prog 75 #[.pointer (some ⟨rb, 0, none⟩), .int .i64 m] w (SomeBelow m rb (p + 1) w) := by
  have hfin := Lib.hid h.next
  clear h
  go_enter Try.func75, Try.ntmps75
  go_wp2
  go_ret
  exact ⟨0, by omega, by omega, rfl, hfin.out, (Only.refl _ _).setCell (p := ⟨rb, 1, none⟩) rfl _⟩

set_option maxRecDepth 100000 in
set_option maxHeartbeats 1000000 in
theorem pick_in (rb p : Nat) (m : Int) (w : World) (b off len cap : Nat) (z : Int) (h : RdAt rb p w) (hp : p < 1000000) (hm : 1 ≤ m) (hm2 : m ≤ 1000000)
    (c0 : w.cell? ⟨rb, 0, none⟩ = some (.slice (some ⟨b, off, none⟩) len cap)) (c1 : w.cell? ⟨rb, 1, none⟩ = some (.int .i64 p)) (c2 : w.frozen? ⟨rb, 1, none⟩ = false) (hlt : p < len)
    (cz : (w.setCell ⟨rb, 1, none⟩ (.int .i64 ((p : Int) + 1))).cell? ⟨b, off + p, none⟩ = some (.int .u8 z)) (z0 : 0 ≤ z) (z1 : z ≤ 255) :
    Calls Try.prog 75 #[.pointer (some ⟨rb, 0, none⟩), .int .i64 m] w (SomeBelow m rb (p + 1) w) := by
  have hfin := Lib.hid h.next
  clear h
  have hne : ((len : Int) == 0) = false := by simp; omega
  go_enter Try.func75, Try.ntmps75
  go_wp2
  go_ret
  exact ⟨z % m, Int.emod_nonneg _ (by omega), Int.emod_lt_of_pos _ (by omega), rfl, hfin.out, (Only.refl _ _).setCell (p := ⟨rb, 1, none⟩) rfl _⟩

set_option maxRecDepth 100000 in
set_option maxHeartbeats 1000000 in
theorem pick_past (rb p : Nat) (m : Int) (w : World) (b off len cap : Nat) (z y : Int) (h : RdAt rb p w) (hp : p < 1000000) (hm : 1 ≤ m) (hm2 : m ≤ 1000000)
    (c0 : w.cell? ⟨rb, 0, none⟩ = some (.slice (some ⟨b, off, none⟩) len cap)) (c1 : w.cell? ⟨rb, 1, none⟩ = some (.int .i64 p)) (c2 : w.frozen? ⟨rb, 1, none⟩ = false) (hl : len ≤ 2000) (h0 : 0 < len) (hlt : ¬ p < len)
    (cz : (w.setCell ⟨rb, 1, none⟩ (.int .i64 ((p : Int) + 1))).cell? ⟨b, off + p % len, none⟩ = some (.int .u8 z)) (z0 : 0 ≤ z) (z1 : z ≤ 255)
    (cy : (w.setCell ⟨rb, 1, none⟩ (.int .i64 ((p : Int) + 1))).cell? ⟨b, off + (p * 7 + 3) % len, none⟩ = some (.int .u8 y)) (y0 : 0 ≤ y) (y1 : y ≤ 255) :
    Calls Try.prog 75 #[.pointer (some ⟨rb, 0, none⟩), .int .i64 m] w (SomeBelow m rb (p + 1) w) := by
  have hfin := Lib.hid h.next
  clear h
  have hne : ((len : Int) == 0) = false := by simp; omega
  have hn1 : ¬ (len : Int) = 0 := by omega
  have hn2 : ¬ len = 0 := by omega
  have t1 : (p : Int).tmod (len : Int) = ((p % len : Nat) : Int) := by rw [Int.tmod_eq_emod_of_nonneg (by omega)]; simp
  have t2 : ((p : Int) * 7 + 3).tmod (len : Int) = (((p * 7 + 3) % len : Nat) : Int) := by rw [Int.tmod_eq_emod_of_nonneg (by omega)]; simp
  have t3 : (p : Int).tdiv (len : Int) = ((p / len : Nat) : Int) := by rw [Int.tdiv_eq_ediv_of_nonneg (by omega)]; simp
  have b1 : p % len < len := Nat.mod_lt _ h0
  have b2 : (p * 7 + 3) % len < len := Nat.mod_lt _ h0
  have b3 : p / len ≤ p := Nat.div_le_self _ _
  generalize p % len = k1 at *
  generalize (p * 7 + 3) % len = k2 at *
  generalize p / len = k3 at *
  have a1 : (0 : Int) ≤ (k1 : Int) := by omega
  have a2 : (0 : Int) ≤ (k2 : Int) := by omega
  have a3 : (k1 : Int) < (len : Int) := by omega
  have a4 : (k2 : Int) < (len : Int) := by omega
  have w1 : IntKind.i64.wrap ((p : Int) * 7) = (p : Int) * 7 := IntWalk.i64_in _ (by omega)
  have w2 : IntKind.i64.wrap ((p : Int) * 7 + 3) = (p : Int) * 7 + 3 := IntWalk.i64_in _ (by omega)
  have w3 : IntKind.i64.wrap (z * 131) = z * 131 := IntWalk.i64_in _ (by omega)
  have w4 : IntKind.i64.wrap (y * 1117) = y * 1117 := IntWalk.i64_in _ (by omega)
  have w5 : IntKind.i64.wrap (z * 131 + y * 1117) = z * 131 + y * 1117 := IntWalk.i64_in _ (by omega)
  have w6 : IntKind.i64.wrap ((p : Int) * 29) = (p : Int) * 29 := IntWalk.i64_in _ (by omega)
  have w7 : IntKind.i64.wrap (z * 131 + y * 1117 + (p : Int) * 29) = z * 131 + y * 1117 + (p : Int) * 29 := IntWalk.i64_in _ (by omega)
  have w8 : IntKind.i64.wrap ((k3 : Int) * 53) = (k3 : Int) * 53 := IntWalk.i64_in _ (by omega)
  have w9 : IntKind.i64.wrap (z * 131 + y * 1117 + (p : Int) * 29 + (k3 : Int) * 53) = z * 131 + y * 1117 + (p : Int) * 29 + (k3 : Int) * 53 := IntWalk.i64_in _ (by omega)
  go_enter Try.func75, Try.ntmps75
  go_wp2
  go_quiet (fail)
  have x0 : 0 ≤ z * 131 + y * 1117 + (p : Int) * 29 + (k3 : Int) * 53 := by omega
  have x1 : z * 131 + y * 1117 + (p : Int) * 29 + (k3 : Int) * 53 < 4294967296 := by omega
  clear w1 w2 w3 w4 w5 w6 w7 w8 w9 t1 t2 t3 b1 b2 b3 a1 a2 a3 a4
  generalize z * 131 + y * 1117 + (p : Int) * 29 + (k3 : Int) * 53 = x at *
  have x2 : 0 ≤ x / 64 := by omega
  have x3 : x / 64 < 4294967296 := by omega
  have x4 := xor_pos x (x / 64) x0 x1 x2 x3
  go_wp2
  go_ret
  exact ⟨_, Int.emod_nonneg _ (by omega), Int.emod_lt_of_pos _ (by omega), rfl, hfin.out.drewN _, ((Only.refl _ _).setCell (p := ⟨rb, 1, none⟩) rfl _).drewN _⟩

theorem pick_any (rb p : Nat) (m : Int) (w : World) (h : RdAt rb p w) (hp : p < 1000000) (hm : 1 ≤ m) (hm2 : m ≤ 1000000) :
    Calls Try.prog 75 #[.pointer (some ⟨rb, 0, none⟩), .int .i64 m] w (SomeBelow m rb (p + 1) w) := by
  have h' := h
  obtain ⟨sa, len, cap, zs, h1, h2, h3, h4, h5, h6⟩ := h
  by_cases hz : len = 0
  · subst hz
    exact pick_empty rb p m w sa cap h' hp hm h1 h2 h3
  · rcases h6 with h6 | ⟨b, off, rfl, hn0, hc⟩
    · exact absurd h6 hz
    · have hn : b ≠ rb := Nat.ne_of_lt hn0
      have hb : b < w.heap.size := Nat.lt_trans hn0 h4
      have ho : Only rb w (w.setCell ⟨rb, 1, none⟩ (.int .i64 ((p : Int) + 1))) := (Only.refl _ _).setCell (p := ⟨rb, 1, none⟩) rfl _
      by_cases hlt : p < len
      · obtain ⟨q1, q2, q3⟩ := hc p hlt
        exact pick_in rb p m w b off len cap _ h' hp hm hm2 h1 h2 h3 hlt ((ho.cell (p := ⟨b, off + p, none⟩) hb hn).trans q1) q2 q3
      · obtain ⟨q1, q2, q3⟩ := hc (p % len) (Nat.mod_lt _ (by omega))
        obtain ⟨r1, r2, r3⟩ := hc ((p * 7 + 3) % len) (Nat.mod_lt _ (by omega))
        exact pick_past rb p m w b off len cap _ _ h' hp hm hm2 h1 h2 h3 h5 (by omega) hlt ((ho.cell (p := ⟨b, off + p % len, none⟩) hb hn).trans q1) q2 q3 ((ho.cell (p := ⟨b, off + (p * 7 + 3) % len, none⟩) hb hn).trans r1) r2 r3
end Go.Proofs.Ytjijichgoodocaa
