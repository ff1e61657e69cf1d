/- Contracts of the ends of spans, and of SpanMeet, the program's and the model's. -/
import Derived.Test.YtjijichgoodocaaMeetP
namespace Go.Proofs.Ytjijichgoodocaa
open Go.RowKit

theorem run_max_keep {P : Program} (ts : Array TypeId) (t : TypeId) (x y : ByteArray) (h : Op.bytesLess x.toList y.toList = false) (w : World) : (Builtin.max_ ts t #[.string x, .string y]).run P w = .ok (.string x) w := by
  simp [Builtin.max_, Builtin.max2, Op.stringOp, h, go_sem]
theorem run_max_turn {P : Program} (ts : Array TypeId) (t : TypeId) (x y : ByteArray) (h : Op.bytesLess x.toList y.toList = true) (w : World) : (Builtin.max_ ts t #[.string x, .string y]).run P w = .ok (.string y) w := by
  simp [Builtin.max_, Builtin.max2, Op.stringOp, h, go_sem]

set_option maxHeartbeats 400000 in
theorem open_first (other : Value) (w : World) :
    Calls Try.prog 247 #[.agg #[], other] w fun e w' => e = .returned other ∧ Below w.heap.size w w' := by
  go_enter Try.func247, Try.ntmps247
  go_wp2
  go_ret
  exact ⟨rfl, (Below.refl _ _).alloc (Nat.le_refl _) _⟩
set_option maxHeartbeats 400000 in
theorem open_high (w : World) :
    Calls Try.prog 248 #[.agg #[]] w fun e w' => e = .returned (.string ⟨#[]⟩) ∧ Below w.heap.size w w' := by
  go_enter Try.func248, Try.ntmps248
  go_wp2
  go_ret
  exact ⟨rfl, (Below.refl _ _).alloc (Nat.le_refl _) _⟩
set_option maxHeartbeats 400000 in
theorem key_high (e1 : ByteArray) (w : World) :
    Calls Try.prog 251 #[.string e1] w fun e w' => e = .returned (.string e1) ∧ Below w.heap.size w w' := by
  go_enter Try.func251, Try.ntmps251
  go_wp2
  go_ret
  exact ⟨rfl, Below.refl _ _⟩
set_option maxHeartbeats 400000 in
theorem key_first_open (e1 : ByteArray) (w : World) :
    Calls Try.prog 250 #[.string e1, .iface 182 (.agg #[])] w fun e w' => e = .returned (.iface 183 (.string e1)) ∧ Below w.heap.size w w' := by
  have mk := meth_behind_open
  go_enter Try.func250, Try.ntmps250
  go_wp2_with (go_at_call 246; refine (open_behind _ _).mono ?_; rintro e w'' ⟨rfl, hb2⟩)
  go_ret
  exact ⟨rfl, hb2⟩
set_option maxHeartbeats 400000 in
theorem key_first_mine (e1 e2 : ByteArray) (w : World) (h : Op.bytesLess e1.toList e2.toList = true) :
    Calls Try.prog 250 #[.string e1, .iface 183 (.string e2)] w fun e w' => e = .returned (.iface 183 (.string e1)) ∧ Below w.heap.size w w' := by
  have mk := meth_behind_key e2
  go_enter Try.func250, Try.ntmps250
  go_wp2_with (go_at_call 249; refine (key_behind _ _ _).mono ?_; rintro e w' ⟨rfl, rfl⟩)
  go_ret
  exact ⟨rfl, Below.refl _ _⟩
set_option maxHeartbeats 400000 in
theorem key_first_other (e1 e2 : ByteArray) (w : World) (h : Op.bytesLess e1.toList e2.toList = false) :
    Calls Try.prog 250 #[.string e1, .iface 183 (.string e2)] w fun e w' => e = .returned (.iface 183 (.string e2)) ∧ Below w.heap.size w w' := by
  have mk := meth_behind_key e2
  go_enter Try.func250, Try.ntmps250
  go_wp2_with (go_at_call 249; refine (key_behind _ _ _).mono ?_; rintro e w' ⟨rfl, rfl⟩)
  go_ret
  exact ⟨rfl, Below.refl _ _⟩

theorem meth_first_key (e1 : ByteArray) (w : World) : (method 374 183 (.string e1) "loop.example/cadastre/impl.first").run Try.prog w = .ok (250, .string e1) w := by kernel_rfl
theorem nil_first_key (e1 : ByteArray) (w : World) : (nilAhead 374 183 (.string e1) "loop.example/cadastre/impl.first").run Try.prog w = .ok (some false) w := by kernel_rfl
theorem nil_first_open (w : World) : (nilAhead 374 182 (.agg #[]) "loop.example/cadastre/impl.first").run Try.prog w = .ok (some false) w := by kernel_rfl
theorem meth_first_open (w : World) : (method 374 182 (.agg #[]) "loop.example/cadastre/impl.first").run Try.prog w = .ok (247, .agg #[]) w := by kernel_rfl
theorem meth_high_key (e1 : ByteArray) (w : World) : (method 374 183 (.string e1) "loop.example/cadastre/impl.high").run Try.prog w = .ok (251, .string e1) w := by kernel_rfl
theorem meth_high_open (w : World) : (method 374 182 (.agg #[]) "loop.example/cadastre/impl.high").run Try.prog w = .ok (248, .agg #[]) w := by kernel_rfl

def CallIs (f : Nat) (args : Array Value) (v : Value) : Prop := ∀ w : World, Calls Try.prog f args w fun e w' => e = .returned v ∧ Below w.heap.size w w'
theorem CallIs.call {f : Nat} {args : Array Value} {v : Value} (h : CallIs f args v) (w : World) : Calls Try.prog f args w fun e w' => e = .returned v ∧ Below w.heap.size w w' := h w
def lowM (x y : ByteArray) : ByteArray := if Op.bytesLess x.toList y.toList = true then y else x
def highM (x y : ByteArray) : ByteArray := if x.toList.isEmpty = true then y else if y.toList.isEmpty = true then x else if Op.bytesLess y.toList x.toList = true then y else x

/-- A box of two cells behind a region: where it lies, what it holds; nothing that was there turned. -/
def AfterOne (w0 : World) (x1 x2 : Value) (s6 : Value) (u : World) : Prop :=
  ∃ g : Nat, s6 = .pointer (some ⟨g, 0, none⟩) ∧ u.cell? ⟨g, 0, none⟩ = some x1 ∧ u.cell? ⟨g, 1, none⟩ = some x2 ∧ g < u.heap.size ∧ w0.heap.size ≤ g ∧ Below w0.heap.size w0 u

theorem oneA {n : Nat} {w u : World} {a1 a2 b1 b2 : Value} {x1 x2 : ByteArray} {t : TypeId} (h : (u).cell? ⟨n, 0, none⟩ = some a1 ∧ (u).cell? ⟨n, 1, none⟩ = some a2 ∧ (u).cell? ⟨n + 1, 0, none⟩ = some b1 ∧ (u).cell? ⟨n + 1, 1, none⟩ = some b2 ∧ n < (u).heap.size ∧ n + 1 < (u).heap.size ∧ Below w.heap.size w (u)) :
    AfterOne w (.string x1) (.string x2) (.pointer (some ⟨u.heap.size, 0, none⟩)) (u.alloc (.cells #[.string x1, .string x2] t)) :=
  ⟨_, rfl, by simp, by simp, by simp, h.2.2.2.2.2.2.size, h.2.2.2.2.2.2.alloc h.2.2.2.2.2.2.size _⟩
theorem oneB {n g : Nat} {w u : World} {a1 a2 b1 b2 z0 z1 : Value} {x1 x2 : ByteArray} (h : (u).cell? ⟨n, 0, none⟩ = some a1 ∧ (u).cell? ⟨n, 1, none⟩ = some a2 ∧ (u).cell? ⟨n + 1, 0, none⟩ = some b1 ∧ (u).cell? ⟨n + 1, 1, none⟩ = some b2 ∧ n < (u).heap.size ∧ n + 1 < (u).heap.size ∧ Below w.heap.size w (u)) (hn : n + 1 < w.heap.size) (hg : w.heap.size ≤ g) (z : Zr z0 z1 g u) :
    AfterOne w (.string x1) (.string x2) (.pointer (some ⟨g, 0, none⟩)) ((u.setCell ⟨g, 0, none⟩ (.string x1)).setCell ⟨g, 1, none⟩ (.string x2)) := by
  have q := keepSet (x := .string x1) (y := .string x2) h hn hg
  have c0 := z.c0
  have c1 := z.c1
  have hz := z.lt
  exact ⟨_, rfl, by simp [go_sem, c0], by simp [go_sem, c1], by simpa using hz, hg, q.2.2.2.2.2.2⟩

def MeetPost (lo hi : ByteArray) (w : World) (e : Ending) (w' : World) : Prop :=
  e = .returned (bif spanOkB lo hi then .tuple #[.agg #[.string lo, .string hi], .bool true] else .tuple #[.agg #[.string ⟨#[]⟩, .string ⟨#[]⟩], .bool false]) ∧ Below w.heap.size w w'

set_option maxHeartbeats 4000000 in
theorem meet_gen (a1 a2 b1 b2 : ByteArray) (w : World) (ha1 : a1.size ≤ maxLen) (ha2 : a2.size ≤ maxLen) (hb1 : b1.size ≤ maxLen) (hb2 : b2.size ≤ maxLen) (h1 : spanOkB a1 a2 = true) (h2 : spanOkB b1 b2 = true)
    (lo hi : ByteArray) (hlo : lo.size ≤ maxLen) (hhi : hi.size ≤ maxLen) (hmx : ∀ (ts : Array TypeId) (t : TypeId) (w : World), (Builtin.max_ ts t #[.string a1, .string b1]).run Try.prog w = .ok (.string lo) w)
    (ta tf : TypeId) (va vf Vb ra rf : Value) (ff fh : Nat)
    (cA : CallIs 97 #[.agg #[.string a1, .string a2]] (.iface ta va)) (cB : CallIs 97 #[.agg #[.string b1, .string b2]] Vb)
    (mn : ∀ w : World, (nilAhead 374 ta va "loop.example/cadastre/impl.first").run Try.prog w = .ok (some false) w)
    (mf : ∀ w : World, (method 374 ta va "loop.example/cadastre/impl.first").run Try.prog w = .ok (ff, ra) w) (kf : ∀ (xs : Array Value) (w : World), (callFunc ff xs).run Try.prog w = .ok (.enter ff xs) w)
    (cF : CallIs ff #[ra, Vb] (.iface tf vf))
    (mh : ∀ w : World, (method 374 tf vf "loop.example/cadastre/impl.high").run Try.prog w = .ok (fh, rf) w)
    (kh : ∀ (xs : Array Value) (w : World), (callFunc fh xs).run Try.prog w = .ok (.enter fh xs) w)
    (cH : CallIs fh #[rf] (.string hi)) :
    Calls Try.prog 124 #[.agg #[.string a1, .string a2], .agg #[.string b1, .string b2]] w (MeetPost lo hi w) := by
  go_enter Try.func124, Try.ntmps124
  go_wp2_with (go_at_call 30; (with_reducible refine (spanOk_is h1 ha1 ha2 _).mono ?_); rintro e w1 ⟨rfl, hw1⟩; obtain ⟨hc1, hf1⟩ := bcell hw1)
  have za : w.heap.size + 1 + 1 < w1.heap.size := by have := hw1.size; simp at this; omega
  have zb : w.heap.size + 1 < w1.heap.size := by omega
  have zc : w.heap.size < w1.heap.size := by omega
  refine (spanOk_is h2 hb1 hb2 _).mono ?_; rintro e w2 ⟨rfl, hw2⟩; obtain ⟨hc2, hf2⟩ := bcell hw2
  have z3 : w.heap.size + 1 + 1 < w2.heap.size := by have := hw2.size; omega
  have z2 : w.heap.size + 1 < w2.heap.size := by omega
  have z2a : w.heap.size < w2.heap.size := by omega
  have p0 : w2.cell? ⟨w.heap.size, 0, none⟩ = some (.string a1) := by rw [hc2 _ _ zc, hc1 _ _ (by simp; omega)]; simp [go_sem]
  have p1 : w2.cell? ⟨w.heap.size, 1, none⟩ = some (.string a2) := by rw [hc2 _ _ zc, hc1 _ _ (by simp; omega)]; simp [go_sem]
  have p2 : w2.cell? ⟨w.heap.size + 1, 0, none⟩ = some (.string b1) := by rw [hc2 _ _ zb, hc1 _ _ (by simp)]; simp [go_sem]
  have p3 : w2.cell? ⟨w.heap.size + 1, 1, none⟩ = some (.string b2) := by rw [hc2 _ _ zb, hc1 _ _ (by simp)]; simp [go_sem]
  have r0 : w2.cell? ⟨w.heap.size + 1 + 1, 0, none⟩ = some (.string ⟨#[]⟩) := by rw [hc2 _ _ za, hc1 _ _ (by simp)]; simp [go_sem]
  have r1 : w2.cell? ⟨w.heap.size + 1 + 1, 1, none⟩ = some (.string ⟨#[]⟩) := by rw [hc2 _ _ za, hc1 _ _ (by simp)]; simp [go_sem]
  have r2 : w2.frozen? ⟨w.heap.size + 1 + 1, 0, none⟩ = false := by rw [hf2 _ _ za, hf1 _ _ (by simp)]; simp [go_sem]
  have r3 : w2.frozen? ⟨w.heap.size + 1 + 1, 1, none⟩ = false := by rw [hf2 _ _ za, hf1 _ _ (by simp)]; simp [go_sem]
  have e2 : Below w.heap.size w w2 := (((((Below.refl _ _).alloc (Nat.le_refl _) _).alloc (by simp) _).alloc (by simp; omega) _).trans (hw1.mono (by simp; omega))).trans (hw2.mono (by omega))
  clear hw1 hw2 hc1 hc2 hf1 hf2 za zb zc
  go_upto_region 3 with fail
  go_cut [6] (fun s6 u => AfterOne w2 (.string lo) (.string hi) s6 u)
  case first =>
    have q2 : w2.cell? ⟨w.heap.size, 0, none⟩ = some (.string a1) ∧ w2.cell? ⟨w.heap.size, 1, none⟩ = some (.string a2) ∧ w2.cell? ⟨w.heap.size + 1, 0, none⟩ = some (.string b1) ∧ w2.cell? ⟨w.heap.size + 1, 1, none⟩ = some (.string b2) ∧ w.heap.size < w2.heap.size ∧ w.heap.size + 1 < w2.heap.size ∧ Below w2.heap.size w2 w2 := ⟨p0, p1, p2, p3, z2a, z2, Below.refl _ _⟩
    refine wp_region_noPanic ?_
    refine wp_region_held_drew (S := fun u => u.cell? ⟨w.heap.size, 0, none⟩ = some (.string a1) ∧ u.cell? ⟨w.heap.size, 1, none⟩ = some (.string a2) ∧ u.cell? ⟨w.heap.size + 1, 0, none⟩ = some (.string b1) ∧ u.cell? ⟨w.heap.size + 1, 1, none⟩ = some (.string b2) ∧ w.heap.size < u.heap.size ∧ w.heap.size + 1 < u.heap.size ∧ Below w2.heap.size w2 u) (by kernel_rfl) (keepS ((Below.refl _ _).drew) q2) (fun hH0 => ?_)
    refine wpAnyH_take (i := 0) (oi := { dst := some 16, op := Op.fieldAddr 47 (Operand.tmp 2) 0, type := 0, pos := "l1_key.go:122", after := #[], guard := none }) (v := ?v1) rfl (by kernel_rfl) (by kernel_rfl) (by kernel_rfl) (fun _ _ _ h => h) (Or.inl ⟨by rfl, ?y1⟩) hH0 ?r1
    case y1 => (intro w hSw; (try dsimp only at hSw); go_simp; (try with_reducible rfl))
    case r1 =>
      (try simp only [Act.put, List.setIfInBounds_toArray, List.set_cons_zero, List.set_cons_succ])
      refine wpAnyH_take (i := 1) (oi := { dst := some 17, op := Op.load 9 (Operand.tmp 16), type := 9, pos := "l1_key.go:122", after := #[{ on := 0, ground := Ground.data }], guard := none }) (v := ?v2) rfl (by kernel_rfl) (by kernel_rfl) (by kernel_rfl) (fun _ _ _ h => h) (Or.inl ⟨by rfl, ?y2⟩) hH0 ?r2
      case y2 => (intro w hSw; (try dsimp only at hSw); go_simp; (try with_reducible rfl))
      case r2 =>
        (try simp only [Act.put, List.setIfInBounds_toArray, List.set_cons_zero, List.set_cons_succ])
        refine wpAnyH_take (i := 2) (oi := { dst := some 18, op := Op.fieldAddr 47 (Operand.tmp 3) 0, type := 0, pos := "l1_key.go:122", after := #[], guard := none }) (v := ?v3) rfl (by kernel_rfl) (by kernel_rfl) (by kernel_rfl) (fun _ _ _ h => h) (Or.inl ⟨by rfl, ?y3⟩) hH0 ?r3
        case y3 => (intro w hSw; (try dsimp only at hSw); go_simp; (try with_reducible rfl))
        case r3 =>
          (try simp only [Act.put, List.setIfInBounds_toArray, List.set_cons_zero, List.set_cons_succ])
          refine wpAnyH_take (i := 3) (oi := { dst := some 19, op := Op.load 9 (Operand.tmp 18), type := 9, pos := "l1_key.go:122", after := #[{ on := 2, ground := Ground.data }], guard := none }) (v := ?v4) rfl (by kernel_rfl) (by kernel_rfl) (by kernel_rfl) (fun _ _ _ h => h) (Or.inl ⟨by rfl, ?y4⟩) hH0 ?r4
          case y4 => (intro w hSw; (try dsimp only at hSw); go_simp; (try with_reducible rfl))
          case r4 =>
            (try simp only [Act.put, List.setIfInBounds_toArray, List.set_cons_zero, List.set_cons_succ])
            refine wpAnyH_take (i := 4) (oi := { dst := some 20, op := Op.call { callee := Callee.builtin Builtin.max, args := #[Operand.tmp 17, Operand.tmp 19], argTypes := #[9, 9] }, type := 9, pos := "l1_key.go:122", after := #[{ on := 1, ground := Ground.data }, { on := 3, ground := Ground.data }], guard := none }) (v := ?v5) rfl (by kernel_rfl) (by kernel_rfl) (by kernel_rfl) (fun _ _ _ h => h) (Or.inl ⟨by rfl, ?y5⟩) hH0 ?r5
            case y5 => (intro w hSw; (try dsimp only at hSw); go_simp; (try with_reducible rfl))
            case r5 =>
              (try simp only [Act.put, List.setIfInBounds_toArray, List.set_cons_zero, List.set_cons_succ])
              refine wpAnyH_take (i := 5) (oi := { dst := some 21, op := Op.load 47 (Operand.tmp 2), type := 47, pos := "l1_key.go:122", after := #[], guard := none }) (v := ?v6) rfl (by kernel_rfl) (by kernel_rfl) (by kernel_rfl) (fun _ _ _ h => h) (Or.inl ⟨by rfl, ?y6⟩) hH0 ?r6
              case y6 => (intro w hSw; (try dsimp only at hSw); go_simp; (try with_reducible rfl))
              case r6 =>
                (try simp only [Act.put, List.setIfInBounds_toArray, List.set_cons_zero, List.set_cons_succ])
                refine wpAnyH_take (i := 7) (oi := { dst := some 23, op := Op.load 47 (Operand.tmp 3), type := 47, pos := "l1_key.go:122", after := #[], guard := none }) (v := ?v7) rfl (by kernel_rfl) (by kernel_rfl) (by kernel_rfl) (fun _ _ _ h => h) (Or.inl ⟨by rfl, ?y7⟩) hH0 ?r7
                case y7 => (intro w hSw; (try dsimp only at hSw); go_simp; (try with_reducible rfl))
                case r7 =>
                  (try simp only [Act.put, List.setIfInBounds_toArray, List.set_cons_zero, List.set_cons_succ])
                  refine wpAnyH_ready (rs := [6, 15]) (by kernel_rfl) (by simp) ?_
                  refine AllReadyH.cons (o := { dst := some 22, op := Op.call { callee := Callee.value (Operand.func 97), args := #[Operand.tmp 21], argTypes := #[47] }, type := 139, pos := "l1_key.go:122", after := #[{ on := 5, ground := Ground.data }], guard := none }) rfl (fun K hK => ?_) ?_
                  · go_simp
                    (with_reducible refine (cA.call _).mono ?_)
                    rintro e w3 ⟨rfl, hww3⟩
                    go_wp2_with fail
                    refine hK.out _ _ ?_ (fun hH8 => ?_)
                    · (try dsimp only)
                      exact keepS hww3 hH0
                    · clear hK K
                      (try simp only [Act.put, List.setIfInBounds_toArray, List.set_cons_zero, List.set_cons_succ])
                      have q8 := hH8
                      refine wpAnyH_take (i := 9) (oi := { dst := some 25, op := Op.makeFunc (Fn.method "loop.example/cadastre/impl.first") #[Operand.tmp 22] #[], type := 200, pos := "l1_key.go:122", after := #[{ on := 6, ground := Ground.data }], guard := none }) (v := ?v9) rfl (by kernel_rfl) (by kernel_rfl) (by kernel_rfl) (fun _ _ _ h => h) (Or.inl ⟨by rfl, ?y9⟩) hH8 ?r9
                      case y9 => (intro w hSw; (try dsimp only at hSw); go_simp; (try with_reducible rfl))
                      case r9 =>
                        (try simp only [Act.put, List.setIfInBounds_toArray, List.set_cons_zero, List.set_cons_succ])
                        refine wpAnyH_take (i := 10) (oi := { dst := some 26, op := Op.nilCheck (Operand.tmp 25), type := 200, pos := "l1_key.go:122", after := #[{ on := 9, ground := Ground.data }], guard := none }) (v := ?v10) rfl (by kernel_rfl) (by kernel_rfl) (by kernel_rfl) (fun _ _ _ h => h) (Or.inl ⟨by rfl, ?y10⟩) hH8 ?r10
                        case y10 => (intro w hSw; (try dsimp only at hSw); go_simp; (try with_reducible rfl))
                        case r10 =>
                          (try simp only [Act.put, List.setIfInBounds_toArray, List.set_cons_zero, List.set_cons_succ])
                          refine wpAnyH_take (i := 11) (oi := { dst := some 27, op := Op.move (Operand.tmp 22), type := 139, pos := "l1_key.go:122", after := #[{ on := 6, ground := Ground.data }, { on := 9, ground := Ground.data }, { on := 10, ground := Ground.data }], guard := none }) (v := ?v11) rfl (by kernel_rfl) (by kernel_rfl) (by kernel_rfl) (fun _ _ _ h => h) (Or.inl ⟨by rfl, ?y11⟩) hH8 ?r11
                          case y11 => (intro w hSw; (try dsimp only at hSw); go_simp; (try with_reducible rfl))
                          case r11 =>
                            (try simp only [Act.put, List.setIfInBounds_toArray, List.set_cons_zero, List.set_cons_succ])
                            refine wpAnyH_ready (rs := [8, 15]) (by kernel_rfl) (by simp) ?_
                            refine AllReadyH.cons (o := { dst := some 24, op := Op.call { callee := Callee.value (Operand.func 97), args := #[Operand.tmp 23], argTypes := #[47] }, type := 139, pos := "l1_key.go:122", after := #[{ on := 7, ground := Ground.data }, { on := 6, ground := Ground.chain }], guard := none }) rfl (fun K hK => ?_) ?_
                            · go_simp
                              (with_reducible refine (cB.call _).mono ?_)
                              rintro e w4 ⟨rfl, hww4⟩
                              go_wp2_with fail
                              refine hK.out _ _ ?_ (fun hH12 => ?_)
                              · (try dsimp only)
                                exact keepS hww4 hH8
                              · clear hK K
                                (try simp only [Act.put, List.setIfInBounds_toArray, List.set_cons_zero, List.set_cons_succ])
                                have q12 := hH12
                                refine wpAnyH_ready (rs := [12, 15]) (by kernel_rfl) (by simp) ?_
                                refine AllReadyH.cons (o := { dst := some 28, op := Op.call { callee := Callee.invoke (Operand.tmp 27) "loop.example/cadastre/impl.first", args := #[Operand.tmp 24], argTypes := #[139] }, type := 139, pos := "l1_key.go:122", after := #[{ on := 11, ground := Ground.data }, { on := 8, ground := Ground.data }, { on := 8, ground := Ground.chain }], guard := none }) rfl (fun K hK => ?_) ?_
                                · go_simp
                                  (with_reducible refine (cF.call _).mono ?_)
                                  rintro e w5 ⟨rfl, hww5⟩
                                  go_wp2_with fail
                                  refine hK.out _ _ ?_ (fun hH13 => ?_)
                                  · (try dsimp only)
                                    exact keepS hww5 hH12
                                  · clear hK K
                                    (try simp only [Act.put, List.setIfInBounds_toArray, List.set_cons_zero, List.set_cons_succ])
                                    have q13 := hH13
                                    refine wpAnyH_ready (rs := [13, 15]) (by kernel_rfl) (by simp) ?_
                                    refine AllReadyH.cons (o := { dst := some 29, op := Op.call { callee := Callee.invoke (Operand.tmp 28) "loop.example/cadastre/impl.high", args := #[], argTypes := #[] }, type := 9, pos := "l1_key.go:122", after := #[{ on := 12, ground := Ground.data }, { on := 12, ground := Ground.chain }], guard := none }) rfl (fun K hK => ?_) ?_
                                    · go_simp
                                      (with_reducible refine (cH.call _).mono ?_)
                                      rintro e w6 ⟨rfl, hww6⟩
                                      go_wp2_with fail
                                      refine hK.out _ _ ?_ (fun hH14 => ?_)
                                      · (try dsimp only)
                                        exact keepS hww6 hH13
                                      · clear hK K
                                        (try simp only [Act.put, List.setIfInBounds_toArray, List.set_cons_zero, List.set_cons_succ])
                                        have q14 := hH14
                                        refine wpAnyH_take (i := 14) (oi := { dst := some 30, op := Op.build 47 #[(0, Operand.tmp 20), (1, Operand.tmp 29)], type := 47, pos := "l1_key.go:122", after := #[{ on := 4, ground := Ground.data }, { on := 13, ground := Ground.data }], guard := none }) (v := ?v15) rfl (by kernel_rfl) (by kernel_rfl) (by kernel_rfl) (fun _ _ _ h => h) (Or.inl ⟨by rfl, ?y15⟩) hH14 ?r15
                                        case y15 => (intro w hSw; (try dsimp only at hSw); go_simp; (try with_reducible rfl))
                                        case r15 =>
                                          (try simp only [Act.put, List.setIfInBounds_toArray, List.set_cons_zero, List.set_cons_succ])
                                          refine wpAnyH_ready (rs := [15]) (by kernel_rfl) (by simp) ?_
                                          refine AllReadyH.cons (o := { dst := some 6, op := Op.alloc 47, type := 0, pos := "l1_key.go:122", after := #[], guard := none }) rfl (fun K hK => ?_) ?_
                                          · go_simp
                                            refine hK.out _ _ ?_ (fun hH16 => ?_)
                                            · (try dsimp only)
                                              exact keepS ((Below.refl _ _).alloc (Nat.le_refl _) _) hH14
                                            · clear hK K
                                              (try simp only [Act.put, List.setIfInBounds_toArray, List.set_cons_zero, List.set_cons_succ])
                                              refine wpAnyH_ready (rs := [16]) (by kernel_rfl) (by simp) ?_
                                              refine AllReadyH.cons (o := { dst := none, op := Op.store 47 (Operand.tmp 6) (Operand.tmp 30), type := 0, pos := "l1_key.go:122", after := #[{ on := 15, ground := Ground.data }, { on := 14, ground := Ground.data }, { on := 13, ground := Ground.chain }, { on := 0, ground := Ground.phase }, { on := 1, ground := Ground.phase }, { on := 2, ground := Ground.phase }, { on := 3, ground := Ground.phase }, { on := 4, ground := Ground.phase }, { on := 5, ground := Ground.phase }, { on := 6, ground := Ground.phase }, { on := 7, ground := Ground.phase }, { on := 8, ground := Ground.phase }, { on := 9, ground := Ground.phase }, { on := 10, ground := Ground.phase }, { on := 11, ground := Ground.phase }, { on := 12, ground := Ground.phase }, { on := 13, ground := Ground.phase }, { on := 14, ground := Ground.phase }, { on := 15, ground := Ground.phase }], guard := none }) rfl (fun K hK => ?_) ?_
                                              · go_simp
                                                refine hK.out _ _ ?_ (fun hH17 => ?_)
                                                · (try dsimp only)
                                                  exact keepS ((Below.refl _ _).alloc (Nat.le_refl _) _) q14
                                                · clear hK K
                                                  (try simp only [Act.put, List.setIfInBounds_toArray, List.set_cons_zero, List.set_cons_succ])
                                                  refine wpAnyH_done (by kernel_rfl) ?_ _
                                                  refine NoPanic.normal ?_
                                                  go_wp2_with fail
                                                  go_meet
                                                  exact oneA q14
                                              exact AllReadyH.nil
                                          exact AllReadyH.nil
                                    refine AllReadyH.cons (o := { dst := some 6, op := Op.alloc 47, type := 0, pos := "l1_key.go:122", after := #[], guard := none }) rfl (fun K hK => ?_) ?_
                                    · go_simp
                                      refine hK.out _ _ ?_ (fun hH18 => ?_)
                                      · (try dsimp only)
                                        exact keepS ((Below.refl _ _).alloc (Nat.le_refl _) _) hH13
                                      · clear hK K
                                        (try simp only [Act.put, List.setIfInBounds_toArray, List.set_cons_zero, List.set_cons_succ])
                                        refine wpAnyH_ready (rs := [13]) (by kernel_rfl) (by simp) ?_
                                        refine AllReadyH.cons (o := { dst := some 29, op := Op.call { callee := Callee.invoke (Operand.tmp 28) "loop.example/cadastre/impl.high", args := #[], argTypes := #[] }, type := 9, pos := "l1_key.go:122", after := #[{ on := 12, ground := Ground.data }, { on := 12, ground := Ground.chain }], guard := none }) rfl (fun K hK => ?_) ?_
                                        · go_simp
                                          (with_reducible refine (cH.call _).mono ?_)
                                          rintro e w6 ⟨rfl, hww6⟩
                                          go_wp2_with fail
                                          have z19 := newZr hww6
                                          refine hK.out _ _ ?_ (fun hH19 => ?_)
                                          · (try dsimp only)
                                            exact keepS hww6 hH18
                                          · clear hK K
                                            (try simp only [Act.put, List.setIfInBounds_toArray, List.set_cons_zero, List.set_cons_succ])
                                            have q19 := hH19
                                            refine wpAnyH_take (i := 14) (oi := { dst := some 30, op := Op.build 47 #[(0, Operand.tmp 20), (1, Operand.tmp 29)], type := 47, pos := "l1_key.go:122", after := #[{ on := 4, ground := Ground.data }, { on := 13, ground := Ground.data }], guard := none }) (v := ?v20) rfl (by kernel_rfl) (by kernel_rfl) (by kernel_rfl) (fun _ _ _ h => h) (Or.inl ⟨by rfl, ?y20⟩) hH19 ?r20
                                            case y20 => (intro w hSw; (try dsimp only at hSw); go_simp; (try with_reducible rfl))
                                            case r20 =>
                                              (try simp only [Act.put, List.setIfInBounds_toArray, List.set_cons_zero, List.set_cons_succ])
                                              refine wpAnyH_ready (rs := [16]) (by kernel_rfl) (by simp) ?_
                                              refine AllReadyH.cons (o := { dst := none, op := Op.store 47 (Operand.tmp 6) (Operand.tmp 30), type := 0, pos := "l1_key.go:122", after := #[{ on := 15, ground := Ground.data }, { on := 14, ground := Ground.data }, { on := 13, ground := Ground.chain }, { on := 0, ground := Ground.phase }, { on := 1, ground := Ground.phase }, { on := 2, ground := Ground.phase }, { on := 3, ground := Ground.phase }, { on := 4, ground := Ground.phase }, { on := 5, ground := Ground.phase }, { on := 6, ground := Ground.phase }, { on := 7, ground := Ground.phase }, { on := 8, ground := Ground.phase }, { on := 9, ground := Ground.phase }, { on := 10, ground := Ground.phase }, { on := 11, ground := Ground.phase }, { on := 12, ground := Ground.phase }, { on := 13, ground := Ground.phase }, { on := 14, ground := Ground.phase }, { on := 15, ground := Ground.phase }], guard := none }) rfl (fun K hK => ?_) ?_
                                              · have c0 := z19.c0; have c1 := z19.c1; have c2 := z19.f0; have c3 := z19.f1
                                                go_simp
                                                refine hK.out _ _ ?_ (fun hH21 => ?_)
                                                · (try dsimp only)
                                                  exact keepSet hH19 z2 q13.2.2.2.2.2.2.size
                                                · clear hK K
                                                  (try simp only [Act.put, List.setIfInBounds_toArray, List.set_cons_zero, List.set_cons_succ])
                                                  refine wpAnyH_done (by kernel_rfl) ?_ _
                                                  refine NoPanic.normal ?_
                                                  go_wp2_with fail
                                                  go_meet
                                                  exact oneB q19 z2 q13.2.2.2.2.2.2.size z19
                                              exact AllReadyH.nil
                                        exact AllReadyH.nil
                                    exact AllReadyH.nil
                                refine AllReadyH.cons (o := { dst := some 6, op := Op.alloc 47, type := 0, pos := "l1_key.go:122", after := #[], guard := none }) rfl (fun K hK => ?_) ?_
                                · go_simp
                                  refine hK.out _ _ ?_ (fun hH22 => ?_)
                                  · (try dsimp only)
                                    exact keepS ((Below.refl _ _).alloc (Nat.le_refl _) _) hH12
                                  · clear hK K
                                    (try simp only [Act.put, List.setIfInBounds_toArray, List.set_cons_zero, List.set_cons_succ])
                                    refine wpAnyH_ready (rs := [12]) (by kernel_rfl) (by simp) ?_
                                    refine AllReadyH.cons (o := { dst := some 28, op := Op.call { callee := Callee.invoke (Operand.tmp 27) "loop.example/cadastre/impl.first", args := #[Operand.tmp 24], argTypes := #[139] }, type := 139, pos := "l1_key.go:122", after := #[{ on := 11, ground := Ground.data }, { on := 8, ground := Ground.data }, { on := 8, ground := Ground.chain }], guard := none }) rfl (fun K hK => ?_) ?_
                                    · go_simp
                                      (with_reducible refine (cF.call _).mono ?_)
                                      rintro e w5 ⟨rfl, hww5⟩
                                      go_wp2_with fail
                                      have z23 := newZr hww5
                                      refine hK.out _ _ ?_ (fun hH23 => ?_)
                                      · (try dsimp only)
                                        exact keepS hww5 hH22
                                      · clear hK K
                                        (try simp only [Act.put, List.setIfInBounds_toArray, List.set_cons_zero, List.set_cons_succ])
                                        have q23 := hH23
                                        refine wpAnyH_ready (rs := [13]) (by kernel_rfl) (by simp) ?_
                                        refine AllReadyH.cons (o := { dst := some 29, op := Op.call { callee := Callee.invoke (Operand.tmp 28) "loop.example/cadastre/impl.high", args := #[], argTypes := #[] }, type := 9, pos := "l1_key.go:122", after := #[{ on := 12, ground := Ground.data }, { on := 12, ground := Ground.chain }], guard := none }) rfl (fun K hK => ?_) ?_
                                        · go_simp
                                          (with_reducible refine (cH.call _).mono ?_)
                                          rintro e w6 ⟨rfl, hww6⟩
                                          go_wp2_with fail
                                          have z24 := carryZr hww6 z23
                                          refine hK.out _ _ ?_ (fun hH24 => ?_)
                                          · (try dsimp only)
                                            exact keepS hww6 hH23
                                          · clear hK K
                                            (try simp only [Act.put, List.setIfInBounds_toArray, List.set_cons_zero, List.set_cons_succ])
                                            have q24 := hH24
                                            refine wpAnyH_take (i := 14) (oi := { dst := some 30, op := Op.build 47 #[(0, Operand.tmp 20), (1, Operand.tmp 29)], type := 47, pos := "l1_key.go:122", after := #[{ on := 4, ground := Ground.data }, { on := 13, ground := Ground.data }], guard := none }) (v := ?v25) rfl (by kernel_rfl) (by kernel_rfl) (by kernel_rfl) (fun _ _ _ h => h) (Or.inl ⟨by rfl, ?y25⟩) hH24 ?r25
                                            case y25 => (intro w hSw; (try dsimp only at hSw); go_simp; (try with_reducible rfl))
                                            case r25 =>
                                              (try simp only [Act.put, List.setIfInBounds_toArray, List.set_cons_zero, List.set_cons_succ])
                                              refine wpAnyH_ready (rs := [16]) (by kernel_rfl) (by simp) ?_
                                              refine AllReadyH.cons (o := { dst := none, op := Op.store 47 (Operand.tmp 6) (Operand.tmp 30), type := 0, pos := "l1_key.go:122", after := #[{ on := 15, ground := Ground.data }, { on := 14, ground := Ground.data }, { on := 13, ground := Ground.chain }, { on := 0, ground := Ground.phase }, { on := 1, ground := Ground.phase }, { on := 2, ground := Ground.phase }, { on := 3, ground := Ground.phase }, { on := 4, ground := Ground.phase }, { on := 5, ground := Ground.phase }, { on := 6, ground := Ground.phase }, { on := 7, ground := Ground.phase }, { on := 8, ground := Ground.phase }, { on := 9, ground := Ground.phase }, { on := 10, ground := Ground.phase }, { on := 11, ground := Ground.phase }, { on := 12, ground := Ground.phase }, { on := 13, ground := Ground.phase }, { on := 14, ground := Ground.phase }, { on := 15, ground := Ground.phase }], guard := none }) rfl (fun K hK => ?_) ?_
                                              · have c0 := z24.c0; have c1 := z24.c1; have c2 := z24.f0; have c3 := z24.f1
                                                go_simp
                                                refine hK.out _ _ ?_ (fun hH26 => ?_)
                                                · (try dsimp only)
                                                  exact keepSet hH24 z2 q12.2.2.2.2.2.2.size
                                                · clear hK K
                                                  (try simp only [Act.put, List.setIfInBounds_toArray, List.set_cons_zero, List.set_cons_succ])
                                                  refine wpAnyH_done (by kernel_rfl) ?_ _
                                                  refine NoPanic.normal ?_
                                                  go_wp2_with fail
                                                  go_meet
                                                  exact oneB q24 z2 q12.2.2.2.2.2.2.size z24
                                              exact AllReadyH.nil
                                        exact AllReadyH.nil
                                    exact AllReadyH.nil
                                exact AllReadyH.nil
                            refine AllReadyH.cons (o := { dst := some 6, op := Op.alloc 47, type := 0, pos := "l1_key.go:122", after := #[], guard := none }) rfl (fun K hK => ?_) ?_
                            · go_simp
                              refine hK.out _ _ ?_ (fun hH27 => ?_)
                              · (try dsimp only)
                                exact keepS ((Below.refl _ _).alloc (Nat.le_refl _) _) hH8
                              · clear hK K
                                (try simp only [Act.put, List.setIfInBounds_toArray, List.set_cons_zero, List.set_cons_succ])
                                refine wpAnyH_ready (rs := [8]) (by kernel_rfl) (by simp) ?_
                                refine AllReadyH.cons (o := { dst := some 24, op := Op.call { callee := Callee.value (Operand.func 97), args := #[Operand.tmp 23], argTypes := #[47] }, type := 139, pos := "l1_key.go:122", after := #[{ on := 7, ground := Ground.data }, { on := 6, ground := Ground.chain }], guard := none }) rfl (fun K hK => ?_) ?_
                                · go_simp
                                  (with_reducible refine (cB.call _).mono ?_)
                                  rintro e w4 ⟨rfl, hww4⟩
                                  go_wp2_with fail
                                  have z28 := newZr hww4
                                  refine hK.out _ _ ?_ (fun hH28 => ?_)
                                  · (try dsimp only)
                                    exact keepS hww4 hH27
                                  · clear hK K
                                    (try simp only [Act.put, List.setIfInBounds_toArray, List.set_cons_zero, List.set_cons_succ])
                                    have q28 := hH28
                                    refine wpAnyH_ready (rs := [12]) (by kernel_rfl) (by simp) ?_
                                    refine AllReadyH.cons (o := { dst := some 28, op := Op.call { callee := Callee.invoke (Operand.tmp 27) "loop.example/cadastre/impl.first", args := #[Operand.tmp 24], argTypes := #[139] }, type := 139, pos := "l1_key.go:122", after := #[{ on := 11, ground := Ground.data }, { on := 8, ground := Ground.data }, { on := 8, ground := Ground.chain }], guard := none }) rfl (fun K hK => ?_) ?_
                                    · go_simp
                                      (with_reducible refine (cF.call _).mono ?_)
                                      rintro e w5 ⟨rfl, hww5⟩
                                      go_wp2_with fail
                                      have z29 := carryZr hww5 z28
                                      refine hK.out _ _ ?_ (fun hH29 => ?_)
                                      · (try dsimp only)
                                        exact keepS hww5 hH28
                                      · clear hK K
                                        (try simp only [Act.put, List.setIfInBounds_toArray, List.set_cons_zero, List.set_cons_succ])
                                        have q29 := hH29
                                        refine wpAnyH_ready (rs := [13]) (by kernel_rfl) (by simp) ?_
                                        refine AllReadyH.cons (o := { dst := some 29, op := Op.call { callee := Callee.invoke (Operand.tmp 28) "loop.example/cadastre/impl.high", args := #[], argTypes := #[] }, type := 9, pos := "l1_key.go:122", after := #[{ on := 12, ground := Ground.data }, { on := 12, ground := Ground.chain }], guard := none }) rfl (fun K hK => ?_) ?_
                                        · go_simp
                                          (with_reducible refine (cH.call _).mono ?_)
                                          rintro e w6 ⟨rfl, hww6⟩
                                          go_wp2_with fail
                                          have z30 := carryZr hww6 z29
                                          refine hK.out _ _ ?_ (fun hH30 => ?_)
                                          · (try dsimp only)
                                            exact keepS hww6 hH29
                                          · clear hK K
                                            (try simp only [Act.put, List.setIfInBounds_toArray, List.set_cons_zero, List.set_cons_succ])
                                            have q30 := hH30
                                            refine wpAnyH_take (i := 14) (oi := { dst := some 30, op := Op.build 47 #[(0, Operand.tmp 20), (1, Operand.tmp 29)], type := 47, pos := "l1_key.go:122", after := #[{ on := 4, ground := Ground.data }, { on := 13, ground := Ground.data }], guard := none }) (v := ?v31) rfl (by kernel_rfl) (by kernel_rfl) (by kernel_rfl) (fun _ _ _ h => h) (Or.inl ⟨by rfl, ?y31⟩) hH30 ?r31
                                            case y31 => (intro w hSw; (try dsimp only at hSw); go_simp; (try with_reducible rfl))
                                            case r31 =>
                                              (try simp only [Act.put, List.setIfInBounds_toArray, List.set_cons_zero, List.set_cons_succ])
                                              refine wpAnyH_ready (rs := [16]) (by kernel_rfl) (by simp) ?_
                                              refine AllReadyH.cons (o := { dst := none, op := Op.store 47 (Operand.tmp 6) (Operand.tmp 30), type := 0, pos := "l1_key.go:122", after := #[{ on := 15, ground := Ground.data }, { on := 14, ground := Ground.data }, { on := 13, ground := Ground.chain }, { on := 0, ground := Ground.phase }, { on := 1, ground := Ground.phase }, { on := 2, ground := Ground.phase }, { on := 3, ground := Ground.phase }, { on := 4, ground := Ground.phase }, { on := 5, ground := Ground.phase }, { on := 6, ground := Ground.phase }, { on := 7, ground := Ground.phase }, { on := 8, ground := Ground.phase }, { on := 9, ground := Ground.phase }, { on := 10, ground := Ground.phase }, { on := 11, ground := Ground.phase }, { on := 12, ground := Ground.phase }, { on := 13, ground := Ground.phase }, { on := 14, ground := Ground.phase }, { on := 15, ground := Ground.phase }], guard := none }) rfl (fun K hK => ?_) ?_
                                              · have c0 := z30.c0; have c1 := z30.c1; have c2 := z30.f0; have c3 := z30.f1
                                                go_simp
                                                refine hK.out _ _ ?_ (fun hH32 => ?_)
                                                · (try dsimp only)
                                                  exact keepSet hH30 z2 q8.2.2.2.2.2.2.size
                                                · clear hK K
                                                  (try simp only [Act.put, List.setIfInBounds_toArray, List.set_cons_zero, List.set_cons_succ])
                                                  refine wpAnyH_done (by kernel_rfl) ?_ _
                                                  refine NoPanic.normal ?_
                                                  go_wp2_with fail
                                                  go_meet
                                                  exact oneB q30 z2 q8.2.2.2.2.2.2.size z30
                                              exact AllReadyH.nil
                                        exact AllReadyH.nil
                                    exact AllReadyH.nil
                                exact AllReadyH.nil
                            exact AllReadyH.nil
                  refine AllReadyH.cons (o := { dst := some 6, op := Op.alloc 47, type := 0, pos := "l1_key.go:122", after := #[], guard := none }) rfl (fun K hK => ?_) ?_
                  · go_simp
                    refine hK.out _ _ ?_ (fun hH33 => ?_)
                    · (try dsimp only)
                      exact keepS (((Below.refl _ _).alloc (Nat.le_refl _) _).drew) q2
                    · clear hK K
                      (try simp only [Act.put, List.setIfInBounds_toArray, List.set_cons_zero, List.set_cons_succ])
                      refine wpAnyH_ready (rs := [6]) (by kernel_rfl) (by simp) ?_
                      refine AllReadyH.cons (o := { dst := some 22, op := Op.call { callee := Callee.value (Operand.func 97), args := #[Operand.tmp 21], argTypes := #[47] }, type := 139, pos := "l1_key.go:122", after := #[{ on := 5, ground := Ground.data }], guard := none }) rfl (fun K hK => ?_) ?_
                      · go_simp
                        (with_reducible refine (cA.call _).mono ?_)
                        rintro e w3 ⟨rfl, hww3⟩
                        go_wp2_with fail
                        have z34 := newZr (((Below.refl _ _).drew).trans hww3)
                        refine hK.out _ _ ?_ (fun hH34 => ?_)
                        · (try dsimp only)
                          exact keepS hww3 hH33
                        · clear hK K
                          (try simp only [Act.put, List.setIfInBounds_toArray, List.set_cons_zero, List.set_cons_succ])
                          have q34 := hH34
                          refine wpAnyH_take (i := 9) (oi := { dst := some 25, op := Op.makeFunc (Fn.method "loop.example/cadastre/impl.first") #[Operand.tmp 22] #[], type := 200, pos := "l1_key.go:122", after := #[{ on := 6, ground := Ground.data }], guard := none }) (v := ?v35) rfl (by kernel_rfl) (by kernel_rfl) (by kernel_rfl) (fun _ _ _ h => h) (Or.inl ⟨by rfl, ?y35⟩) hH34 ?r35
                          case y35 => (intro w hSw; (try dsimp only at hSw); go_simp; (try with_reducible rfl))
                          case r35 =>
                            (try simp only [Act.put, List.setIfInBounds_toArray, List.set_cons_zero, List.set_cons_succ])
                            refine wpAnyH_take (i := 10) (oi := { dst := some 26, op := Op.nilCheck (Operand.tmp 25), type := 200, pos := "l1_key.go:122", after := #[{ on := 9, ground := Ground.data }], guard := none }) (v := ?v36) rfl (by kernel_rfl) (by kernel_rfl) (by kernel_rfl) (fun _ _ _ h => h) (Or.inl ⟨by rfl, ?y36⟩) hH34 ?r36
                            case y36 => (intro w hSw; (try dsimp only at hSw); go_simp; (try with_reducible rfl))
                            case r36 =>
                              (try simp only [Act.put, List.setIfInBounds_toArray, List.set_cons_zero, List.set_cons_succ])
                              refine wpAnyH_take (i := 11) (oi := { dst := some 27, op := Op.move (Operand.tmp 22), type := 139, pos := "l1_key.go:122", after := #[{ on := 6, ground := Ground.data }, { on := 9, ground := Ground.data }, { on := 10, ground := Ground.data }], guard := none }) (v := ?v37) rfl (by kernel_rfl) (by kernel_rfl) (by kernel_rfl) (fun _ _ _ h => h) (Or.inl ⟨by rfl, ?y37⟩) hH34 ?r37
                              case y37 => (intro w hSw; (try dsimp only at hSw); go_simp; (try with_reducible rfl))
                              case r37 =>
                                (try simp only [Act.put, List.setIfInBounds_toArray, List.set_cons_zero, List.set_cons_succ])
                                refine wpAnyH_ready (rs := [8]) (by kernel_rfl) (by simp) ?_
                                refine AllReadyH.cons (o := { dst := some 24, op := Op.call { callee := Callee.value (Operand.func 97), args := #[Operand.tmp 23], argTypes := #[47] }, type := 139, pos := "l1_key.go:122", after := #[{ on := 7, ground := Ground.data }, { on := 6, ground := Ground.chain }], guard := none }) rfl (fun K hK => ?_) ?_
                                · go_simp
                                  (with_reducible refine (cB.call _).mono ?_)
                                  rintro e w4 ⟨rfl, hww4⟩
                                  go_wp2_with fail
                                  have z38 := carryZr hww4 z34
                                  refine hK.out _ _ ?_ (fun hH38 => ?_)
                                  · (try dsimp only)
                                    exact keepS hww4 hH34
                                  · clear hK K
                                    (try simp only [Act.put, List.setIfInBounds_toArray, List.set_cons_zero, List.set_cons_succ])
                                    have q38 := hH38
                                    refine wpAnyH_ready (rs := [12]) (by kernel_rfl) (by simp) ?_
                                    refine AllReadyH.cons (o := { dst := some 28, op := Op.call { callee := Callee.invoke (Operand.tmp 27) "loop.example/cadastre/impl.first", args := #[Operand.tmp 24], argTypes := #[139] }, type := 139, pos := "l1_key.go:122", after := #[{ on := 11, ground := Ground.data }, { on := 8, ground := Ground.data }, { on := 8, ground := Ground.chain }], guard := none }) rfl (fun K hK => ?_) ?_
                                    · go_simp
                                      (with_reducible refine (cF.call _).mono ?_)
                                      rintro e w5 ⟨rfl, hww5⟩
                                      go_wp2_with fail
                                      have z39 := carryZr hww5 z38
                                      refine hK.out _ _ ?_ (fun hH39 => ?_)
                                      · (try dsimp only)
                                        exact keepS hww5 hH38
                                      · clear hK K
                                        (try simp only [Act.put, List.setIfInBounds_toArray, List.set_cons_zero, List.set_cons_succ])
                                        have q39 := hH39
                                        refine wpAnyH_ready (rs := [13]) (by kernel_rfl) (by simp) ?_
                                        refine AllReadyH.cons (o := { dst := some 29, op := Op.call { callee := Callee.invoke (Operand.tmp 28) "loop.example/cadastre/impl.high", args := #[], argTypes := #[] }, type := 9, pos := "l1_key.go:122", after := #[{ on := 12, ground := Ground.data }, { on := 12, ground := Ground.chain }], guard := none }) rfl (fun K hK => ?_) ?_
                                        · go_simp
                                          (with_reducible refine (cH.call _).mono ?_)
                                          rintro e w6 ⟨rfl, hww6⟩
                                          go_wp2_with fail
                                          have z40 := carryZr hww6 z39
                                          refine hK.out _ _ ?_ (fun hH40 => ?_)
                                          · (try dsimp only)
                                            exact keepS hww6 hH39
                                          · clear hK K
                                            (try simp only [Act.put, List.setIfInBounds_toArray, List.set_cons_zero, List.set_cons_succ])
                                            have q40 := hH40
                                            refine wpAnyH_take (i := 14) (oi := { dst := some 30, op := Op.build 47 #[(0, Operand.tmp 20), (1, Operand.tmp 29)], type := 47, pos := "l1_key.go:122", after := #[{ on := 4, ground := Ground.data }, { on := 13, ground := Ground.data }], guard := none }) (v := ?v41) rfl (by kernel_rfl) (by kernel_rfl) (by kernel_rfl) (fun _ _ _ h => h) (Or.inl ⟨by rfl, ?y41⟩) hH40 ?r41
                                            case y41 => (intro w hSw; (try dsimp only at hSw); go_simp; (try with_reducible rfl))
                                            case r41 =>
                                              (try simp only [Act.put, List.setIfInBounds_toArray, List.set_cons_zero, List.set_cons_succ])
                                              refine wpAnyH_ready (rs := [16]) (by kernel_rfl) (by simp) ?_
                                              refine AllReadyH.cons (o := { dst := none, op := Op.store 47 (Operand.tmp 6) (Operand.tmp 30), type := 0, pos := "l1_key.go:122", after := #[{ on := 15, ground := Ground.data }, { on := 14, ground := Ground.data }, { on := 13, ground := Ground.chain }, { on := 0, ground := Ground.phase }, { on := 1, ground := Ground.phase }, { on := 2, ground := Ground.phase }, { on := 3, ground := Ground.phase }, { on := 4, ground := Ground.phase }, { on := 5, ground := Ground.phase }, { on := 6, ground := Ground.phase }, { on := 7, ground := Ground.phase }, { on := 8, ground := Ground.phase }, { on := 9, ground := Ground.phase }, { on := 10, ground := Ground.phase }, { on := 11, ground := Ground.phase }, { on := 12, ground := Ground.phase }, { on := 13, ground := Ground.phase }, { on := 14, ground := Ground.phase }, { on := 15, ground := Ground.phase }], guard := none }) rfl (fun K hK => ?_) ?_
                                              · have c0 := z40.c0; have c1 := z40.c1; have c2 := z40.f0; have c3 := z40.f1
                                                go_simp
                                                refine hK.out _ _ ?_ (fun hH42 => ?_)
                                                · (try dsimp only)
                                                  exact keepSet hH40 z2 (Nat.le_refl _)
                                                · clear hK K
                                                  (try simp only [Act.put, List.setIfInBounds_toArray, List.set_cons_zero, List.set_cons_succ])
                                                  refine wpAnyH_done (by kernel_rfl) ?_ _
                                                  refine NoPanic.normal ?_
                                                  go_wp2_with fail
                                                  go_meet
                                                  exact oneB q40 z2 (Nat.le_refl _) z40
                                              exact AllReadyH.nil
                                        exact AllReadyH.nil
                                    exact AllReadyH.nil
                                exact AllReadyH.nil
                      exact AllReadyH.nil
                  exact AllReadyH.nil
  case rest =>
    obtain ⟨g, rfl, y0, y1, yz, yn, f2⟩ := hcut
    have d0 := (f2.cell (p := ⟨w.heap.size + 1 + 1, 0, none⟩) z3).trans r0
    have d1 := (f2.cell (p := ⟨w.heap.size + 1 + 1, 1, none⟩) z3).trans r1
    have d2 := (f2.frozen (p := ⟨w.heap.size + 1 + 1, 0, none⟩) z3).trans r2
    have d3 := (f2.frozen (p := ⟨w.heap.size + 1 + 1, 1, none⟩) z3).trans r3
    have e3 := e2.trans (f2.mono (by omega))
    have z4 : w.heap.size + 1 + 1 < wc.heap.size := by have := f2.size; omega
    clear r0 r1 r2 r3 p0 p1 p2 p3 e2 f2
    obtain ⟨bb, hbb⟩ : ∃ b, spanOkB lo hi = b := ⟨_, rfl⟩
    have HBB := Lib.hid hbb
    clear hbb
    go_wp2_with fail
    with_reducible refine (spanOk_is HBB.out hlo hhi _).mono ?_
    rintro e w7 ⟨rfl, hw7⟩
    have c0 := (hw7.cell (p := ⟨w.heap.size + 1 + 1, 0, none⟩) z4).trans d0
    have c1 := (hw7.cell (p := ⟨w.heap.size + 1 + 1, 1, none⟩) z4).trans d1
    have c2 := (hw7.frozen (p := ⟨w.heap.size + 1 + 1, 0, none⟩) z4).trans d2
    have c3 := (hw7.frozen (p := ⟨w.heap.size + 1 + 1, 1, none⟩) z4).trans d3
    have x0 := (hw7.cell (p := ⟨g, 0, none⟩) yz).trans y0
    have x1 := (hw7.cell (p := ⟨g, 1, none⟩) yz).trans y1
    have e4 := Lib.hid (e3.trans (hw7.mono (by omega)))
    clear d0 d1 d2 d3 y0 y1 hw7 e3
    cases bb
    · go_wp2_with fail
      refine bodyPost_ret (v := .tuple #[.agg #[.string ⟨#[]⟩, .string ⟨#[]⟩], .bool false]) (by simp [results, Try.results124, go_sem, c0, c1]) rfl ⟨by rw [HBB.out]; rfl, ?_⟩
      exact (e4.out.setCell (p := ⟨w.heap.size + 1 + 1, 0, none⟩) (zle2m _) _).setCell (p := ⟨w.heap.size + 1 + 1, 1, none⟩) (zle2m _) _
    · go_wp2_with fail
      refine bodyPost_ret (v := .tuple #[.agg #[.string lo, .string hi], .bool true]) (by simp [results, Try.results124, go_sem, c0, c1]) rfl ⟨by rw [HBB.out]; rfl, ?_⟩
      exact (e4.out.setCell (p := ⟨w.heap.size + 1 + 1, 0, none⟩) (zle2m _) _).setCell (p := ⟨w.heap.size + 1 + 1, 1, none⟩) (zle2m _) _
end Go.Proofs.Ytjijichgoodocaa
