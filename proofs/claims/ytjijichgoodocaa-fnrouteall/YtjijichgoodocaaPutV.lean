/- Two maps of a call, one behind the other. -/
import Derived.Test.YtjijichgoodocaaUpTo
import Derived.Test.YtjijichgoodocaaVmF
namespace Go.Proofs.Ytjijichgoodocaa
open Go.RowKit

theorem HeldVs.join {w w' : World} {lo mid : Nat} {xs ys : List ObjD} (h : HeldVs w lo xs) (hb : Below w.heap.size w w') (hy : HeldVs w' mid ys) (hm : w.heap.size ≤ mid) (hlo : lo ≤ w.heap.size) : HeldVs w' lo (xs ++ ys) := by
  have h' := h.below hb
  have hj : ∀ {P : ObjD → Prop}, (∀ c ∈ xs, P c) → (∀ c ∈ ys, P c) → ∀ c ∈ xs ++ ys, P c := fun p q c hc => (List.mem_append.1 hc).elim (p c) (q c)
  refine ⟨hj h'.in2 hy.in2, hj h'.fr2 hy.fr2, hj h'.l2 (fun o ho => (hy.l2 o ho).mono (by omega) (Nat.le_refl _)), hj h'.ty hy.ty, ?_, hj h'.pl hy.pl⟩
  rw [List.pairwise_append]
  refine ⟨h.ap2, hy.ap2, fun x hx y hy' => ?_⟩
  intro x1 o1 y1 p1 e1 e2
  have q1 := (h.l2 x hx _ _ e1).2
  have q2 := (hy.l2 y hy' _ _ e2).1
  omega

set_option maxRecDepth 100000 in
theorem run_append_obj {w : World} (base : Nat) (t ty : TypeId) (ht : Try.prog.underlying t = some (.slice 45)) (v : Value) (n : Nat) (xs : List Value) (hown : w.ownsRow base 45 2 v n xs)
    (a : Option Addr) (ys : List ObjD) (c : Nat) (hp : (∃ b off, a = some ⟨b, off, none⟩) ∨ a = none ∧ ys = [] ∧ c = 0) (hys : ObjsIn w a ys) (hnm : n + ys.length ≤ 2097152) (hbase : base ≤ w.heap.size) :
    ∃ v' w', (Builtin.append_ #[t, t] ty #[v, .slice a ys.length c]).run Try.prog w = .ok v' w' ∧ w'.ownsRow base 45 2 v' (n + ys.length) (xs ++ ys.flatMap objCells) ∧ w.grownBy w' v.ownBlock := by
  obtain ⟨i0, hi0, hz0, hz1, hz2⟩ := info_parts infoObj
  rcases hp with ⟨b, off, rfl⟩ | ⟨rfl, rfl, rfl⟩
  · have hnews : ∀ j u, (ys.flatMap objCells)[j]? = some u → w.cell? ((⟨b, off, none⟩ : Addr).add j) = some u := by
      rcases hys with rfl | ⟨b', off', e, _, hc⟩
      · intro j u h; simp at h
      · cases e; exact objs_news hc
    obtain ⟨v', w', hr, h2, h3, h4, h5⟩ := run_append_own_at (P := Try.prog) w base t ty 45 i0 (.agg #[.string ⟨#[]⟩, .slice none 0 0]) 2 40 ht hi0 hz0 hz1 hz2 rfl (by omega) v n xs hown ⟨b, off, none⟩ ys.length c (ys.flatMap objCells) (objs_len ys) hnews (objs_one ys) (by unfold maxLen; omega) (by omega) hbase
    exact ⟨v', w', hr, h2, h3⟩
  · exact ⟨v, w, run_append_owned_none (P := Try.prog) w base t ty 45 i0 2 ht hi0 _ n xs hown, by simpa using hown, World.grownBy.refl _ _⟩

/-- A map that a call owns, as it stands before it is handed back. -/
def VmOwn (kvs : List Kv) (w : World) (e : Ending) (w' : World) : Prop :=
  ∃ v cs, cs.map ObjD.kv = kvs ∧ e = .returned (.agg #[v]) ∧ w'.ownsRow w.heap.size 45 2 v cs.length (cs.flatMap objCells) ∧ HeldVs w' w.heap.size cs ∧ Below w.heap.size w w'
theorem VmOwn.out {kvs : List Kv} {w w' : World} {e : Ending} (h : VmOwn kvs w e w') : VmOut kvs w e w' := by
  obtain ⟨v, cs, hk, rfl, ho, hh, hb⟩ := h
  obtain ⟨a, cap, rfl, hA⟩ := vmAt_own ho hh (Nat.le_refl _)
  exact ⟨a, cs, cap, hk, rfl, hA, hb⟩
/-- More objects, all at once, with versions held behind. -/
theorem Gv.append {bo base mid : Nat} {w0 u w2 : World} {cs ys : List ObjD} {v v' : Value} (h : Gv bo base u cs v) (h0 : HeldVs w0 base cs) (hb0 : Below w0.heap.size w0 u) (hy : HeldVs u mid ys) (hm : w0.heap.size ≤ mid) (hlo : base ≤ w0.heap.size)
    (hown : w2.ownsRow base 45 2 v' (cs.length + ys.length) (cs.flatMap objCells ++ ys.flatMap objCells)) (hg : u.grownBy w2 v.ownBlock) :
    Boxed w2 bo 25 v ∧ Gv bo base (w2.setCell ⟨bo, 0, none⟩ v') (cs ++ ys) v' := by
  have hv2 : Boxed w2 bo 25 v := h.box.kept hg h.ne
  have hH : HeldVs u base (cs ++ ys) := h0.join hb0 hy hm hlo
  have hH2 : HeldVs w2 base (cs ++ ys) := hH.grown hg (objRow_not_ver h.own)
  refine ⟨hv2, hv2.set v', ?_, hH2.grown (grownBy_setCell' w2 bo v') (boxed_not_ver hv2 (by decide))⟩
  have := hown.kept (grownBy_setCell' w2 bo v') (.inr (hv2.not_row (by decide) hown).symm)
  rw [List.length_append, List.flatMap_append]
  exact this
/-- Two maps read, and their objects laid in a row of their own. -/
theorem vmAt_cat {w1 w2 : World} {lo lo1 hi1 lo2 hi2 n : Nat} {a1 a2 : Option Addr} {v : Value} {xs ys : List ObjD} (hn : n = xs.length + ys.length) (hown : w2.ownsRow w1.heap.size 45 2 v n ((xs ++ ys).flatMap objCells)) (hb : Below w1.heap.size w1 w2)
    (hA : VmAt w1 lo1 hi1 a1 xs) (hB : VmAt w1 lo2 hi2 a2 ys) (hd : hi1 ≤ lo2 ∨ hi2 ≤ lo1) (h1 : lo ≤ lo1) (h2 : lo ≤ lo2) (h3 : lo ≤ w1.heap.size) :
    ∃ a cap, v = .slice a (xs ++ ys).length cap ∧ VmAt w2 lo w2.heap.size a (xs ++ ys) := by
  subst hn
  have hA2 := hA.below hb
  have hB2 := hB.below hb
  have hj : ∀ {P : ObjD → Prop}, (∀ c ∈ xs, P c) → (∀ c ∈ ys, P c) → ∀ c ∈ xs ++ ys, P c := fun p q c hc => (List.mem_append.1 hc).elim (p c) (q c)
  have hl : ∀ c ∈ xs ++ ys, Lies lo w1.heap.size c.at_ := hj (fun o ho => (hA.l2 o ho).mono h1 hA.le) (fun o ho => (hB.l2 o ho).mono h2 hB.le)
  rcases Joins.ownsRow_forms hown with ⟨rfl, h0⟩ | ⟨g, cap, rfl⟩
  · have e1 : xs = [] := List.eq_nil_of_length_eq_zero (by omega)
    have e2 : ys = [] := List.eq_nil_of_length_eq_zero (by omega)
    subst e1 e2
    exact ⟨none, 0, rfl, VmAt.nil _ _ _ (Nat.le_refl _)⟩
  · have hg := hown.lt g rfl
    have hlen : xs.length + ys.length = (xs ++ ys).length := by simp
    rw [hlen] at hown ⊢
    have hin : ∀ o ∈ xs ++ ys, VersIn w2 o.at_ o.vers := hj (fun o ho => hA2.in1.mem ho) (fun o ho => hB2.in1.mem ho)
    have hap2 : (xs ++ ys).Pairwise fun x y => Apart x.at_ y.at_ := by
      rw [List.pairwise_append]
      refine ⟨hA.ap2, hB.ap2, fun x hx y hy => ?_⟩
      intro x1 o1 y1 p1 e1 e2
      have q1 := hA.l2 x hx _ _ e1
      have q2 := hB.l2 y hy _ _ e2
      omega
    refine ⟨some ⟨g, 0, none⟩, cap, rfl, .inr ⟨g, 0, rfl, hg.2, fun i hi => ?_⟩, own_free hown, (fun b off e => by cases e; exact ⟨by omega, hg.2⟩), Nat.le_refl _, hj hA2.fr2 hB2.fr2, (fun o ho => (hl o ho).mono (Nat.le_refl _) hb.size), fun o ho x p y q e1 e2 => ?_, hap2, hj hA.pl hB.pl⟩
    · have e0 := hown.cellAt (i * 2) (by omega)
      have e1 := hown.cellAt (i * 2 + 1) (by omega)
      have f0 := flat_at objCells 2 (fun _ => rfl) (xs ++ ys) i 0 hi (by omega)
      have f1 := flat_at objCells 2 (fun _ => rfl) (xs ++ ys) i 1 hi (by omega)
      rw [Nat.add_zero] at f0
      simp only [Nat.zero_add]
      exact ⟨e0.trans f0, e1.trans f1, hin _ (List.getElem_mem hi)⟩
    · cases e1
      have q2 := (hl o ho _ _ e2).2
      omega
end Go.Proofs.Ytjijichgoodocaa

/- Where a key stands, and its newest version, as the model finds them. -/
namespace Go.Proofs.Ytjijichgoodocaa
open Go.RowKit

def AtIdx (os : List ObjD) (key : ByteArray) (k : Nat) : Prop := k ≤ os.length ∧ ∀ i (h : i < os.length), i < k → Op.bytesLess os[i].key.toList key.toList = true
def L2At (os : List ObjD) (key : ByteArray) (w : World) (e : Ending) (w' : World) : Prop :=
  ∃ (k : Nat) (b : Bool), e = .returned (.tuple #[.int .i64 k, .bool b]) ∧ AtIdx os key k ∧ (∀ h : k < os.length, Op.bytesLess os[k].key.toList key.toList = false ∧ b = (os[k].key.toList == key.toList)) ∧ (os.length ≤ k → b = false) ∧ Below w.heap.size w w'

set_option maxHeartbeats 1000000 in
theorem l2At_any (a : Option Addr) (os : List ObjD) (cap : Nat) (key : ByteArray) (w : World) (hv : ObjsIn w a os) (hn : os.length ≤ 1048576) :
    Calls Try.prog 91 #[.agg #[.slice a os.length cap], .string key] w (L2At os key w) := by
  have HV := Lib.hid hv
  clear hv
  have HW := Lib.hid ((Below.refl w.heap.size w).alloc (Nat.le_refl _) (.cells #[.slice a os.length cap] 25))
  go_enter Try.func91, Try.ntmps91
  go_wp2_with fail
  go_loop [6] (fun i => ∃ k : Nat, i = .int .i64 k ∧ AtIdx os key k) (fun i => os.length - (intOf i).toNat)
  case atStart => exact ⟨0, rfl, Nat.zero_le _, fun i h hk => absurd hk (by omega)⟩
  case round =>
    obtain ⟨k, rfl, hA⟩ := hrel
    have hk := hA.1
    have HA := Lib.hid hA
    clear hA
    by_cases hlt : k < os.length
    · rcases HV.out.below HW.out with hnil | ⟨b1, o1, rfl, hb1, hc1⟩
      · rw [hnil] at hlt; simp at hlt
      obtain ⟨c0, c1, c2⟩ := hc1 k hlt
      clear hc1 c2
      cases hb : Op.bytesLess os[k].key.toList key.toList
      · cases he : (os[k].key.toList == key.toList)
        all_goals
          go_wp2_with fail
          go_quiet (fail)
          go_wp2_with fail
          go_ret2
          exact ⟨k, _, rfl, HA.out, fun _ => ⟨hb, he.symm⟩, fun h => absurd h (by omega), Below.drewN HW.out _⟩
      · go_wp2_with fail
        go_round
        case rel => exact ⟨k + 1, by go_num, by omega, fun i h hik => by
          by_cases e : i = k
          · subst e; exact hb
          · exact HA.out.2 i h (by omega)⟩
        case measure => simp [intOf]; omega
    · go_wp2_with fail
      go_quiet (fail)
      go_wp2_with fail
      go_ret2
      exact ⟨k, false, rfl, HA.out, fun h => absurd h hlt, fun _ => rfl, Below.drewN HW.out _⟩
end Go.Proofs.Ytjijichgoodocaa

/- One version put behind all of a key: what comes of it, in memory; appends of objects. -/
namespace Go.Proofs.Ytjijichgoodocaa
open Go.RowKit

theorem wpList_append_obj {w : World} {ops : Array Oper} {rest : List Oper} {o : Oper} {a : Act} {Q : Exit → Act → World → Prop} (hgd : o.guard = none) (s x : Operand) (t : TypeId)
    (ho : o.op = .call { callee := .builtin .append, args := #[s, x], argTypes := #[t, t] }) (ht : Try.prog.underlying t = some (.slice 45))
    (base : Nat) (v : Value) (n : Nat) (xs : List Value) (hs : a.eval s = v) (hown : w.ownsRow base 45 2 v n xs)
    (p : Option Addr) (ys : List ObjD) (m c : Nat) (hm : ys.length = m) (hx : a.eval x = .slice p m c) (hp : (∃ b off, p = some ⟨b, off, none⟩) ∨ p = none ∧ ys = [] ∧ c = 0) (hys : ObjsIn w p ys) (hnm : n + m ≤ 2097152) (hbase : base ≤ w.heap.size)
    (h : ∀ v' w', w'.ownsRow base 45 2 v' (n + m) (xs ++ ys.flatMap objCells) → w.grownBy w' v.ownBlock → wpList Try.prog ops Q rest (a.put o.dst v') w') : wpList Try.prog ops Q (o :: rest) a w := by
  subst hm
  obtain ⟨v', w', hr, h2, h3⟩ := run_append_obj base t o.type ht v n xs hown p ys c hp hys hnm hbase
  exact Lib.wpList_append_run w hgd s x t t ho v _ hs hx v' w' hr (h v' w' h2 h3)
theorem wpList_append_objS {w : World} {ops : Array Oper} {rest : List Oper} {o : Oper} {a : Act} {Q : Exit → Act → World → Prop} (hgd : o.guard = none) (s x : Operand) (t : TypeId)
    (ho : o.op = .call { callee := .builtin .append, args := #[s, x], argTypes := #[t, t] }) (ht : Try.prog.underlying t = some (.slice 45))
    (base : Nat) (v : Value) (n : Nat) (xs : List Value) (hs : a.eval s = v) (hown : w.ownsRow base 45 2 v n xs)
    (p : Option Addr) (ys : List ObjD) (m c N : Nat) (hm : ys.length = m) (hx : a.eval x = .slice p m c) (hp : (∃ b off, p = some ⟨b, off, none⟩) ∨ p = none ∧ ys = [] ∧ c = 0) (hys : ObjsIn w p ys) (hnm : n + m ≤ 2097152) (hbase : base ≤ w.heap.size) (hN : n + m = N) (h0 : 0 < N)
    (h : ∀ g cap w', w'.ownsRow base 45 2 (.slice (some ⟨g, 0, none⟩) N cap) N (xs ++ ys.flatMap objCells) → w.grownBy w' v.ownBlock → wpList Try.prog ops Q rest (a.put o.dst (.slice (some ⟨g, 0, none⟩) N cap)) w') : wpList Try.prog ops Q (o :: rest) a w := by
  refine wpList_append_obj hgd s x t ho ht base v n xs hs hown p ys m c hm hx hp hys hnm hbase fun v' w' h1 h2 => ?_
  subst hN
  rcases Joins.ownsRow_forms h1 with ⟨rfl, h9⟩ | ⟨g, cap, rfl⟩
  · omega
  · exact h g cap w' h1 h2
theorem step_append_obj {w : World} {ops : Array Oper} {o : Oper} {a : Act} {K : Act → World → Prop} {Q : Exit → Act → World → Prop} {E : Prop} (hgd : o.guard = none) (s x : Operand) (t : TypeId)
    (ho : o.op = .call { callee := .builtin .append, args := #[s, x], argTypes := #[t, t] }) (ht : Try.prog.underlying t = some (.slice 45))
    (base : Nat) (v : Value) (n : Nat) (xs : List Value) (hs : a.eval s = v) (hown : w.ownsRow base 45 2 v n xs)
    (p : Option Addr) (ys : List ObjD) (m c : Nat) (hm : ys.length = m) (hx : a.eval x = .slice p m c) (hp : (∃ b off, p = some ⟨b, off, none⟩) ∨ p = none ∧ ys = [] ∧ c = 0) (hys : ObjsIn w p ys) (hnm : n + m ≤ 2097152) (hbase : base ≤ w.heap.size)
    (h : ∀ v' w', w'.ownsRow base 45 2 v' (n + m) (xs ++ ys.flatMap objCells) → w.grownBy w' v.ownBlock → K (a.put o.dst v') w') :
    if Region.wanted o (yielded ops a.tmps) = true then Oper.wp Try.prog o a w K Q else E := by
  subst hm
  have hw : Region.wanted o (yielded ops a.tmps) = true := by simp [Region.wanted, hgd]
  rw [if_pos hw]
  obtain ⟨v', w', hr, h2, h3⟩ := run_append_obj base t o.type ht v n xs hown p ys c hp hys hnm hbase
  exact Lib.wp_append_run w s x t t ho v _ hs hx v' w' hr (h v' w' h2 h3)

/-- Onto no version; one version more. -/
theorem step_append_ver0 {w : World} {ops : Array Oper} {o : Oper} {a : Act} {K : Act → World → Prop} {Q : Exit → Act → World → Prop} {E : Prop} (hgd : o.guard = none) (s x : Operand) (t : TypeId)
    (ho : o.op = .call { callee := .builtin .append, args := #[s, x], argTypes := #[t, t] }) (ht : Try.prog.underlying t = some (.slice 27))
    (base : Nat) (v : Value) (hs : a.eval s = v) (hown : w.ownsRow base 27 3 v 0 [])
    (p : Option Addr) (vs : List VerD) (c : Nat) (hx : a.eval x = .slice p vs.length c) (hp : (∃ b off, p = some ⟨b, off, none⟩) ∨ p = none ∧ vs = [] ∧ c = 0) (hvs : VersIn w p vs) (hnm : vs.length ≤ 2097152) (hbase : base ≤ w.heap.size) (hv : v ≠ .slice none 0 0)
    (h : ∀ g cap w', w'.ownsRow base 27 3 (.slice (some ⟨g, 0, none⟩) vs.length cap) vs.length (vs.flatMap verCells) → w.grownBy w' v.ownBlock → K (a.put o.dst (.slice (some ⟨g, 0, none⟩) vs.length cap)) w') :
    if Region.wanted o (yielded ops a.tmps) = true then Oper.wp Try.prog o a w K Q else E := by
  refine step_append_ver hgd s x t ho ht base v 0 [] hs hown p vs c hx hp hvs (by omega) hbase hv fun g cap w' h1 h2 => ?_
  rw [Nat.zero_add, List.nil_append] at h1
  rw [Nat.zero_add]
  exact h g cap w' h1 h2
theorem step_append_ver1 {w : World} {ops : Array Oper} {o : Oper} {a : Act} {K : Act → World → Prop} {Q : Exit → Act → World → Prop} {E : Prop} (hgd : o.guard = none) (s x : Operand) (t : TypeId)
    (ho : o.op = .call { callee := .builtin .append, args := #[s, x], argTypes := #[t, t] }) (ht : Try.prog.underlying t = some (.slice 27))
    (base : Nat) (v : Value) (n : Nat) (xs : List Value) (hs : a.eval s = v) (hown : w.ownsRow base 27 3 v n xs)
    (p : Option Addr) (y : VerD) (hx : a.eval x = .slice p 1 1) (hp : ∃ b off, p = some ⟨b, off, none⟩) (hvs : VersIn w p [y]) (hnm : n + 1 ≤ 2097152) (hbase : base ≤ w.heap.size) (hv : v ≠ .slice none 0 0)
    (h : ∀ g cap w', w'.ownsRow base 27 3 (.slice (some ⟨g, 0, none⟩) (n + 1) cap) (n + 1) (xs ++ verCells y) → w.grownBy w' v.ownBlock → K (a.put o.dst (.slice (some ⟨g, 0, none⟩) (n + 1) cap)) w') :
    if Region.wanted o (yielded ops a.tmps) = true then Oper.wp Try.prog o a w K Q else E := by
  refine step_append_ver hgd s x t ho ht base v n xs hs hown p [y] 1 hx (.inl hp) hvs hnm hbase hv fun g cap w' h1 h2 => ?_
  have h1' : w'.ownsRow base 27 3 (.slice (some ⟨g, 0, none⟩) (n + 1) cap) (n + 1) (xs ++ verCells y) := by simpa using h1
  exact h g cap w' h1' h2

/-- A slice of objects lies in a block, or is nil. -/
def PlainO (a : Option Addr) (os : List ObjD) (cap : Nat) : Prop := ((∃ b off, a = some ⟨b, off, none⟩) ∨ a = none ∧ os = [] ∧ cap = 0) ∧ os.length ≤ cap ∧ cap ≤ maxLen
theorem ObjsIn.take {w : World} {b off : Nat} {os : List ObjD} (n : Nat) (h : ObjsIn w (some ⟨b, off, none⟩) os) : ObjsIn w (some ⟨b, off, none⟩) (os.take n) := by
  rcases h with rfl | ⟨b', off', e, hb, hc⟩
  · exact .inl (by simp)
  · cases e
    refine .inr ⟨b, off, rfl, hb, fun i hi => ?_⟩
    rw [List.length_take] at hi
    rw [List.getElem_take]
    exact hc i (by omega)
theorem ObjsIn.drop {w : World} {b off n : Nat} {os : List ObjD} {p : Option Addr} (h : ObjsIn w (some ⟨b, off, none⟩) os) (hp : os.length ≤ n ∨ p = some ⟨b, off + n * 2, none⟩) : ObjsIn w p (os.drop n) := by
  rcases hp with hn | rfl
  · exact .inl (List.drop_eq_nil_of_le hn)
  · rcases h with rfl | ⟨b', off', e, hb, hc⟩
    · exact .inl (by simp)
    · cases e
      refine .inr ⟨b, off + n * 2, rfl, hb, fun i hi => ?_⟩
      rw [List.length_drop] at hi
      rw [List.getElem_drop]
      have := hc (n + i) (by omega)
      rw [show off + n * 2 + i * 2 = off + (n + i) * 2 by omega]
      exact this

/-- What is put: the objects ahead, the new one, those behind. -/
def putObjs (os : List ObjD) (k : Nat) (there : Bool) (x : ObjD) : List ObjD := os.take k ++ x :: os.drop (if there then k + 1 else k)
def versAt (os : List ObjD) (k : Nat) (there : Bool) : List VerD := if there then (match os[k]? with | some o => o.vers | none => []) else []
def PutPost (os : List ObjD) (key : ByteArray) (v : VerD) (w : World) (e : Ending) (w' : World) : Prop :=
  ∃ (k : Nat) (b : Bool) (x : ObjD) (r : Value), AtIdx os key k ∧ (∀ h : k < os.length, Op.bytesLess os[k].key.toList key.toList = false ∧ b = (os[k].key.toList == key.toList)) ∧ (os.length ≤ k → b = false) ∧
    x.key = key ∧ x.vers = versAt os k b ++ [v] ∧ e = .returned (.agg #[r]) ∧ w'.ownsRow w.heap.size 45 2 r (putObjs os k b x).length ((putObjs os k b x).flatMap objCells) ∧
    VersIn w' x.at_ x.vers ∧ Free w' x.at_ (x.vers.length * 3) ∧ Lies w.heap.size w'.heap.size x.at_ ∧ OfVer w' x.at_ ∧ x.plain ∧ Below w.heap.size w w'
theorem putObjs_cells (os : List ObjD) (k : Nat) (there : Bool) (x : ObjD) : (putObjs os k there x).flatMap objCells = ((os.take k).flatMap objCells ++ objCells x) ++ (os.drop (if there then k + 1 else k)).flatMap objCells := by
  simp [putObjs, List.flatMap_append, List.flatMap_cons]
theorem putObjs_len {os : List ObjD} {k : Nat} {there : Bool} {x : ObjD} (hk : k ≤ os.length) : (putObjs os k there x).length = k + 1 + (os.drop (if there then k + 1 else k)).length := by
  simp [putObjs]; omega
theorem versIn_new (w : World) (v : VerD) (t : TypeId) (g : Nat) (hg : w.heap.size = g) : VersIn (w.alloc (.cells #[.int .i64 v.id, .string v.text, .bool v.gone] t)) (some ⟨g, 0, none⟩) [v] := by
  subst hg
  refine .inr ⟨w.heap.size, 0, rfl, by simp, fun i hi => ?_⟩
  obtain rfl : i = 0 := by simp at hi; omega
  exact ⟨by simp [go_sem], by simp [go_sem], by simp [go_sem]⟩
end Go.Proofs.Ytjijichgoodocaa
