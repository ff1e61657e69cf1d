/- Marks of maps that belong to a call. -/
import Derived.Test.YtjijichgoodocaaVmAt
namespace Go.Proofs.Ytjijichgoodocaa
open Go.RowKit

theorem set_atEq {os : List ObjD} {j : Nat} {x : ObjD} (hj : j < os.length) (e : x.at_ = os[j].at_) (i : Nat) (hi : i < (os.set j x).length) : (os.set j x)[i].at_ = (os[i]'(by simpa using hi)).at_ := by
  rw [List.getElem_set]
  split
  · rename_i h; subst h; exact e
  · rfl
theorem set_mem {os : List ObjD} {j : Nat} {x o : ObjD} (hj : j < os.length) (h : o ∈ os.set j x) : (∃ i, ∃ (hi : i < os.length), i ≠ j ∧ o = os[i]) ∨ o = x := by
  obtain ⟨i, hi, rfl⟩ := List.getElem_of_mem h
  rw [List.getElem_set]
  split
  · exact .inr rfl
  · rename_i h'; exact .inl ⟨i, by simpa using hi, fun e => h' e.symm, rfl⟩

theorem VmAt.setKey {w : World} {lo hi b off : Nat} {os : List ObjD} (h : VmAt w lo hi (some ⟨b, off, none⟩) os) {j : Nat} (hj : j < os.length) (s : ByteArray) :
    VmAt (w.setCell ⟨b, off + j * 2, none⟩ (.string s)) lo hi (some ⟨b, off, none⟩) (os.set j { os[j] with key := s }) := by
  have hT : Turned (fun c => c = b) w (w.setCell ⟨b, off + j * 2, none⟩ (.string s)) := (Turned.refl (fun c => c = b) _).setCell (p := ⟨b, off + j * 2, none⟩) rfl _
  have hoff : ∀ o ∈ os, OffS (fun c => c = b) o.at_ := fun o ho c p e q => h.ap1 o ho b off c p rfl e q.symm
  have hx : ∀ o ∈ os.set j { os[j] with key := s }, ∃ o' ∈ os, o.at_ = o'.at_ ∧ o.vers = o'.vers := fun o ho => by
    rcases set_mem hj ho with ⟨i, hi, _, rfl⟩ | rfl
    · exact ⟨_, List.getElem_mem hi, rfl, rfl⟩
    · exact ⟨_, List.getElem_mem hj, rfl, rfl⟩
  refine ⟨?_, ?_, h.l1, by simpa using h.le, ?_, ?_, ?_, ?_, fun o ho => ?_⟩
  · rcases h.in1 with hn | ⟨b1, o1, e, hlt, hc⟩
    · rw [hn] at hj; simp at hj
    cases e
    refine .inr ⟨b, off, rfl, by simpa using hlt, fun i hi => ?_⟩
    have hi' : i < os.length := by simpa using hi
    obtain ⟨c0, c1, c2⟩ := hc i hi'
    by_cases e : i = j
    · subst e
      simp only [List.getElem_set_self]
      refine ⟨World.cell?_setCell_same _ _ _ c0, ?_, c2.turned (hoff _ (List.getElem_mem hi')) hT⟩
      rw [cell_off (by omega)]; exact c1
    · rw [List.getElem_set_ne (fun q => e q.symm)]
      refine ⟨?_, ?_, c2.turned (hoff _ (List.getElem_mem hi')) hT⟩
      · rw [cell_off (by omega)]; exact c0
      · rw [cell_off (by omega)]; exact c1
  · rw [List.length_set]
    rcases h.fr1 with h0 | ⟨b1, o1, e, hlt, hc⟩
    · exact .inl h0
    cases e
    refine .inr ⟨b, off, rfl, by simpa using hlt, fun i hi => ⟨?_, by rw [World.frozen?_setCell]; exact (hc i hi).2⟩⟩
    obtain ⟨v, hv⟩ := (hc i hi).1
    exact cell?_setCell_some hv
  · intro o ho
    obtain ⟨o', ho', e1, e2⟩ := hx o ho
    rw [e1, e2]
    exact (h.fr2 o' ho').turned (hoff o' ho') hT
  · intro o ho
    obtain ⟨o', ho', e1, _⟩ := hx o ho
    rw [e1]; exact h.l2 o' ho'
  · intro o ho
    obtain ⟨o', ho', e1, _⟩ := hx o ho
    rw [e1]; exact h.ap1 o' ho'
  · rw [List.pairwise_iff_getElem]
    intro i k hi hk hik
    rw [set_atEq (x := { os[j] with key := s }) hj rfl, set_atEq (x := { os[j] with key := s }) hj rfl]
    exact (List.pairwise_iff_getElem.1 h.ap2) i k (by simpa using hi) (by simpa using hk) hik
  · rcases set_mem hj ho with ⟨i, hi, _, rfl⟩ | rfl
    · exact h.pl _ (List.getElem_mem hi)
    · exact h.pl os[j] (List.getElem_mem hj)

theorem VmAt.setVers {w w' : World} {lo hi : Nat} {a : Option Addr} {os : List ObjD} (h : VmAt w lo hi a os) {j : Nat} (hj : j < os.length) (vs : List VerD) (hl : vs.length = os[j].vers.length)
    (hv : VersIn w' os[j].at_ vs) (hf : Free w' os[j].at_ (vs.length * 3)) (ht : Turned (fun c => ∃ p, os[j].at_ = some ⟨c, p, none⟩) w w') :
    VmAt w' lo hi a (os.set j { os[j] with vers := vs }) := by
  have hoa : OffS (fun c => ∃ p, os[j].at_ = some ⟨c, p, none⟩) a := fun c q e ⟨p, e2⟩ => h.ap1 _ (List.getElem_mem hj) c q c p e e2 rfl
  have hoff : ∀ i (hi : i < os.length), i ≠ j → OffS (fun c => ∃ p, os[j].at_ = some ⟨c, p, none⟩) os[i].at_ := fun i hi hne c q e ⟨p, e2⟩ => by
    rcases Nat.lt_or_gt_of_ne hne with q1 | q1
    · exact (List.pairwise_iff_getElem.1 h.ap2) i j hi hj q1 c q c p e e2 rfl
    · exact (List.pairwise_iff_getElem.1 h.ap2) j i hj hi q1 c p c q e2 e rfl
  refine ⟨?_, ?_, h.l1, Nat.le_trans h.le ht.size, ?_, ?_, ?_, ?_, fun o ho => ?_⟩
  · rcases h.in1 with hn | ⟨b1, o1, e, hlt, hc⟩
    · rw [hn] at hj; simp at hj
    subst e
    refine .inr ⟨b1, o1, rfl, Nat.lt_of_lt_of_le hlt ht.size, fun i hi => ?_⟩
    have hi' : i < os.length := by simpa using hi
    obtain ⟨c0, c1, c2⟩ := hc i hi'
    have d0 := (ht.cell (p := ⟨b1, o1 + i * 2, none⟩) hlt (hoa b1 o1 rfl)).trans c0
    have d1 := (ht.cell (p := ⟨b1, o1 + i * 2 + 1, none⟩) hlt (hoa b1 o1 rfl)).trans c1
    by_cases e : i = j
    · subst e
      simp only [List.getElem_set_self]
      exact ⟨d0, by rw [hl]; exact d1, hv⟩
    · rw [List.getElem_set_ne (fun q => e q.symm)]
      exact ⟨d0, d1, c2.turned (hoff i hi' e) ht⟩
  · rw [List.length_set]; exact h.fr1.turned hoa ht
  · intro o ho
    rcases set_mem hj ho with ⟨i, hi, hne, rfl⟩ | rfl
    · exact (h.fr2 _ (List.getElem_mem hi)).turned (hoff i hi hne) ht
    · exact hf
  · intro o ho
    rcases set_mem hj ho with ⟨i, hi, hne, rfl⟩ | rfl
    · exact h.l2 _ (List.getElem_mem hi)
    · exact h.l2 os[j] (List.getElem_mem hj)
  · intro o ho
    rcases set_mem hj ho with ⟨i, hi, hne, rfl⟩ | rfl
    · exact h.ap1 _ (List.getElem_mem hi)
    · exact h.ap1 os[j] (List.getElem_mem hj)
  · rw [List.pairwise_iff_getElem]
    intro i k hi hk hik
    rw [set_atEq (x := { os[j] with vers := vs }) hj rfl, set_atEq (x := { os[j] with vers := vs }) hj rfl]
    exact (List.pairwise_iff_getElem.1 h.ap2) i k (by simpa using hi) (by simpa using hk) hik
  · rcases set_mem hj ho with ⟨i, hi, _, rfl⟩ | rfl
    · exact h.pl _ (List.getElem_mem hi)
    · obtain ⟨q, q4, q5⟩ := h.pl os[j] (List.getElem_mem hj)
      refine ⟨?_, by show vs.length ≤ os[j].cap; rw [hl]; exact q4, q5⟩
      rcases q with q | ⟨q1, q2, q3⟩
      · exact .inl q
      · refine .inr ⟨q1, ?_, q3⟩
        rw [q2] at hl
        exact List.eq_nil_of_length_eq_zero (by simpa using hl)

def objW (o : ObjD) : Nat := 1 + o.vers.length * 3
def objOff (os : List ObjD) (j : Nat) : Nat := ((os.take j).map objW).sum
def objOffAll (os : List ObjD) : Nat := (os.map objW).sum
theorem objOff_all (os : List ObjD) : objOff os os.length = objOffAll os := by simp [objOff, objOffAll]
theorem objOff_zero (os : List ObjD) : objOff os 0 = 0 := by simp [objOff]
theorem objOff_succ (os : List ObjD) (j : Nat) (h : j < os.length) : objOff os (j + 1) = objOff os j + (1 + os[j].vers.length * 3) := by
  unfold objOff
  rw [List.take_succ_eq_append_getElem h, List.map_append, List.sum_append]
  simp [objW]
theorem objOff_ge (os : List ObjD) : os.length ≤ objOff os os.length := by
  rw [objOff_all, objOffAll]
  induction os with
  | nil => simp
  | cons o t ih => rw [List.map_cons, List.sum_cons, List.length_cons]; have : 1 ≤ objW o := Nat.le_add_right _ _; omega
theorem objOff_le (os : List ObjD) (j : Nat) (h : j < os.length) : objOff os j + (1 + os[j].vers.length * 3) ≤ objOff os os.length := by
  rw [← objOff_succ os j h]
  have : ∀ i, j + 1 + i ≤ os.length → objOff os (j + 1) ≤ objOff os (j + 1 + i) := by
    intro i
    induction i with
    | zero => intro _; exact Nat.le_refl _
    | succ i ih =>
      intro hi
      have := objOff_succ os (j + 1 + i) (by omega)
      have := ih (by omega)
      rw [show j + 1 + (i + 1) = j + 1 + i + 1 by omega]
      omega
  have := this (os.length - (j + 1)) (by omega)
  rwa [show j + 1 + (os.length - (j + 1)) = os.length by omega] at this
def markObj (k : Nat) (o : ObjD) : ObjD := ⟨mtext k, o.at_, o.cap, Vermarks (k + 1) o.vers.length⟩
def mkTo (k : Nat) (os : List ObjD) (j : Nat) : List ObjD := os.mapIdx fun i o => if i < j then markObj (k + objOff os i) o else o
theorem mkTo_length (k : Nat) (os : List ObjD) (j : Nat) : (mkTo k os j).length = os.length := by simp [mkTo]
theorem mkTo_zero (k : Nat) (os : List ObjD) : mkTo k os 0 = os := by
  apply List.ext_getElem (by simp [mkTo])
  intro i h1 h2
  simp [mkTo]
theorem mkTo_at (k : Nat) (os : List ObjD) (j i : Nat) (h : i < (mkTo k os j).length) : (mkTo k os j)[i] = if i < j then markObj (k + objOff os i) (os[i]'(by simpa [mkTo] using h)) else os[i]'(by simpa [mkTo] using h) := by
  simp [mkTo]
theorem mkTo_succ (k : Nat) (os : List ObjD) (j : Nat) (hj : j < os.length) : mkTo k os (j + 1) = ((mkTo k os j).set j (markObj (k + objOff os j) os[j])) := by
  apply List.ext_getElem (by simp [mkTo])
  intro i h1 h2
  rw [mkTo_at k os (j + 1) i h1, List.getElem_set]
  by_cases e : j = i
  · subst e; simp
  · simp only [if_neg e]
    rw [mkTo_at]
    by_cases q : i < j
    · rw [if_pos q, if_pos (by omega)]
    · rw [if_neg q, if_neg (by omega)]

def VmMarked (lo hi : Nat) (a : Option Addr) (k : Nat) (os : List ObjD) (w : World) (e : Ending) (w' : World) : Prop :=
  e = .returned (.int .i64 ((k + objOff os os.length : Nat) : Int)) ∧ VmAt w' lo hi a (mkTo k os os.length) ∧ Turned (fun b => lo ≤ b ∧ b < hi) w w'

set_option maxRecDepth 100000 in
set_option maxHeartbeats 2000000 in
theorem markObjS_at {a : Option Addr} {os : List ObjD} {n c lo hi k : Nat} {w : World} (hn : os.length = n) (h : VmAt w lo hi a os) (hk : 1 ≤ k) (hkn : k + objOff os os.length ≤ 100000000) :
    Calls Try.prog 130 #[.slice a n c, .int .i64 (k : Int)] w (VmMarked lo hi a k os w) := by
  have H0 := Lib.hid h
  have hnn : n ≤ 100000000 := by have := objOff_ge os; omega
  have HN := Lib.hid hn
  clear h hn
  go_enter Try.func130, Try.ntmps130
  go_wp2_with fail
  go_loopw [1, 5] (fun l i wr => ∃ j : Nat, j ≤ n ∧ i = .int .i64 j ∧ l = .int .i64 ((k + objOff os j : Nat) : Int) ∧ VmAt wr lo hi a (mkTo k os j) ∧ Turned (fun b => lo ≤ b ∧ b < hi) w wr) (fun _ i _ => n - (intOf i).toNat)
  case atStart => exact ⟨0, Nat.zero_le _, rfl, by rw [objOff_zero]; simp, by rw [mkTo_zero]; exact H0.out, Turned.refl _ _⟩
  case round =>
    obtain ⟨j, hj, rfl, rfl, hA, hT⟩ := hrel
    have HT := Lib.hid hT
    clear hT
    by_cases hlt : j < n
    · have hlt' : j < os.length := by rw [HN.out]; exact hlt
      have hln : j < (mkTo k os j).length := by rw [mkTo_length]; exact hlt'
      have hat : (mkTo k os j)[j] = os[j] := by rw [mkTo_at]; simp
      have hle := objOff_le os j hlt'
      rcases hA.in1 with hnil | ⟨b, off, rfl, hb, hc⟩
      · rw [hnil] at hln; simp at hln
      obtain ⟨c0, c1, c2⟩ := hc j hln
      have hff : wr.frozen? ⟨b, off + j * 2, none⟩ = false := by
        rcases hA.fr1 with q | ⟨b1, o1, e, hlt1, hc1⟩
        · omega
        · cases e; exact (hc1 (j * 2) (by rw [mkTo_length]; omega)).2
      have HA := Lib.hid hA
      rw [hat] at c0 c1
      have hbl := hA.l1 b off rfl
      clear hc c2 hA
      go_wp2_with fail
      refine (markText_at (k + objOff os j) rfl _ (by omega) (by omega)).mono ?_
      rintro e w2 ⟨rfl, hb2⟩
      have c0' := (hb2.cell (p := ⟨b, off + j * 2, none⟩) hb).trans c0
      have c1' := (hb2.cell (p := ⟨b, off + j * 2 + 1, none⟩) hb).trans c1
      have ff' := (hb2.frozen (p := ⟨b, off + j * 2, none⟩) hb).trans hff
      have HA2 := Lib.hid (HA.out.below hb2)
      have HT2 := Lib.hid (HT.out.trans (Turned.of_below hb2))
      clear hb2 c0 c1 hff
      obtain ⟨W3, hW3⟩ : ∃ W3, w2.setCell ⟨b, off + j * 2, none⟩ (.string (mtext (k + objOff os j))) = W3 := ⟨_, rfl⟩
      have HA3 := Lib.hid (HA2.out.setKey hln (mtext (k + objOff os j)))
      have HT3 := Lib.hid (HT2.out.setCell (p := ⟨b, off + j * 2, none⟩) hbl (.string (mtext (k + objOff os j))))
      have c13 : W3.cell? ⟨b, off + j * 2 + 1, none⟩ = some (.slice os[j].at_ os[j].vers.length os[j].cap) := by rw [← hW3, cell_off (by omega)]; exact c1'
      rw [hW3] at HA3 HT3
      go_wp2_with fail
      clear hW3
      have hln3 : j < ((mkTo k os j).set j { (mkTo k os j)[j] with key := mtext (k + objOff os j) }).length := by rw [List.length_set]; exact hln
      have hfr := HA3.out.fr2 _ (List.getElem_mem hln3)
      rw [List.getElem_set_self] at hfr
      simp only [hat] at hfr
      refine (markVerS_any (fun c => ∃ p, os[j].at_ = some ⟨c, p, none⟩) os[j].at_ os[j].vers.length os[j].cap (k + objOff os j + 1) _ hfr (fun c p e => ⟨p, e⟩) (by omega) (by omega)).mono ?_
      rintro e w4 ⟨rfl, m1, m2, m3⟩
      have hv4 := HA3.out.setVers hln3 (Vermarks (k + objOff os j + 1) os[j].vers.length) (by rw [List.getElem_set_self, hat, Vermarks_length]) (by rw [List.getElem_set_self, hat]; exact m1) (by rw [List.getElem_set_self, hat, Vermarks_length]; exact m2) (by rw [List.getElem_set_self, hat]; exact m3)
      have hlv := HA3.out.l2 _ (List.getElem_mem hln3)
      rw [List.getElem_set_self] at hlv
      simp only [hat] at hlv
      have HT4 := Lib.hid (HT3.out.trans (m3.mono (fun c _ ⟨p, e⟩ => hlv c p e)))
      have HA4 := Lib.hid hv4
      clear hfr hlv hv4 m1 m2 m3 c13
      go_wp2_with fail
      go_roundw
      case rel =>
        refine ⟨j + 1, by omega, by go_num, ?_, ?_, HT4.out⟩
        · rw [show k + objOff os (j + 1) = k + objOff os j + 1 + os[j].vers.length * 3 by rw [objOff_succ os j hlt']; omega]; go_num
        · have := HA4.out
          rw [List.set_set, List.getElem_set_self, hat] at this
          rw [mkTo_succ k os j hlt']
          exact this
      case measure => simp [intOf]; omega
    · obtain rfl : j = n := by omega
      go_wp2_with fail
      go_ret
      refine ⟨by rw [HN.out]; rfl, ?_, HT.out⟩
      rw [HN.out]; exact hA

theorem markVmap_at {a : Option Addr} {os : List ObjD} {n c lo hi k : Nat} {w : World} (hn : os.length = n) (h : VmAt w lo hi a os) (hk : 1 ≤ k) (hkn : k + objOff os os.length ≤ 100000000) :
    Calls Try.prog 68 #[.agg #[.slice a n c], .int .i64 (k : Int)] w (VmMarked lo hi a k os w) := by
  have H0 := Lib.hid h
  have HN := Lib.hid hn
  clear h hn
  have hb0 : Below w.heap.size w (w.alloc (.cells #[.slice a n c] 25)) := (Below.refl _ _).alloc (Nat.le_refl _) _
  go_enter Try.func68, Try.ntmps68
  go_wp2_with fail
  refine (markObjS_at HN.out (H0.out.below hb0) hk hkn).mono ?_
  rintro e w2 ⟨rfl, h1, h2⟩
  have H1 := Lib.hid h1
  have H2 := Lib.hid ((Turned.of_below hb0).trans h2)
  clear h1 h2 hb0
  go_wp2_with fail
  go_ret
  exact ⟨rfl, H1.out, H2.out⟩

set_option maxRecDepth 100000 in
set_option maxHeartbeats 2000000 in
theorem heldObjS_any (a : Option Addr) (os : List ObjD) (n c k : Nat) (w : World) (hn : os.length = n) (hv : ObjsIn w a (mkTo k os os.length)) (hk : 1 ≤ k) (hkn : k + objOff os os.length ≤ 100000000) :
    Calls Try.prog 131 #[.slice a n c, .int .i64 (k : Int)] w fun e w' => e = .returned (.int .i64 ((k + objOff os os.length : Nat) : Int)) ∧ Below w.heap.size w w' := by
  have HV := Lib.hid hv
  have hnn : n ≤ 100000000 := by have := objOff_ge os; omega
  have HN := Lib.hid hn
  clear hv hn
  go_enter Try.func131, Try.ntmps131
  go_wp2_with fail
  go_loopw [1, 5] (fun l i wr => ∃ j : Nat, j ≤ n ∧ i = .int .i64 j ∧ l = .int .i64 ((k + objOff os j : Nat) : Int) ∧ Below w.heap.size w wr) (fun _ i _ => n - (intOf i).toNat)
  case atStart => exact ⟨0, Nat.zero_le _, rfl, by rw [objOff_zero]; simp, Below.refl _ _⟩
  case round =>
    obtain ⟨j, hj, rfl, rfl, hB⟩ := hrel
    have HB := Lib.hid hB
    clear hB
    by_cases hlt : j < n
    · have hlt' : j < os.length := by rw [HN.out]; exact hlt
      have hle := objOff_le os j hlt'
      rcases HV.out.below HB.out with hnil | ⟨b1, o1, rfl, hb1, hc1⟩
      · have := congrArg List.length hnil; rw [mkTo_length] at this; simp at this; rw [this] at hlt'; simp at hlt'
      obtain ⟨c0, c1, c2⟩ := hc1 j (by rw [mkTo_length]; exact hlt')
      simp only [mkTo_at, if_pos hlt', markObj, Vermarks_length] at c0 c1 c2
      have C2 := Lib.hid c2
      clear hc1 c2
      have y0 := cell_regrown c0
      go_wp2_with fail
      refine wp_region_quiet_below (by kernel_rfl) (by kernel_rfl) ?_
      repeat (go_big_quiet_step ((go_at_call 172; exact Calls.regrown_of (markText_at (k + objOff os j) rfl _ (by omega) (by omega)))))
      refine wpQuiet_nil ?_
      intro _ hw'
      obtain ⟨⟨dq0, osq0⟩, hw''⟩ := hw'
      subst hw''
      replace c1 := cell_regrown c1 dq0 osq0
      have C3 := Lib.hid (C2.out.below (below_regrown _ dq0 osq0))
      clear y0 c0
      have HB0 := Lib.hid (HB.out.trans ((below_regrown _ dq0 osq0).mono HB.out.size))
      go_wp2_with fail
      refine (heldVerS_any os[j].at_ os[j].vers.length os[j].cap (k + objOff os j + 1) _ C3.out (by omega) (by omega)).mono ?_
      rintro e w4 ⟨rfl, hb4⟩
      have HB4 := Lib.hid (HB0.out.trans (hb4.mono HB0.out.size))
      clear hb4 c1
      have hnn : ¬ (((k + objOff os j + 1 + os[j].vers.length * 3 : Nat) : Int) < 0) := by omega
      go_wp2_with fail
      go_roundw
      case rel => exact ⟨j + 1, by omega, by go_num, by rw [show k + objOff os (j + 1) = k + objOff os j + 1 + os[j].vers.length * 3 by rw [objOff_succ os j hlt']; omega]; go_num, HB4.out⟩
      case measure => simp [intOf]; omega
    · obtain rfl : j = n := by omega
      go_wp2_with fail
      go_ret
      exact ⟨by rw [HN.out]; rfl, HB.out⟩

theorem heldVmap_at {a : Option Addr} {os : List ObjD} {n c lo hi k : Nat} {w : World} (hn : os.length = n) (h : VmAt w lo hi a (mkTo k os os.length)) (hk : 1 ≤ k) (hkn : k + objOff os os.length ≤ 100000000) :
    Calls Try.prog 69 #[.agg #[.slice a n c], .int .i64 (k : Int)] w fun e w' => e = .returned (.int .i64 ((k + objOff os os.length : Nat) : Int)) ∧ Below w.heap.size w w' := by
  have H0 := Lib.hid h.in1
  have HN := Lib.hid hn
  clear h hn
  have hb0 : Below w.heap.size w (w.alloc (.cells #[.slice a n c] 25)) := (Below.refl _ _).alloc (Nat.le_refl _) _
  have hnn : ¬ (((k + objOff os os.length : Nat) : Int) < 0) := by omega
  go_enter Try.func69, Try.ntmps69
  go_wp2_with fail
  refine (heldObjS_any a os n c k _ HN.out (H0.out.below hb0) hk hkn).mono ?_
  rintro e w2 ⟨rfl, h1⟩
  have H1 := Lib.hid (hb0.trans (h1.mono (by simp)))
  clear h1 hb0
  go_wp2_with fail
  go_ret
  exact ⟨rfl, H1.out⟩
end Go.Proofs.Ytjijichgoodocaa
