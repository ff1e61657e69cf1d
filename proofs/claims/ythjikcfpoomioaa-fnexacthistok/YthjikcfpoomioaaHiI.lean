/- When what was decided is ok, as the program tells it: an iterator over entries. -/
import Derived.RangeFuncNested
import Derived.RangeFuncBound
import Derived.RangeFuncCalls
import Derived.RangeFuncLeaves
import Derived.Shelf.Abstract
import Derived.Shelf.RegionOpen
import Derived.WalkKit
import Derived.OwnWalkIn
import Derived.TacticsInMore
import Derived.LoopNIn
import Derived.LoopIn
import Derived.Test.YthjikcfpoomioaaHiS
import Derived.Test.YthjikcfpoomioaaMapOk
namespace Go.Proofs.Ythjikcfpoomioaa
open Go.RowKit Go.Shelf
attribute [local go_sem] Oper.semAt_some

/-- An entry, and where its lists lie. -/
structure EntP where
  e : EntD
  a1 : Option Addr
  a2 : Option Addr
  k1 : Nat
  k2 : Nat
def PlacedIn (u : World) (a : Option Addr) (ps : List EntP) : Prop :=
  ps = [] ∨ ∃ b off, a = some ⟨b, off, none⟩ ∧ b < u.heap.size ∧ ∀ i (h : i < ps.length), u.cell? ⟨b, off + i * 4, none⟩ = some (.int .i64 ps[i].e.id) ∧ u.cell? ⟨b, off + i * 4 + 1, none⟩ = some (.int .i64 ps[i].e.tid) ∧ u.cell? ⟨b, off + i * 4 + 2, none⟩ = some (.slice ps[i].a1 ps[i].e.ws.length ps[i].k1) ∧ u.cell? ⟨b, off + i * 4 + 3, none⟩ = some (.slice ps[i].a2 ps[i].e.us.length ps[i].k2) ∧ WantsIn u ps[i].a1 ps[i].e.ws ∧ WritesIn u ps[i].a2 ps[i].e.us
theorem PlacedIn.below {u v : World} {a : Option Addr} {ps : List EntP} (h : PlacedIn u a ps) (hb : Below u.heap.size u v) : PlacedIn v a ps := by
  rcases h with h | ⟨b, off, e, hlt, hc⟩
  · exact .inl h
  · refine .inr ⟨b, off, e, Nat.lt_of_lt_of_le hlt hb.size, fun i hi => ?_⟩
    obtain ⟨h0, h1, h2, h3, h4, h5⟩ := hc i hi
    exact ⟨(hb.cell (p := ⟨b, off + i * 4, none⟩) hlt).trans h0, (hb.cell (p := ⟨b, off + i * 4 + 1, none⟩) hlt).trans h1, (hb.cell (p := ⟨b, off + i * 4 + 2, none⟩) hlt).trans h2, (hb.cell (p := ⟨b, off + i * 4 + 3, none⟩) hlt).trans h3, h4.below hb, h5.below hb⟩
theorem PlacedIn.mem {u : World} {a : Option Addr} {ps : List EntP} (h : PlacedIn u a ps) {p : EntP} (hp : p ∈ ps) : WantsIn u p.a1 p.e.ws ∧ WritesIn u p.a2 p.e.us := by
  rcases h with h | ⟨b, off, e, hb, hc⟩
  · subst h; cases hp
  · obtain ⟨i, hi, rfl⟩ := List.getElem_of_mem hp
    exact (hc i hi).2.2.2.2
theorem EntriesIn.placed {u : World} {a : Option Addr} {es : List EntD} (h : EntriesIn u a es) : ∃ ps : List EntP, ps.map (fun p => p.e) = es ∧ PlacedIn u a ps := by
  rcases h with h | ⟨b, off, e, hlt, hc⟩
  · subst h; exact ⟨[], rfl, .inl rfl⟩
  · have hv : ∀ i : Fin es.length, ∃ p : EntP, p.e = es[i] ∧ u.cell? ⟨b, off + i * 4, none⟩ = some (.int .i64 p.e.id) ∧ u.cell? ⟨b, off + i * 4 + 1, none⟩ = some (.int .i64 p.e.tid) ∧ u.cell? ⟨b, off + i * 4 + 2, none⟩ = some (.slice p.a1 p.e.ws.length p.k1) ∧ u.cell? ⟨b, off + i * 4 + 3, none⟩ = some (.slice p.a2 p.e.us.length p.k2) ∧ WantsIn u p.a1 p.e.ws ∧ WritesIn u p.a2 p.e.us := fun i => by
      obtain ⟨a1, a2, k1, k2, q⟩ := hc i.1 i.2
      exact ⟨⟨es[i], a1, a2, k1, k2⟩, rfl, q⟩
    obtain ⟨f, hf⟩ := Classical.axiomOfChoice hv
    refine ⟨List.ofFn f, ?_, .inr ⟨b, off, e, hlt, fun i hi => ?_⟩⟩
    · apply List.ext_getElem
      · simp
      · intro i h1 h2
        simp only [List.getElem_map, List.getElem_ofFn]
        exact (hf ⟨i, by simpa using h1⟩).1
    · have hi' : i < es.length := by simpa using hi
      simp only [List.getElem_ofFn]
      exact (hf ⟨i, hi'⟩).2

set_option maxHeartbeats 400000 in
theorem entRank_is (p : EntP) (w : World) :
    Calls Try.prog 228 #[.agg #[.int .i64 p.e.id, .int .i64 p.e.tid, .slice p.a1 p.e.ws.length p.k1, .slice p.a2 p.e.us.length p.k2]] w fun e w' => e = .returned (.int .i64 p.e.id) ∧ w' = w.alloc (.cells #[.int .i64 p.e.id, .int .i64 p.e.tid, .slice p.a1 p.e.ws.length p.k1, .slice p.a2 p.e.us.length p.k2] 157) := by
  go_enter Try.func228, Try.ntmps228
  go_wp2
  go_ret
  exact ⟨rfl, rfl⟩
theorem entRank_any (p : EntP) (w : World) :
    Calls Try.prog 228 #[.agg #[.int .i64 p.e.id, .int .i64 p.e.tid, .slice p.a1 p.e.ws.length p.k1, .slice p.a2 p.e.us.length p.k2]] w fun e w' => e = .returned (.int .i64 p.e.id) ∧ Below w.heap.size w w' :=
  (entRank_is p w).mono fun _ _ ⟨a, b⟩ => ⟨a, b ▸ (Below.refl _ _).alloc (Nat.le_refl _) _⟩
theorem meth_rank_ent (p : EntP) (w : World) : (method 391 157 (.agg #[.int .i64 p.e.id, .int .i64 p.e.tid, .slice p.a1 p.e.ws.length p.k1, .slice p.a2 p.e.us.length p.k2]) "loop.example/cadastre/impl.rank").run Try.prog w = .ok (228, .agg #[.int .i64 p.e.id, .int .i64 p.e.tid, .slice p.a1 p.e.ws.length p.k1, .slice p.a2 p.e.us.length p.k2]) w := by kernel_rfl

set_option maxRecDepth 100000 in
set_option maxHeartbeats 1000000 in
theorem entValid_any (p : EntP) (w : World) (hv : WantsIn w p.a1 p.e.ws) (hu : WritesIn w p.a2 p.e.us) (hf : p.e.fits) (hn : p.e.ws.length ≤ 1048576) (hm : p.e.us.length ≤ 1048576) :
    Calls Try.prog 115 #[.agg #[.int .i64 p.e.id, .int .i64 p.e.tid, .slice p.a1 p.e.ws.length p.k1, .slice p.a2 p.e.us.length p.k2]] w (BoolPost (EntOk p.e) w) := by
  obtain ⟨-, -, hf1, hf2⟩ := hf
  have HV := Lib.hid hv
  have HU := Lib.hid hu
  have HF := Lib.hid hf1
  have HG := Lib.hid hf2
  clear hv hu hf1 hf2
  have hb0 : Below w.heap.size w (w.alloc (.cells #[.int .i64 p.e.id, .int .i64 p.e.tid, .slice p.a1 p.e.ws.length p.k1, .slice p.a2 p.e.us.length p.k2] 157)) := (Below.refl _ _).alloc (Nat.le_refl _) _
  have HB := Lib.hid hb0
  clear hb0
  cases hI : inB p.e.id 1 9999
  · go_enter Try.func115, Try.ntmps115
    go_wp2_with (go_at_call 160; refine (idOk_any _ _).mono ?_; rintro e w' ⟨rfl, rfl⟩; rw [hI])
    go_ret
    exact BoolPost.no (fun h => by have := h.1; rw [hI] at this; cases this) HB.out
  · go_enter Try.func115, Try.ntmps115
    go_wp2_with (go_at_call 160; refine (idOk_any _ _).mono ?_; rintro e w' ⟨rfl, rfl⟩; rw [hI])
    refine (txnOk_any p.e.tid p.a1 p.a2 p.e.ws p.e.us p.k1 p.k2 _ (HV.out.below HB.out) (HU.out.below HB.out) HF.out HG.out hn hm).mono ?_
    rintro e w2 ⟨b, rfl, hb, hb2⟩
    have HK := Lib.hid hb
    have HB2 := Lib.hid (HB.out.trans (hb2.mono HB.out.size))
    clear hb hb2
    go_wp2_with fail
    go_ret
    exact ⟨b, rfl, HK.out.trans ⟨fun h => ⟨hI, h⟩, fun h => h.2⟩, HB2.out⟩

def PUp (ps : List EntP) (k : Nat) : Prop := ∀ i (h : i < ps.length), i < k → ∀ j (hj : j < ps.length), j + 1 = i → ps[j].e.id < ps[i].e.id

set_option maxRecDepth 100000 in
set_option maxHeartbeats 1000000 in
theorem entAscends_any (a : Option Addr) (vs : List EntP) (cap : Nat) (w : World) (hv : PlacedIn w a vs) (hn : vs.length ≤ maxLen) :
    Calls Try.prog 116 #[.slice a vs.length cap] w (BoolPost (PUp vs vs.length) w) := by
  unfold maxLen at hn
  have HV := Lib.hid hv
  clear hv
  go_enter Try.func116, Try.ntmps116
  go_wp2_with fail
  go_loopw [3] (fun i wr => ∃ k : Nat, k ≤ vs.length ∧ i = .int .i64 (↑k + 1) ∧ Below w.heap.size w wr ∧ PUp vs (k + 1)) (fun i _ => vs.length + 1 - (intOf i).toNat)
  case atStart => exact ⟨0, Nat.zero_le _, rfl, Below.refl _ _, fun i h hk j hj e => by omega⟩
  case round =>
    obtain ⟨k, hk, rfl, hB, hU⟩ := hrel
    have HW := Lib.hid hB
    have HU := Lib.hid hU
    clear hB hU
    by_cases hlt : k + 1 < vs.length
    · rcases HV.out.below HW.out with hnil | ⟨b1, o1, rfl, hb1, hc1⟩
      · rw [hnil] at hlt; simp at hlt
      obtain ⟨c0, c1, c2, c3, -, -⟩ := hc1 (k + 1) hlt
      obtain ⟨d0, d1, d2, d3, -, -⟩ := hc1 k (by omega)
      have y0 := cell_regrown c0
      have y1 := cell_regrown c1
      have y2 := cell_regrown c2
      have y3 := cell_regrown c3
      have x0 := cell_regrown d0
      have x1 := cell_regrown d1
      have x2 := cell_regrown d2
      have x3 := cell_regrown d3
      clear hc1
      have hwk : IntKind.i64.wrap (k : Int) = (k : Int) := by rw [IntKind.wrap_i64]; omega
      have m1 := meth_rank_ent vs[k + 1]
      have m2 := meth_rank_ent vs[k]
      by_cases hid : vs[k].e.id ≥ vs[k + 1].e.id
      all_goals
        go_wp2_with fail
        refine wp_region_quiet_below (by kernel_rfl) (by kernel_rfl) ?_
        repeat (go_big_quiet_step ((go_at_call 228; exact Calls.regrown_of (entRank_any _ _))))
        refine wpQuiet_nil ?_
        intro _ hw'
        obtain ⟨⟨dq, osq⟩, hw''⟩ := hw'
        subst hw''
        clear m1 m2
        go_wp2_with fail
      · go_ret
        exact BoolPost.no (fun h => by have := h (k + 1) hlt hlt k (by omega) rfl; omega) (HW.out.trans ((below_regrown _ _ _).mono HW.out.size))
      · go_roundw
        case rel => exact ⟨k + 1, by omega, by go_num, HW.out.trans ((below_regrown _ _ _).mono HW.out.size), fun i h hik j hj e => by
          by_cases q : i = k + 1
          · subst q; obtain rfl : j = k := by omega
            omega
          · exact HU.out i h (by omega) j hj e⟩
        case measure => simp [intOf]; omega
    · go_wp2_with fail
      go_ret
      exact BoolPost.yes (fun i h hk' j hj e => HU.out i h (by omega) j hj e) HW.out

def entArgs (p : EntP) : Array Value := #[.int .i64 p.e.id, .agg #[.int .i64 p.e.id, .int .i64 p.e.tid, .slice p.a1 p.e.ws.length p.k1, .slice p.a2 p.e.us.length p.k2]]

set_option maxHeartbeats 1000000 in
theorem entAll_any (a : Option Addr) (len cap : Nat) (w : World) :
    Calls Try.prog 114 #[.slice a len cap] w fun e w' => e = .returned (.func (.func 159) #[] #[.pointer (some ⟨w.heap.size, 0, none⟩)]) ∧ w' = w.alloc (.cells #[.slice a len cap] 159) := by
  go_enter Try.func114, Try.ntmps114
  go_wp2
  go_ret
  exact ⟨rfl, rfl⟩

set_option maxRecDepth 100000 in
set_option maxHeartbeats 2000000 in
theorem entAll1_in (n : Nat) (hn : 1 ≤ n) (l Bs : Nat) (a : Option Addr) (os : List EntP) (cap : Nat) (u0 : World) (hO : PlacedIn u0 a os) (hlen : os.length ≤ maxLen) (J Jx : List {o // o ∈ os} → World → Prop)
    (hJ : ∀ s A B, J s A → Below A.heap.size A B → J s B)
    (hY : ∀ pre x W, J pre W → pre.length < os.length → YieldAt Fence.wide (n - 1) Try.prog l (entArgs x.1) W fun e W' =>
      (e = .returned (.bool true) ∧ J (pre ++ [x]) W' ∧ Below u0.heap.size W W') ∨ (e = .returned (.bool false) ∧ Jx (pre ++ [x]) W'))
    (W : World) (hBs : W.cell? ⟨Bs, 0, none⟩ = some (.slice a os.length cap)) (hW : Below u0.heap.size u0 W) (h0 : J [] W) :
    CallsIn Fence.wide n Try.prog 159 #[.func (.yield l) #[] #[], .pointer (some ⟨Bs, 0, none⟩)] W fun e W' => (∃ v, e = .returned v) ∧
      ((∃ ys, ys = os.attach ∧ J ys W') ∨ (∃ pre, pre <+: os.attach ∧ Jx pre W')) := by
  unfold maxLen at hlen
  have HO := Lib.hid hO
  have HW := Lib.hid hW
  have HJ := Lib.hid hJ
  have HY := Lib.hid hY
  clear hO hW hJ hY
  refine callsIn_of_wp Try.func159 rfl trivial ?_ rfl
  simp only [Try.ntmps159, List.size_toArray, List.length_cons, List.length_nil, Nat.reduceAdd, Nat.reduceSub, Array.replicate_succ, Array.replicate_zero, List.push_toArray, List.append_toArray, List.nil_append, List.cons_append]
  gi_wp2
  gi_loopw [7] (fun i wr => ∃ k : Nat, k ≤ os.length ∧ i = .int .i64 k ∧ J (os.attach.take k) wr ∧ Below u0.heap.size u0 wr)
    (fun i _ => os.length - (intOf i).toNat)
  case atStart => exact ⟨0, Nat.zero_le _, rfl, h0, HW.out⟩
  case round =>
    obtain ⟨k, hk, rfl, hJs, hnx⟩ := hrel
    have HN := Lib.hid hnx
    have HS := Lib.hid hJs
    clear hnx hJs
    by_cases hlt : k < os.length
    · rcases HO.out.below HN.out with hnil | ⟨b1, o1, rfl, hb1, hc1⟩
      · rw [hnil] at hlt; simp at hlt
      obtain ⟨c0, c1, c2, c3, -, -⟩ := hc1 k hlt
      clear hc1 hBs
      have m1 := meth_rank_ent os[k]
      gi_wp2
      have hJ2 : J (os.attach.take k) (((wr.alloc (.cells #[.int .i64 os[k].e.id, .int .i64 os[k].e.tid, .slice os[k].a1 os[k].e.ws.length os[k].k1, .slice os[k].a2 os[k].e.us.length os[k].k2] 157)).alloc (.cells #[.int .i64 os[k].e.id, .int .i64 os[k].e.tid, .slice os[k].a1 os[k].e.ws.length os[k].k1, .slice os[k].a2 os[k].e.us.length os[k].k2] 157)).drew) := HJ.out _ _ _ HS.out ((((Below.refl _ _).alloc (Nat.le_refl _) _).alloc (by simp) _).drew)
      obtain ⟨fn, tmps, assign, body, hy, hR⟩ := HY.out _ ⟨os[k], List.getElem_mem hlt⟩ _ hJ2 (by simp; omega)
      simp only [entArgs] at hy
      gi_region_with (first
        | (refine ⟨trivial, ?_⟩; gi_at_call 228; refine (callsIn_wide.2 (entRank_is _ _)).mono ?_; rintro e w2 ⟨rfl, rfl⟩)
        | (refine hR.mono ?_; intro e W3 hq; obtain ⟨b, rfl, hq3⟩ := said_of hq; have HQ := Lib.hid hq3; clear hq hq3))
      all_goals
        clear hy hR m1 hJ2
        cases b
        · gi_wp2
          refine bodyPost_ret (results_none rfl _ _ _) rfl ?_
          rcases HQ.out with ⟨h, _⟩ | ⟨_, h⟩
          · cases h
          · exact ⟨⟨_, rfl⟩, .inr ⟨_, by rw [← take_attach_succ os k hlt]; exact List.take_prefix _ _, h⟩⟩
        · gi_wp2
          go_roundw
          case rel =>
            rcases HQ.out with ⟨_, h, hb⟩ | ⟨h, _⟩
            · exact ⟨k + 1, by omega, by go_num, by rw [take_attach_succ os k hlt]; exact h, (HN.out.trans ((((Below.refl _ _).alloc HN.out.size _).alloc (by have := HN.out.size; simp; omega) _).drew)).trans hb⟩
            · cases h
          case measure => simp [intOf]; omega
    · obtain rfl : k = os.length := by omega
      gi_wp2
      go_end0
      exact ⟨⟨_, rfl⟩, .inl ⟨_, by rw [List.take_of_length_le (by simp)], HS.out⟩⟩

theorem entAll_stops (n : Nat) (hn : 1 ≤ n) (Bs : Nat) (a : Option Addr) (os : List EntP) (cap : Nat) (u0 : World) (hO : PlacedIn u0 a os) (hlen : os.length ≤ maxLen) (w : World) (hBs : Bs < w.heap.size) (hu : Below u0.heap.size u0 w)
    (hc : w.cell? ⟨Bs, 0, none⟩ = some (.slice a os.length cap)) :
    SeqStopsK Fence.wide n Try.prog 159 #[.pointer (some ⟨Bs, 0, none⟩)] (fun x : {o // o ∈ os} => entArgs x.1) (Below u0.heap.size) (fun ys => ys = os.attach) (fun pre => pre <+: os.attach) os.length w := fun l J Jx W hW hJ _ hY h0 =>
  entAll1_in n hn l Bs a os cap u0 hO hlen J Jx (fun _ _ _ hs hb => abides_below hJ hs hb) hY W ((hW.cell (p := ⟨Bs, 0, none⟩) hBs).trans hc) (hu.trans (hW.mono hu.size)) h0
end Go.Proofs.Ythjikcfpoomioaa
