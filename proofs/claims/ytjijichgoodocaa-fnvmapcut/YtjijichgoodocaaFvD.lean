/- Pieces, joins and what is left of a map: the contracts as the promises use them. -/
import Derived.Test.YtjijichgoodocaaFvP
import Derived.Test.YtjijichgoodocaaWithin
import Derived.Test.YtjijichgoodocaaVPr
import Derived.Test.YtjijichgoodocaaVPruneI
import Derived.Test.YtjijichgoodocaaVPruneS
import Derived.Test.YtjijichgoodocaaVJoinI
import Derived.Test.YtjijichgoodocaaVJoinS
namespace Go.Proofs.Ytjijichgoodocaa
open Go.RowKit

def NewM (kvs : List Kv) (w : World) (e : Ending) (w' : World) : Prop := ∃ a cs c, cs.map ObjD.kv = kvs ∧ e = .returned (.agg #[.slice a cs.length c]) ∧ Mr w' a cs ∧ Below w.heap.size w w'
def NewMB (kvs : List Kv) (b : Bool) (w : World) (e : Ending) (w' : World) : Prop := ∃ a cs c, cs.map ObjD.kv = kvs ∧ e = .returned (.tuple #[.agg #[.slice a cs.length c], .bool b]) ∧ Mr w' a cs ∧ Below w.heap.size w w'
theorem mr_of_at {w : World} {lo hi : Nat} {a : Option Addr} {cs : List ObjD} {kvs : List Kv} (h : VmAt w lo hi a cs) (e : cs.map ObjD.kv = kvs) (hf : kvFits kvs) (hn : kvs.length ≤ 1000) (hv : ∀ p ∈ kvs, p.2.length ≤ 1000) : Mr w a cs :=
  ⟨h.in1, fits_of_kv e hf, h.pl, by rw [← e, List.length_map] at hn; exact hn, fun o ho => hv o.kv (by rw [← e]; exact List.mem_map_of_mem ho)⟩
theorem NewM.of_out {kvs : List Kv} {w w' : World} {e : Ending} (h : VmOut kvs w e w') (hf : kvFits kvs) (hn : kvs.length ≤ 1000) (hv : ∀ p ∈ kvs, p.2.length ≤ 1000) : NewM kvs w e w' := by
  obtain ⟨a, cs, c, hk, he, hat, hb⟩ := h
  exact ⟨a, cs, c, hk, he, mr_of_at hat hk hf hn hv, hb⟩
theorem Mr.kvf {w : World} {a : Option Addr} {os : List ObjD} (h : Mr w a os) : kvFits (os.map ObjD.kv) := kvFits_of h.fits
theorem Mr.kvl {w : World} {a : Option Addr} {os : List ObjD} (h : Mr w a os) : (os.map ObjD.kv).length ≤ 1000 := by rw [List.length_map]; exact h.len
theorem Mr.kvv {w : World} {a : Option Addr} {os : List ObjD} (h : Mr w a os) : ∀ p ∈ os.map ObjD.kv, p.2.length ≤ 1000 := fun p hp => by
  obtain ⟨o, ho, rfl⟩ := List.mem_map.1 hp
  exact h.vl o ho

theorem vmapCut_m {a : Option Addr} {os : List ObjD} {w : World} (h : Mr w a os) (cap : Nat) (lo hi : ByteArray) (hlo : lo.size ≤ maxLen) (hhi : hi.size ≤ maxLen) : Calls Try.prog 28 #[.agg #[.slice a os.length cap], .agg #[.string lo, .string hi]] w (NewM (cutF lo hi (os.map ObjD.kv)) w) :=
  (vmapCut_any a os cap lo hi w h.inn h.fits h.pl h.n h.vn hlo hhi).mono fun _ _ q => NewM.of_out q (cutF_fits h.kvf) (Nat.le_trans (cutF_len _ _ _) h.kvl) (cutF_vl h.kvv)

theorem specVmapCut_m {a : Option Addr} {os : List ObjD} {w : World} (h : Mr w a os) (cap : Nat) (lo hi : ByteArray) (hlo : lo.size ≤ maxLen) (hhi : hi.size ≤ maxLen) : Calls Try.prog 29 #[.agg #[.slice a os.length cap], .agg #[.string lo, .string hi]] w (NewM (cutF lo hi (os.map ObjD.kv)) w) :=
  (specVmapCut_any a os cap lo hi w h.inn h.fits h.pl h.n h.vn hlo hhi).mono fun _ _ q => NewM.of_out q (cutF_fits h.kvf) (Nat.le_trans (cutF_len _ _ _) h.kvl) (cutF_vl h.kvv)

theorem vmapPrune_m {a : Option Addr} {os : List ObjD} {w : World} (h : Mr w a os) (cap : Nat) (id : Int) : Calls Try.prog 38 #[.agg #[.slice a os.length cap], .int .i64 id] w (NewM (pruneF id (os.map ObjD.kv)) w) :=
  (vmapPrune_any a os cap id w h.inn h.fits h.pl h.n h.vn).mono fun _ _ q => NewM.of_out q (pruneF_fits h.kvf) (Nat.le_trans (pruneF_len _ _) h.kvl) (pruneF_vl h.kvv)

theorem specVmapPrune_m {a : Option Addr} {os : List ObjD} {w : World} (h : Mr w a os) (cap : Nat) (id : Int) : Calls Try.prog 39 #[.agg #[.slice a os.length cap], .int .i64 id] w (NewM (pruneF id (os.map ObjD.kv)) w) :=
  (specVmapPrune_any a os cap id w h.inn h.fits h.pl h.n h.vn).mono fun _ _ q => NewM.of_out q (pruneF_fits h.kvf) (Nat.le_trans (pruneF_len _ _) h.kvl) (pruneF_vl h.kvv)

theorem joinF_len (xs bs : List Kv) : (joinF xs bs).length ≤ xs.length + bs.length := by
  unfold joinF; split
  · rw [List.length_append]; exact Nat.le_refl _
  · simp
theorem joinF_vl {xs bs : List Kv} {N : Nat} (h : ∀ p ∈ xs, p.2.length ≤ N) (h2 : ∀ p ∈ bs, p.2.length ≤ N) : ∀ p ∈ joinF xs bs, p.2.length ≤ N := by
  unfold joinF; split
  · exact fun p hp => (List.mem_append.1 hp).elim (h p) (h2 p)
  · exact fun p hp => by cases hp
theorem NewMB.of_out {kvs : List Kv} {b : Bool} {w w' : World} {e : Ending} (h : VmOutB kvs b w e w') (hf : kvFits kvs) (hn : kvs.length ≤ 1000) (hv : ∀ p ∈ kvs, p.2.length ≤ 1000) : NewMB kvs b w e w' := by
  obtain ⟨a, cs, c, hk, he, hat, hb⟩ := h
  exact ⟨a, cs, c, hk, he, mr_of_at hat hk hf hn hv, hb⟩

theorem vmapJoin_m {a b : Option Addr} {os ps : List ObjD} {w : World} (h : Mr w a os) (k : Mr w b ps) (c1 c2 : Nat) (hl : os.length + ps.length ≤ 1000) : Calls Try.prog 34 #[.agg #[.slice a os.length c1], .agg #[.slice b ps.length c2]] w (NewMB (joinF (os.map ObjD.kv) (ps.map ObjD.kv)) (joinB (os.map ObjD.kv) (ps.map ObjD.kv)) w) :=
  (vmapJoin_any a b os ps c1 c2 w h.inn k.inn h.fits k.fits h.pl k.pl h.n k.n h.vn k.vn).mono fun _ _ q => NewMB.of_out q (joinF_fits h.kvf k.kvf) (Nat.le_trans (joinF_len _ _) (by rw [List.length_map, List.length_map]; exact hl)) (joinF_vl h.kvv k.kvv)

theorem specVmapJoin_m {a b : Option Addr} {os ps : List ObjD} {w : World} (h : Mr w a os) (k : Mr w b ps) (c1 c2 : Nat) (hl : os.length + ps.length ≤ 1000) : Calls Try.prog 36 #[.agg #[.slice a os.length c1], .agg #[.slice b ps.length c2]] w (NewMB (joinF (os.map ObjD.kv) (ps.map ObjD.kv)) (joinB (os.map ObjD.kv) (ps.map ObjD.kv)) w) :=
  (specVmapJoin_any a b os ps c1 c2 w h.inn k.inn h.fits k.fits h.pl k.pl h.n k.n h.vn k.vn).mono fun _ _ q => NewMB.of_out q (joinF_fits h.kvf k.kvf) (Nat.le_trans (joinF_len _ _) (by rw [List.length_map, List.length_map]; exact hl)) (joinF_vl h.kvv k.kvv)

theorem caMap_m {a b : Option Addr} {xs ys : List ObjD} {w : World} (h : Mr w a xs) (k : Mr w b ys) (e : xs.map ObjD.kv = ys.map ObjD.kv) (c1 c2 : Nat) : Calls Try.prog 18 #[.agg #[.slice a xs.length c1], .agg #[.slice b ys.length c2]] w fun e w' => e = .returned (.bool true) ∧ Below w.heap.size w w' :=
  caMap_same a b xs ys c1 c2 xs.length ys.length w h.inn k.inn (same_of_kv e) rfl rfl h.fits h.nm

theorem mok_of {b c : Bool} {xs ys : List ObjD} (h : MokIs b xs) (e : xs.map ObjD.kv = ys.map ObjD.kv) : MokIs b ys := by
  unfold MokIs at h ⊢
  rw [h, mapOk_kv, mapOk_kv, e]
/-- What is seen of two maps put together. -/
theorem atKF_append {xs bs : List Kv} (h : KvOk (xs ++ bs)) (key : ByteArray) (id : Int) : atKF (xs ++ bs) key id = (atKF xs key id).or (atKF bs key id) ∧ (atKF xs key id = none ∨ atKF bs key id = none) := by
  have hp := kvOk_pair h
  rw [List.pairwise_append] at hp
  unfold atKF
  rw [List.find?_append]
  cases hx : xs.find? (fun p => p.1.toList == key.toList) with
  | none => simp
  | some p =>
    have hpx := List.find?_some hx
    have hpm := List.mem_of_find?_eq_some hx
    have : bs.find? (fun p => p.1.toList == key.toList) = none := by
      apply find_none_of
      intro q hq e
      have := hp.2.2 p hpm q hq
      have e1 : p.1.toList = key.toList := by simpa using hpx
      rw [e1, e] at this
      exact List.lt_irrefl _ this
    rw [this]
    simp
theorem atR_join {os ps cs : List ObjD} {key : ByteArray} {id : Int} (h : KvOk (os.map ObjD.kv ++ ps.map ObjD.kv)) (e : cs.map ObjD.kv = os.map ObjD.kv ++ ps.map ObjD.kv) : atR cs key id = (atR os key id).or (atR ps key id) ∧ (atR os key id = none ∨ atR ps key id = none) := by
  have h1 : MapOkTo os os.length := by rw [mapOk_kv]; exact h.left
  have h2 : MapOkTo ps ps.length := by rw [mapOk_kv]; exact h.right
  have h3 : MapOkTo cs cs.length := by rw [mapOk_kv, e]; exact h
  unfold atR
  by_cases hk : keyOkB key = true
  · rw [if_pos ⟨h3, hk⟩, if_pos ⟨h1, hk⟩, if_pos ⟨h2, hk⟩, atF_kv, atF_kv, atF_kv, e]
    exact atKF_append h key id
  · rw [if_neg (fun h => hk h.2), if_neg (fun h => hk h.2), if_neg (fun h => hk h.2)]
    exact ⟨rfl, .inl rfl⟩
end Go.Proofs.Ytjijichgoodocaa
