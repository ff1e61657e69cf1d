/- What is known with one more: two ways to say it, and that they are one. -/
import Derived.Test.YtjijichgoodocaaKnS
import Derived.Test.YtjijichgoodocaaMeetC
import Derived.Test.YtjijichgoodocaaRaS
import Derived.Lib.AppendZeros
import Derived.Laws.OwnMore
namespace Go.Proofs.Ytjijichgoodocaa
open Go.RowKit

def fitB (lo hi : ByteArray) : Bool := hi.toList.isEmpty || Op.bytesLess lo.toList hi.toList
def endOk (x : ByteArray) : Prop := okB keyB 6 x = true
theorem spanOkB_fit {lo hi : ByteArray} (h0 : endOk lo) (h1 : endOk hi) : spanOkB lo hi = fitB lo hi := by
  unfold endOk at *
  unfold spanOkB fitB; rw [h0, h1]; rfl
theorem endOk_low {x y : ByteArray} (h0 : endOk x) (h1 : endOk y) : endOk (lowM x y) := by unfold lowM; split <;> assumption
theorem endOk_high {x y : ByteArray} (h0 : endOk x) (h1 : endOk y) : endOk (highM x y) := by unfold highM; split <;> (try split) <;> (try split) <;> assumption
theorem endOk_nil : endOk ⟨#[]⟩ := by unfold endOk okB; simp [ByteArray.size]
theorem toList_mt : (⟨#[]⟩ : ByteArray).toList = [] := by first | rfl | simp | (unfold ByteArray.toList ByteArray.toList.loop; rfl) | (unfold ByteArray.toList; unfold ByteArray.toList.loop; simp) | decide +kernel
theorem meet_fit {a1 a2 b1 b2 : ByteArray} (h1 : endOk a1) (h2 : endOk a2) (h3 : endOk b1) (h4 : endOk b2) : meetB a1 a2 b1 b2 = (fitB a1 a2 && fitB b1 b2 && fitB (lowM a1 b1) (highM a2 b2)) := by
  unfold meetB
  rw [spanOkB_fit h1 h2, spanOkB_fit h3 h4, spanOkB_fit (endOk_low h1 h3) (endOk_high h2 h4)]
theorem empty_iff (x : ByteArray) : x.toList.isEmpty = true ↔ x.toList = [] := by simp
theorem less_iffK (x y : List UInt8) : Op.bytesLess x y = true ↔ x < y := by rw [bytesLess_eq]; simp
theorem fit_iff (lo hi : ByteArray) : fitB lo hi = true ↔ hi.toList = [] ∨ lo.toList < hi.toList := by unfold fitB; rw [Bool.or_eq_true, empty_iff, less_iffK]
theorem nil_le (x : List UInt8) : ¬ x < [] := by cases x <;> simp
theorem nil_lt {x : List UInt8} (h : x ≠ []) : [] < x := by cases x <;> simp_all

def cutK (lo hi : ByteArray) (v : KnownD) : Option KnownD := if meetB v.f0 v.f1 lo hi = true then some ⟨mLo v.f0 v.f1 lo hi, mHi v.f0 v.f1 lo hi, v.f2, v.f3⟩ else none
theorem mLo_yes {a1 a2 b1 b2 : ByteArray} (h : meetB a1 a2 b1 b2 = true) : mLo a1 a2 b1 b2 = lowM a1 b1 := by unfold mLo; rw [h]; rfl
theorem mHi_yes {a1 a2 b1 b2 : ByteArray} (h : meetB a1 a2 b1 b2 = true) : mHi a1 a2 b1 b2 = highM a2 b2 := by unfold mHi; rw [h]; rfl
theorem lowM_nil (x : ByteArray) : lowM x ⟨#[]⟩ = x := by
  unfold lowM; rw [toList_mt, if_neg]; rw [less_iffK]; exact nil_le _
theorem highM_nil (x : ByteArray) : highM x ⟨#[]⟩ = x := by
  unfold highM
  split
  · rename_i h; exact bytes_eq (by rw [toList_mt]; exact ((empty_iff x).1 h).symm)
  · rw [toList_mt]; rfl
theorem lowM_is (x y : ByteArray) : lowM x y = if x.toList < y.toList then y else x := by
  unfold lowM; by_cases h : x.toList < y.toList
  · rw [if_pos h, if_pos ((less_iffK _ _).2 h)]
  · rw [if_neg h, if_neg (fun g => h ((less_iffK _ _).1 g))]
theorem highM_is {x y : ByteArray} (hy : y.toList ≠ []) : highM x y = if x.toList = [] ∨ y.toList < x.toList then y else x := by
  unfold highM; by_cases h : x.toList = []
  · rw [if_pos ((empty_iff x).2 h), if_pos (Or.inl h)]
  · rw [if_neg (fun g => h ((empty_iff x).1 g)), if_neg (fun g => hy ((empty_iff y).1 g))]
    by_cases k : y.toList < x.toList
    · rw [if_pos ((less_iffK _ _).2 k), if_pos (Or.inr k)]
    · rw [if_neg (fun g => k ((less_iffK _ _).1 g)), if_neg (fun g => g.elim h k)]
theorem cutL {v : KnownD} {k0 : ByteArray} (h0 : endOk v.f0) (h1 : endOk v.f1) (hv : fitB v.f0 v.f1 = true) (hk : endOk k0) (hne : k0.toList ≠ []) :
    cutK ⟨#[]⟩ k0 v = if v.f0.toList < k0.toList then some ⟨v.f0, if v.f1.toList = [] ∨ k0.toList < v.f1.toList then k0 else v.f1, v.f2, v.f3⟩ else none := by
  have hM : meetB v.f0 v.f1 ⟨#[]⟩ k0 = true ↔ v.f0.toList < k0.toList := by
    rw [meet_fit h0 h1 endOk_nil hk, Bool.and_eq_true, Bool.and_eq_true, fit_iff, fit_iff, fit_iff, lowM_nil, highM_is hne, toList_mt]
    have := (fit_iff _ _).1 hv
    have := nil_lt hne
    split <;> grind
  unfold cutK
  by_cases h : v.f0.toList < k0.toList
  · rw [if_pos h, if_pos (hM.2 h), mLo_yes (hM.2 h), mHi_yes (hM.2 h), lowM_nil, highM_is hne]
  · rw [if_neg h, if_neg (fun g => h (hM.1 g))]
theorem cutR {v : KnownD} {k1 : ByteArray} (h0 : endOk v.f0) (h1 : endOk v.f1) (hv : fitB v.f0 v.f1 = true) (hk : endOk k1) :
    cutK k1 ⟨#[]⟩ v = if v.f1.toList = [] ∨ k1.toList < v.f1.toList then some ⟨if v.f0.toList < k1.toList then k1 else v.f0, v.f1, v.f2, v.f3⟩ else none := by
  have hM : meetB v.f0 v.f1 k1 ⟨#[]⟩ = true ↔ (v.f1.toList = [] ∨ k1.toList < v.f1.toList) := by
    rw [meet_fit h0 h1 hk endOk_nil, Bool.and_eq_true, Bool.and_eq_true, fit_iff, fit_iff, fit_iff, lowM_is, highM_nil, toList_mt]
    have := (fit_iff _ _).1 hv
    split <;> grind
  unfold cutK
  by_cases h : v.f1.toList = [] ∨ k1.toList < v.f1.toList
  · rw [if_pos h, if_pos (hM.2 h), mLo_yes (hM.2 h), mHi_yes (hM.2 h), highM_nil, lowM_is]
  · rw [if_neg h, if_neg (fun g => h (hM.1 g))]
theorem meetVK {v k : KnownD} (h0 : endOk v.f0) (h1 : endOk v.f1) (hv : fitB v.f0 v.f1 = true) (k0 : endOk k.f0) (k1 : endOk k.f1) (hk : fitB k.f0 k.f1 = true) :
    meetB v.f0 v.f1 k.f0 k.f1 = true ↔ (v.f1.toList = [] ∨ k.f0.toList < v.f1.toList) ∧ (k.f1.toList = [] ∨ v.f0.toList < k.f1.toList) := by
  rw [meet_fit h0 h1 k0 k1, Bool.and_eq_true, Bool.and_eq_true, fit_iff, fit_iff, fit_iff, lowM_is]
  have := (fit_iff _ _).1 hv
  have := (fit_iff _ _).1 hk
  by_cases hne : k.f1.toList = []
  · have e : highM v.f1 k.f1 = v.f1 := by rw [bytes_eq (x := k.f1) (y := ⟨#[]⟩) (by rw [toList_mt]; exact hne)]; exact highM_nil _
    rw [e]
    split <;> grind
  · rw [highM_is hne]
    split <;> split <;> grind

def leftK (k v : KnownD) : List KnownD := if k.f0.toList = [] then [] else (cutK ⟨#[]⟩ k.f0 v).toList
def rightK (k v : KnownD) : List KnownD := if k.f1.toList = [] then [] else (cutK k.f1 ⟨#[]⟩ v).toList
def restK (k v : KnownD) : List KnownD :=
  if meetB v.f0 v.f1 k.f0 k.f1 = true then (if v.f0.toList < k.f0.toList then [⟨v.f0, k.f0, v.f2, v.f3⟩] else []) ++ (if k.f1.toList ≠ [] ∧ (v.f1.toList = [] ∨ k.f1.toList < v.f1.toList) then [⟨k.f1, v.f1, v.f2, v.f3⟩] else []) else [v]
def KOk (v : KnownD) : Prop := endOk v.f0 ∧ endOk v.f1 ∧ fitB v.f0 v.f1 = true
theorem rest_split {k v : KnownD} (hv : KOk v) (hk : KOk k) : restK k v = leftK k v ++ rightK k v := by
  obtain ⟨v0, v1, vf⟩ := hv
  obtain ⟨k0, k1, kf⟩ := hk
  have a := (fit_iff _ _).1 vf
  have b := (fit_iff _ _).1 kf
  have hM := meetVK v0 v1 vf k0 k1 kf
  have hR := cutR v0 v1 vf k1
  have eta : v = ⟨v.f0, v.f1, v.f2, v.f3⟩ := rfl
  unfold restK leftK rightK
  by_cases hl : k.f0.toList = []
  · have n0 := nil_le v.f0.toList
    rw [if_pos hl, hR]
    by_cases hm : meetB v.f0 v.f1 k.f0 k.f1 = true
    · rw [if_pos hm]
      have := hM.1 hm
      rw [hl, if_neg n0]
      by_cases hh : k.f1.toList = []
      · simp [hh]
      · by_cases hy : v.f1.toList = [] ∨ k.f1.toList < v.f1.toList
        · have hx : v.f0.toList < k.f1.toList := by grind
          simp [hh, hy, hx]
        · simp [hh, hy]
    · rw [if_neg hm]
      have hn := fun g => hm (hM.2 g)
      have hh : k.f1.toList ≠ [] := by grind
      have hy : v.f1.toList = [] ∨ k.f1.toList < v.f1.toList := by grind
      have hx : ¬ v.f0.toList < k.f1.toList := by grind
      simp [hh, hy, hx]
  · have hL := cutL v0 v1 vf k0 hl
    rw [if_neg hl, hL, hR]
    by_cases hm : meetB v.f0 v.f1 k.f0 k.f1 = true
    · rw [if_pos hm]
      have hmm := hM.1 hm
      by_cases hh : k.f1.toList = []
      · by_cases hx : v.f0.toList < k.f0.toList <;> simp [hh, hx, hmm.1]
      · by_cases hx : v.f0.toList < k.f0.toList <;> by_cases hy : v.f1.toList = [] ∨ k.f1.toList < v.f1.toList
        all_goals
          have hx2 : v.f0.toList < k.f1.toList := by grind
          simp [hh, hx, hy, hx2, hmm.1]
    · rw [if_neg hm]
      have hn := fun g => hm (hM.2 g)
      by_cases hy : v.f1.toList = [] ∨ k.f0.toList < v.f1.toList
      · have hh : k.f1.toList ≠ [] := by grind
        have hx : ¬ v.f0.toList < k.f1.toList := by grind
        have hx0 : ¬ v.f0.toList < k.f0.toList := by grind
        have hy1 : v.f1.toList = [] ∨ k.f1.toList < v.f1.toList := by grind
        simp [hh, hx, hx0, hy1]
      · have hx0 : v.f0.toList < k.f0.toList := by grind
        by_cases hh : k.f1.toList = []
        · simp [hh, hx0, hy]
        · have hy1 : ¬ (v.f1.toList = [] ∨ k.f1.toList < v.f1.toList) := by grind
          simp [hh, hx0, hy, hy1]
theorem left_less {k v : KnownD} (hv : KOk v) (hk : KOk k) : ∀ u ∈ leftK k v, u.f0.toList < k.f0.toList := by
  intro u hu
  unfold leftK at hu
  by_cases hl : k.f0.toList = []
  · rw [if_pos hl] at hu; cases hu
  · rw [if_neg hl, cutL hv.1 hv.2.1 hv.2.2 hk.1 hl] at hu
    by_cases hx : v.f0.toList < k.f0.toList
    · rw [if_pos hx] at hu
      simp at hu; rw [hu]; exact hx
    · rw [if_neg hx] at hu; simp at hu
theorem right_more {k v : KnownD} (hv : KOk v) (hk : KOk k) : ∀ u ∈ rightK k v, ¬ u.f0.toList < k.f0.toList := by
  intro u hu
  have b := (fit_iff _ _).1 hk.2.2
  unfold rightK at hu
  by_cases hl : k.f1.toList = []
  · rw [if_pos hl] at hu; cases hu
  · rw [if_neg hl, cutR hv.1 hv.2.1 hv.2.2 hk.2.1] at hu
    split at hu
    · simp at hu; rw [hu]; dsimp only; split <;> grind
    · simp at hu
theorem left_none {k v u : KnownD} (hv : KOk v) (hu : KOk u) (hk : KOk k) (hs : touchB v u = false) (hr : rightK k v ≠ []) : leftK k u = [] := by
  have b := (fit_iff _ _).1 hk.2.2
  have ht : v.f1.toList ≠ [] ∧ ¬ u.f0.toList < v.f1.toList := by
    unfold touchB at hs
    rw [Bool.or_eq_false_iff] at hs
    exact ⟨fun h => absurd ((empty_iff v.f1).2 h) (by rw [hs.1]; decide), fun h => absurd ((less_iffK _ _).2 h) (by rw [hs.2]; decide)⟩
  unfold rightK at hr
  by_cases hl : k.f1.toList = []
  · rw [if_pos hl] at hr; exact absurd rfl hr
  rw [if_neg hl, cutR hv.1 hv.2.1 hv.2.2 hk.2.1] at hr
  have hy : v.f1.toList = [] ∨ k.f1.toList < v.f1.toList := by
    by_cases h : v.f1.toList = [] ∨ k.f1.toList < v.f1.toList
    · exact h
    · rw [if_neg h] at hr; exact absurd rfl hr
  unfold leftK
  by_cases h0 : k.f0.toList = []
  · rw [if_pos h0]
  · rw [if_neg h0, cutL hu.1 hu.2.1 hu.2.2 hk.1 h0, if_neg (by grind)]; rfl

def within (lo hi : ByteArray) (vs : List KnownD) (k : Nat) : List KnownD := (vs.take k).flatMap fun v => (cutK lo hi v).toList
def putI (k : KnownD) (vs : List KnownD) : List KnownD := (if k.f0.toList = [] then [] else within ⟨#[]⟩ k.f0 vs vs.length) ++ [k] ++ (if k.f1.toList = [] then [] else within k.f1 ⟨#[]⟩ vs vs.length)
def restAll (k : KnownD) (vs : List KnownD) (n : Nat) : List KnownD := (vs.take n).flatMap (restK k)
def putS (k : KnownD) (us : List KnownD) : List KnownD := us.takeWhile (fun u => decide (u.f0.toList < k.f0.toList)) ++ [k] ++ us.dropWhile (fun u => decide (u.f0.toList < k.f0.toList))
/-- Each of two neighbours apart, said along the list. -/
inductive Apt : List KnownD → Prop
  | nil : Apt []
  | cons {v : KnownD} {vs : List KnownD} (hv : KOk v) (h : ∀ u ∈ vs, touchB v u = false) (g : Apt vs) : Apt (v :: vs)
theorem rest_all {k : KnownD} (hk : KOk k) {vs : List KnownD} (h : Apt vs) : vs.flatMap (restK k) = vs.flatMap (leftK k) ++ vs.flatMap (rightK k) ∧ (∀ v ∈ vs, KOk v) := by
  induction h with
  | nil => exact ⟨rfl, fun _ h => by cases h⟩
  | cons hv hs hg ih =>
    rename_i v vs
    refine ⟨?_, fun u hu => ?_⟩
    · rw [List.flatMap_cons, List.flatMap_cons, List.flatMap_cons, ih.1, rest_split hv hk]
      by_cases hr : rightK k v = []
      · rw [hr]; simp
      · have : vs.flatMap (leftK k) = [] := by
          rw [List.flatMap_eq_nil_iff]
          exact fun u hu => left_none hv (ih.2 u hu) hk (hs u hu) hr
        rw [this]; simp
    · rcases List.mem_cons.1 hu with rfl | hu
      · exact hv
      · exact ih.2 u hu
theorem take_all {p : KnownD → Bool} : ∀ {A B : List KnownD}, (∀ u ∈ A, p u = true) → (∀ u ∈ B, p u = false) → (A ++ B).takeWhile p = A ∧ (A ++ B).dropWhile p = B
  | [], [], _, _ => ⟨rfl, rfl⟩
  | [], b :: B, _, h => by
    have := h b (by simp)
    simp [List.takeWhile, List.dropWhile, this]
  | a :: A, B, g, h => by
    have := g a (by simp)
    have ih := take_all (A := A) (B := B) (fun u hu => g u (by simp [hu])) h
    simp [List.takeWhile_cons, List.dropWhile_cons, this, ih.1, ih.2]
theorem flat_ite {b : Prop} [Decidable b] (f : KnownD → List KnownD) (vs : List KnownD) : (vs.flatMap fun v => if b then [] else f v) = if b then [] else vs.flatMap f := by
  by_cases h : b
  · simp [h]
  · simp [h]
theorem put_one {k : KnownD} (hk : KOk k) {vs : List KnownD} (h : Apt vs) : putS k (restAll k vs vs.length) = putI k vs := by
  obtain ⟨he, hok⟩ := rest_all hk h
  have hl : vs.flatMap (leftK k) = if k.f0.toList = [] then [] else within ⟨#[]⟩ k.f0 vs vs.length := by
    unfold within; rw [List.take_length]; exact flat_ite _ _
  have hr : vs.flatMap (rightK k) = if k.f1.toList = [] then [] else within k.f1 ⟨#[]⟩ vs vs.length := by
    unfold within; rw [List.take_length]; exact flat_ite _ _
  unfold putS restAll putI
  rw [List.take_length, he]
  obtain ⟨t, d⟩ := take_all (p := fun u => decide (u.f0.toList < k.f0.toList)) (A := vs.flatMap (leftK k)) (B := vs.flatMap (rightK k))
    (fun u hu => by obtain ⟨v, hv, hu⟩ := List.mem_flatMap.1 hu; exact decide_eq_true (left_less (hok v hv) hk u hu))
    (fun u hu => by obtain ⟨v, hv, hu⟩ := List.mem_flatMap.1 hu; exact decide_eq_false (right_more (hok v hv) hk u hu))
  rw [t, d, hl, hr]
theorem KOk.of {v : KnownD} (h : knownOkB v = true) : KOk v := by
  unfold knownOkB at h
  rw [Bool.and_eq_true, Bool.and_eq_true] at h
  have hs := h.1.1
  unfold spanOkB at hs
  rw [Bool.and_eq_true, Bool.and_eq_true] at hs
  exact ⟨hs.1.1, hs.1.2, hs.2⟩
theorem touch_trans {v u x : KnownD} (hu : KOk u) (h : touchB v u = false) (g : touchB u x = false) : touchB v x = false := by
  have b := (fit_iff _ _).1 hu.2.2
  unfold touchB at *
  rw [Bool.or_eq_false_iff] at *
  refine ⟨h.1, ?_⟩
  have h2 : ¬ u.f0.toList < v.f1.toList := fun k => by rw [(less_iffK _ _).2 k] at h; exact absurd h.2 (by decide)
  have g1 : u.f1.toList ≠ [] := fun k => by rw [(empty_iff _).2 k] at g; exact absurd g.1 (by decide)
  have g2 : ¬ x.f0.toList < u.f1.toList := fun k => by rw [(less_iffK _ _).2 k] at g; exact absurd g.2 (by decide)
  cases hc : Op.bytesLess x.f0.toList v.f1.toList
  · rfl
  · have := (less_iffK _ _).1 hc; exfalso; grind
theorem apt_of {vs : List KnownD} (hok : ∀ v ∈ vs, KOk v) (hs : ∀ i (h : i < vs.length) j (hj : j < vs.length), j + 1 = i → touchB vs[j] vs[i] = false) : Apt vs := by
  induction vs with
  | nil => exact .nil
  | cons v vs ih =>
    have hin : Apt vs := ih (fun u hu => hok u (by simp [hu])) (fun i h j hj e => by have := hs (i + 1) (by simpa using h) (j + 1) (by simpa using hj) (by omega); simpa using this)
    refine .cons (hok v (by simp)) ?_ hin
    cases hin with
    | nil => intro u hu; cases hu
    | cons hv' h' g' =>
      rename_i v' vs'
      have h0 := hs 1 (by simp) 0 (by simp) (by omega)
      intro u hu
      rcases List.mem_cons.1 hu with rfl | hu
      · simpa using h0
      · exact touch_trans hv' (by simpa using h0) (h' u hu)
theorem apt_ok {vs : List KnownD} (h : RouteOkP vs) : Apt vs :=
  apt_of (fun v hv => by
    obtain ⟨i, hi, rfl⟩ := List.getElem_of_mem hv
    exact KOk.of (h.1.1 i hi hi)) (fun i hi j hj e => h.1.2 i hi hi j hj e)
/-- The list with one more, said in either way, is one list. -/
theorem learn_one {k : KnownD} {vs : List KnownD} (h : RouteOkP vs) (hk : knownOkB k = true) : putS k (restAll k vs vs.length) = putI k vs := put_one (KOk.of hk) (apt_ok h)
end Go.Proofs.Ytjijichgoodocaa

/- What is known of a range: the program's walk. -/
namespace Go.Proofs.Ytjijichgoodocaa
open Go.RowKit

theorem within_succ {lo hi : ByteArray} {vs : List KnownD} {k : Nat} (hk : k < vs.length) : within lo hi vs (k + 1) = within lo hi vs k ++ (cutK lo hi vs[k]).toList := by
  unfold within; rw [List.take_succ_eq_append_getElem hk, List.flatMap_append]; simp
theorem within_no {lo hi : ByteArray} {vs : List KnownD} {k : Nat} (hk : k < vs.length) (h : meetB vs[k].f0 vs[k].f1 lo hi = false) : within lo hi vs (k + 1) = within lo hi vs k := by
  rw [within_succ hk]; unfold cutK; rw [h]; simp
theorem within_yes {lo hi : ByteArray} {vs : List KnownD} {k : Nat} (hk : k < vs.length) (h : meetB vs[k].f0 vs[k].f1 lo hi = true) : within lo hi vs (k + 1) = within lo hi vs k ++ [⟨mLo vs[k].f0 vs[k].f1 lo hi, mHi vs[k].f0 vs[k].f1 lo hi, vs[k].f2, vs[k].f3⟩] := by
  rw [within_succ hk]; unfold cutK; rw [h]; simp
theorem within_le (lo hi : ByteArray) (vs : List KnownD) : ∀ k, (within lo hi vs k).length ≤ k
  | 0 => by simp [within]
  | k + 1 => by
    have ih := within_le lo hi vs k
    by_cases hk : k < vs.length
    · cases h : meetB vs[k].f0 vs[k].f1 lo hi
      · rw [within_no hk h]; omega
      · rw [within_yes hk h, List.length_append]; simp; omega
    · have : within lo hi vs (k + 1) = within lo hi vs k := by unfold within; rw [List.take_of_length_le (by omega), List.take_of_length_le (by omega)]
      rw [this]; omega
end Go.Proofs.Ytjijichgoodocaa

/- 'out = append(out, more...)', both owned by the call, more with no element perhaps: one law. -/
namespace Go.Proofs.Ytjijichgoodocaa
open Go.RowKit

set_option maxRecDepth 100000 in
theorem run_append_row {w : World} (base b2 : Nat) (t ty : TypeId) (ht : Try.prog.underlying t = some (.slice 84)) (v : Value) (n : Nat) (xs : List Value) (hown : w.ownsRow base 84 4 v n xs)
    (y : Value) (m : Nat) (news : List Value) (hy : w.ownsRow b2 84 4 y m news) (h1 : ∀ u ∈ news, u.oneCell' = true) (hnm : n + m ≤ 2097152) (hbase : base ≤ w.heap.size) :
    ∃ v' w', (Builtin.append_ #[t, t] ty #[v, y]).run Try.prog w = .ok v' w' ∧ w'.ownsRow base 84 4 v' (n + m) (xs ++ news) ∧ w.grownBy w' v.ownBlock ∧ (v'.ownBlock = v.ownBlock ∨ v'.ownBlock = some w.heap.size) := by
  obtain ⟨i0, hi0, hz0, hz1, hz2⟩ := info_parts infoKnown
  have hl := hy.1
  rcases hy.2 with ⟨rfl, rfl⟩ | ⟨g, cap, cur, rfl, hb, hg, hmc, hcm, hcs, htk⟩
  · have : news = [] := List.eq_nil_of_length_eq_zero (by omega)
    subst this
    exact ⟨v, w, run_append_owned_none (P := Try.prog) w base t ty 84 i0 4 ht hi0 v n xs hown, by simpa using hown, World.grownBy.refl _ _, .inl rfl⟩
  · obtain ⟨v', w', hr, h2, h3, _, h5⟩ := run_append_own_at (P := Try.prog) w base t ty 84 i0 (.agg #[.string ⟨#[]⟩, .string ⟨#[]⟩, .int .i64 0, .int .i64 0]) 4 48 ht hi0 hz0 hz1 hz2 rfl (by omega) v n xs hown ⟨g, 0, none⟩ m cap news hl
      (fun j u hu => by
        have hj : j < news.length := by
          rcases Nat.lt_or_ge j news.length with h | h
          · exact h
          · rw [List.getElem?_eq_none h] at hu; cases hu
        have := hy.cellAt j (by omega)
        rw [← hu, ← this]
        congr 1
        cases j <;> simp [Addr.add]) h1 (by unfold maxLen; omega) (by omega) hbase
    exact ⟨v', w', hr, h2, h3, h5⟩

theorem wpList_append_row {w : World} {ops : Array Oper} {rest : List Oper} {o : Oper} {a : Act} {Q : Exit → Act → World → Prop} (hgd : o.guard = none) (s x : Operand) (t : TypeId)
    (ho : o.op = .call { callee := .builtin .append, args := #[s, x], argTypes := #[t, t] }) (ht : Try.prog.underlying t = some (.slice 84))
    (base b2 : Nat) (v : Value) (n : Nat) (xs : List Value) (hs : a.eval s = v) (hown : w.ownsRow base 84 4 v n xs)
    (y : Value) (m : Nat) (news : List Value) (hx : a.eval x = y) (hy : w.ownsRow b2 84 4 y m news) (h1 : ∀ u ∈ news, u.oneCell' = true) (hnm : n + m ≤ 2097152) (hbase : base ≤ w.heap.size)
    (h : ∀ v' w', w'.ownsRow base 84 4 v' (n + m) (xs ++ news) → w.grownBy w' v.ownBlock → (v'.ownBlock = v.ownBlock ∨ v'.ownBlock = some w.heap.size) → wpList Try.prog ops Q rest (a.put o.dst v') w') : wpList Try.prog ops Q (o :: rest) a w := by
  obtain ⟨v', w', hr, h2, h3, h4⟩ := run_append_row base b2 t o.type ht v n xs hown y m news hy h1 hnm hbase
  exact Lib.wpList_append_run w hgd s x t t ho v y hs hx v' w' hr (h v' w' h2 h3 h4)

set_option maxRecDepth 100000 in
/-- The source by its cells; with no element too; what is not nil stays so. -/
theorem run_append_any {w : World} (base : Nat) (t ty : TypeId) (ht : Try.prog.underlying t = some (.slice 84)) (v : Value) (n : Nat) (xs : List Value) (hown : w.ownsRow base 84 4 v n xs)
    (ad : Addr) (m c : Nat) (news : List Value) (hl : news.length = m * 4) (hnews : ∀ j u, news[j]? = some u → w.cell? (ad.add j) = some u) (h1 : ∀ u ∈ news, u.oneCell' = true) (hnm : n + m ≤ 2097152) (hbase : base ≤ w.heap.size) (hv : v ≠ .slice none 0 0) :
    ∃ g cap w', (Builtin.append_ #[t, t] ty #[v, .slice (some ad) m c]).run Try.prog w = .ok (.slice (some ⟨g, 0, none⟩) (n + m) cap) w' ∧ w'.ownsRow base 84 4 (.slice (some ⟨g, 0, none⟩) (n + m) cap) (n + m) (xs ++ news) ∧ w.grownBy w' v.ownBlock := by
  obtain ⟨i0, hi0, hz0, hz1, hz2⟩ := info_parts infoKnown
  obtain ⟨v', w', hr, h2, h3, h4, h5⟩ := run_append_own_at (P := Try.prog) w base t ty 84 i0 (.agg #[.string ⟨#[]⟩, .string ⟨#[]⟩, .int .i64 0, .int .i64 0]) 4 48 ht hi0 hz0 hz1 hz2 rfl (by omega) v n xs hown ad m c news hl hnews h1 (by unfold maxLen; omega) (by omega) hbase
  rcases h2.2 with ⟨h0, _⟩ | ⟨g, cap, cur, rfl, _⟩
  · exact absurd (h4.1 h0).1 hv
  · exact ⟨g, cap, w', hr, h2, h3⟩

theorem wpList_append_any {w : World} {ops : Array Oper} {rest : List Oper} {o : Oper} {a : Act} {Q : Exit → Act → World → Prop} (hgd : o.guard = none) (s x : Operand) (t : TypeId)
    (ho : o.op = .call { callee := .builtin .append, args := #[s, x], argTypes := #[t, t] }) (ht : Try.prog.underlying t = some (.slice 84))
    (base : Nat) (v : Value) (n : Nat) (xs : List Value) (hs : a.eval s = v) (hown : w.ownsRow base 84 4 v n xs)
    (ad : Addr) (m c : Nat) (news : List Value) (hx : a.eval x = .slice (some ad) m c) (hl : news.length = m * 4) (hnews : ∀ j u, news[j]? = some u → w.cell? (ad.add j) = some u) (h1 : ∀ u ∈ news, u.oneCell' = true) (hnm : n + m ≤ 2097152) (hbase : base ≤ w.heap.size) (hv : v ≠ .slice none 0 0)
    (h : ∀ g cap w', w'.ownsRow base 84 4 (.slice (some ⟨g, 0, none⟩) (n + m) cap) (n + m) (xs ++ news) → w.grownBy w' v.ownBlock → wpList Try.prog ops Q rest (a.put o.dst (.slice (some ⟨g, 0, none⟩) (n + m) cap)) w') : wpList Try.prog ops Q (o :: rest) a w := by
  obtain ⟨g, cap, w', hr, h2, h3⟩ := run_append_any base t o.type ht v n xs hown ad m c news hl hnews h1 hnm hbase hv
  exact Lib.wpList_append_run w hgd s x t t ho v _ hs hx _ w' hr (h g cap w' h2 h3)
theorem step_append_any {w : World} {ops : Array Oper} {o : Oper} {a : Act} {K : Act → World → Prop} {Q : Exit → Act → World → Prop} {E : Prop} (hgd : o.guard = none) (s x : Operand) (t : TypeId)
    (ho : o.op = .call { callee := .builtin .append, args := #[s, x], argTypes := #[t, t] }) (ht : Try.prog.underlying t = some (.slice 84))
    (base : Nat) (v : Value) (n : Nat) (xs : List Value) (hs : a.eval s = v) (hown : w.ownsRow base 84 4 v n xs)
    (ad : Addr) (m c : Nat) (news : List Value) (hx : a.eval x = .slice (some ad) m c) (hl : news.length = m * 4) (hnews : ∀ j u, news[j]? = some u → w.cell? (ad.add j) = some u) (h1 : ∀ u ∈ news, u.oneCell' = true) (hnm : n + m ≤ 2097152) (hbase : base ≤ w.heap.size) (hv : v ≠ .slice none 0 0)
    (h : ∀ g cap w', w'.ownsRow base 84 4 (.slice (some ⟨g, 0, none⟩) (n + m) cap) (n + m) (xs ++ news) → w.grownBy w' v.ownBlock → K (a.put o.dst (.slice (some ⟨g, 0, none⟩) (n + m) cap)) w') :
    if Region.wanted o (yielded ops a.tmps) = true then Oper.wp Try.prog o a w K Q else E := by
  have hw : Region.wanted o (yielded ops a.tmps) = true := by simp [Region.wanted, hgd]
  rw [if_pos hw]
  obtain ⟨g, cap, w', hr, h2, h3⟩ := run_append_any base t o.type ht v n xs hown ad m c news hl hnews h1 hnm hbase hv
  exact Lib.wp_append_run w s x t t ho v _ hs hx _ w' hr (h g cap w' h2 h3)
theorem own_news {w : World} {B g m c : Nat} {vs : List KnownD} (h : w.ownsRow B 84 4 (.slice (some ⟨g, 0, none⟩) m c) m (vs.flatMap knownCells)) : ∀ j u, (vs.flatMap knownCells)[j]? = some u → w.cell? ((⟨g, 0, none⟩ : Addr).add j) = some u := fun j u hu => by
  have hj : j < (vs.flatMap knownCells).length := by
    rcases Nat.lt_or_ge j (vs.flatMap knownCells).length with h | h
    · exact h
    · rw [List.getElem?_eq_none h] at hu; cases hu
  have := h.cellAt j (by rw [← h.1]; exact hj)
  have e : (⟨g, 0, none⟩ : Addr).add j = ⟨g, j, none⟩ := by cases j <;> simp [Addr.add]
  rw [e, this]; exact hu
theorem own_some {w : World} {B n cap g : Nat} {xs : List Value} (h : w.ownsRow B 84 4 (.slice (some ⟨g, 0, none⟩) n cap) n xs) : n ≤ cap ∧ cap ≤ maxLen ∧ B ≤ g ∧ g < w.heap.size := by
  have hg := h.lt g rfl
  rcases h.2 with ⟨h0, _⟩ | ⟨g', cap', cur, he, _, _, h1, h2, _⟩
  · cases h0
  · cases he
    exact ⟨h1, h2, hg.1, hg.2⟩
theorem take_news {w : World} {b off : Nat} {vs : List KnownD} {m : Nat} (hm : m ≤ vs.length) (hc : ∀ j u, (vs.flatMap knownCells)[j]? = some u → w.cell? ((⟨b, off, none⟩ : Addr).add j) = some u) : ∀ j u, ((vs.take m).flatMap knownCells)[j]? = some u → w.cell? ((⟨b, off, none⟩ : Addr).add j) = some u := fun j u hu => by
  have e : vs.flatMap knownCells = (vs.take m).flatMap knownCells ++ (vs.drop m).flatMap knownCells := by rw [← List.flatMap_append, List.take_append_drop]
  have hj : j < ((vs.take m).flatMap knownCells).length := by
    rcases Nat.lt_or_ge j ((vs.take m).flatMap knownCells).length with h | h
    · exact h
    · rw [List.getElem?_eq_none h] at hu; cases hu
  exact hc j u (by rw [e, List.getElem?_append_left hj]; exact hu)
theorem drop_news {w : World} {b off : Nat} {vs : List KnownD} {m : Nat} (hm : m ≤ vs.length) (hc : ∀ j u, (vs.flatMap knownCells)[j]? = some u → w.cell? ((⟨b, off, none⟩ : Addr).add j) = some u) : ∀ j u, ((vs.drop m).flatMap knownCells)[j]? = some u → w.cell? ((⟨b, off + m * 4, none⟩ : Addr).add j) = some u := fun j u hu => by
  have e : vs.flatMap knownCells = (vs.take m).flatMap knownCells ++ (vs.drop m).flatMap knownCells := by rw [← List.flatMap_append, List.take_append_drop]
  have hl : ((vs.take m).flatMap knownCells).length = m * 4 := by rw [knowns_len, List.length_take]; congr 1; omega
  have := hc (m * 4 + j) u (by rw [e, List.getElem?_append_right (by omega), hl, Nat.add_sub_cancel_left]; exact hu)
  rw [← this]
  congr 1
  unfold Addr.add
  rcases j with _ | j
  · rcases m with _ | m
    · simp
    · simp
  · simp; omega
end Go.Proofs.Ytjijichgoodocaa
