/- Where a key stands, and its newest version, as the model finds them. -/
import Derived.Test.YtchnmcpnpipfiaaAtF
namespace Go.Proofs.Ytchnmcpnpipfiaa
open Go.RowKit

def AtIdx (os : List ObjD) (key : ByteArray) (k : Nat) : Prop := k ≤ os.length ∧ ∀ i (h : i < os.length), i < k → Op.bytesLess os[i].key.toList key.toList = true
def L2At (os : List ObjD) (key : ByteArray) (w : World) (e : Ending) (w' : World) : Prop :=
  ∃ (k : Nat) (b : Bool), e = .returned (.tuple #[.int .i64 k, .bool b]) ∧ AtIdx os key k ∧ (∀ h : k < os.length, Op.bytesLess os[k].key.toList key.toList = false ∧ b = (os[k].key.toList == key.toList)) ∧ (os.length ≤ k → b = false) ∧ Below w.heap.size w w'

set_option maxHeartbeats 1000000 in
theorem l2At_any (a : Option Addr) (os : List ObjD) (cap : Nat) (key : ByteArray) (w : World) (hv : ObjsIn w a os) (hn : os.length ≤ 1048576) :
    Calls Try.prog 83 #[.agg #[.slice a os.length cap], .string key] w (L2At os key w) := by
  have HV := Lib.hid hv
  clear hv
  have HW := Lib.hid ((Below.refl w.heap.size w).alloc (Nat.le_refl _) (.cells #[.slice a os.length cap] 57))
  go_enter Try.func83, Try.ntmps83
  go_wp2_with fail
  go_loop [6] (fun i => ∃ k : Nat, i = .int .i64 k ∧ AtIdx os key k) (fun i => os.length - (intOf i).toNat)
  case atStart => exact ⟨0, rfl, Nat.zero_le _, fun i h hk => absurd hk (by omega)⟩
  case round =>
    obtain ⟨k, rfl, hA⟩ := hrel
    have hk := hA.1
    have HA := Lib.hid hA
    clear hA
    by_cases hlt : k < os.length
    · rcases HV.out.below HW.out with hnil | ⟨b1, o1, rfl, hb1, hc1⟩
      · rw [hnil] at hlt; simp at hlt
      obtain ⟨c0, c1, c2⟩ := hc1 k hlt
      clear hc1 c2
      cases hb : Op.bytesLess os[k].key.toList key.toList
      · cases he : (os[k].key.toList == key.toList)
        all_goals
          go_wp2_with fail
          go_quiet (fail)
          go_wp2_with fail
          go_ret2
          exact ⟨k, _, rfl, HA.out, fun _ => ⟨hb, he.symm⟩, fun h => absurd h (by omega), Below.drewN HW.out _⟩
      · go_wp2_with fail
        go_round
        case rel => exact ⟨k + 1, by go_num, by omega, fun i h hik => by
          by_cases e : i = k
          · subst e; exact hb
          · exact HA.out.2 i h (by omega)⟩
        case measure => simp [intOf]; omega
    · go_wp2_with fail
      go_quiet (fail)
      go_wp2_with fail
      go_ret2
      exact ⟨k, false, rfl, HA.out, fun h => absurd h hlt, fun _ => rfl, Below.drewN HW.out _⟩
end Go.Proofs.Ytchnmcpnpipfiaa
