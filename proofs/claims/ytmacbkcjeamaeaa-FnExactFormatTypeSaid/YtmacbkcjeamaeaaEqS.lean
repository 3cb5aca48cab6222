/- laws.eqStringS of two slices that hold the same strings. -/
import Derived.Test.YtmacbkcjeamaeaaProg
import Derived.Test.YtmacbkcjeamaeaaStrs
namespace Go.Proofs.Ytmacbkcjeamaeaa
open Go.RowKit

/-- True is handed back; the world only drew. -/
def TrueDrew (w : World) (e : Ending) (w' : World) : Prop := e = .returned (.bool true) ∧ ∃ n, w' = w.drewN n

set_option maxHeartbeats 400000 in
theorem eqStringS_same (A A' : Option Addr) (c c' B B' : Nat) (ss : List ByteArray) (w : World) (hA : StrsAt w B A ss) (hA' : StrsAt w B' A' ss) (hn : ss.length ≤ maxLen) :
    Calls Try.prog 52 #[.slice A ss.length c, .slice A' ss.length c'] w (TrueDrew w) := by
  unfold maxLen at hn
  have hneq : ((ss.length : Int) != ss.length) = false := by simp
  go_enter Try.func52, Try.ntmps52
  go_wp2
  go_loopw [5] (fun i wr => ∃ k : Nat, k ≤ ss.length ∧ i = .int .i64 k ∧ ∃ n, wr = w.drewN n) (fun i _ => ss.length - (intOf i).toNat)
  case atStart => exact ⟨0, Nat.zero_le _, rfl, 0, rfl⟩
  case round =>
    obtain ⟨k, hk, rfl, n, rfl⟩ := hrel
    by_cases hlt : k < ss.length
    · obtain ⟨b, off, rfl, hbl, hcell⟩ := hA k hlt
      obtain ⟨b', off', rfl, hbl', hcell'⟩ := hA' k hlt
      go_wp2
      go_quiet (fail)
      go_wp2
      go_roundw
      case rel => exact ⟨k + 1, by omega, by go_num, _, rfl⟩
      case measure => simp [intOf]; omega
    · go_wp2
      go_ret
      exact ⟨rfl, n, rfl⟩

end Go.Proofs.Ytmacbkcjeamaeaa
