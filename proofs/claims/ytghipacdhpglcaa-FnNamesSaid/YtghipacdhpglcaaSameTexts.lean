/- laws.sameTexts of two slices that hold the same strings; facts lifted over a call. -/
import Derived.Test.YtghipacdhpglcaaEqS
import Derived.Test.YtghipacdhpglcaaCur
namespace Go.Proofs.Ytghipacdhpglcaa
open Go.RowKit

theorem StrsAt.up {w w' : World} {A : Option Addr} {ss : List ByteArray} (h : StrsAt w w.heap.size A ss) (hb : Below w.heap.size w w') : StrsAt w' w'.heap.size A ss := (h.below hb).more hb.size
theorem BytesAt.up {w w' : World} {A : Option Addr} {n : Nat} (h : BytesAt w w.heap.size A n) (hb : Below w.heap.size w w') : BytesAt w' w'.heap.size A n := (h.below hb).keepMore hb.size

set_option maxHeartbeats 400000 in
theorem sameTexts_same (A A' : Option Addr) (c c' B B' : Nat) (ss : List ByteArray) (w : World) (hA : StrsAt w B A ss) (hA' : StrsAt w B' A' ss) (hn : ss.length ≤ maxLen) :
    Calls Try.prog 20 #[.slice A ss.length c, .slice A' ss.length c'] w (TrueDrew w) := by
  unfold maxLen at hn
  have hneq : ((ss.length : Int) != ss.length) = false := by simp
  go_enter Try.func20, Try.ntmps20
  go_wp2
  go_loopw [5] (fun i wr => ∃ k : Nat, k ≤ ss.length ∧ i = .int .i64 k ∧ ∃ n, wr = w.drewN n) (fun i _ => ss.length - (intOf i).toNat)
  case atStart => exact ⟨0, Nat.zero_le _, rfl, 0, rfl⟩
  case round =>
    obtain ⟨k, hk, rfl, n, rfl⟩ := hrel
    by_cases hlt : k < ss.length
    · obtain ⟨b, off, rfl, hbl, hcell⟩ := hA k hlt
      obtain ⟨b', off', rfl, hbl', hcell'⟩ := hA' k hlt
      go_wp2
      go_quiet (fail)
      go_wp2
      go_roundw
      case rel => exact ⟨k + 1, by omega, by go_num, _, rfl⟩
      case measure => simp [intOf]; omega
    · go_wp2
      go_ret
      exact ⟨rfl, n, rfl⟩

end Go.Proofs.Ytghipacdhpglcaa
