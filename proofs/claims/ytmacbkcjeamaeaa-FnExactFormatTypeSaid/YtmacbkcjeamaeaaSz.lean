/- The size of a slice of strings, as laws.szStringS computes it. -/
import Derived.Test.YtmacbkcjeamaeaaProg
import Derived.Test.YtmacbkcjeamaeaaStrs
namespace Go.Proofs.Ytmacbkcjeamaeaa
open Go.RowKit

def szStrs (left : Int) (ss : List ByteArray) : Int := if left - ss.length - sumSizes ss < 0 then -1 else left - ss.length - sumSizes ss
theorem ret_i64 {a b : Int} (h : a = b) : Ending.returned (.int .i64 a) = .returned (.int .i64 b) := by rw [h]

set_option maxHeartbeats 400000 in
theorem szStringS_any (A : Option Addr) (c B : Nat) (ss : List ByteArray) (left : Int) (w : World) (hA : StrsAt w B A ss) (hn : ss.length ≤ maxLen) (hs : ∀ i, (h : i < ss.length) → ss[i].size ≤ maxLen) (h0 : 0 ≤ left) (h1 : left ≤ 1048576) :
    Calls Try.prog 48 #[.slice A ss.length c, .int .i64 left] w fun e w' => e = .returned (.int .i64 (szStrs left ss)) ∧ w = w' := by
  unfold maxLen at hn hs
  by_cases hneg : left - ss.length < 0
  · go_enter Try.func48, Try.ntmps48
    go_wp2
    go_ret
    exact ⟨ret_i64 (by unfold szStrs; rw [if_pos (by omega)]), rfl⟩
  · go_enter Try.func48, Try.ntmps48
    go_wp2
    go_loop [1, 5] (fun l i => ∃ k : Nat, k ≤ ss.length ∧ i = .int .i64 k ∧ l = .int .i64 (left - ss.length - sumSizes (ss.take k)) ∧ 0 ≤ left - ss.length - sumSizes (ss.take k)) (fun _ i => ss.length - (intOf i).toNat)
    case atStart => exact ⟨0, Nat.zero_le _, rfl, by simp [sumSizes], by simp [sumSizes]; omega⟩
    case round =>
      obtain ⟨k, hk, rfl, rfl, hp⟩ := hrel
      by_cases hlt : k < ss.length
      · obtain ⟨b, off, rfl, hb, hcell⟩ := hA k hlt
        have hsz := hs k hlt
        have hstep := Lib.hid (sumSizes_take_succ ss k hlt)
        have hle := sumSizes_take_le ss (k + 1)
        by_cases hnext : left - ss.length - sumSizes (ss.take k) - ss[k].size < 0
        · go_wp2
          go_ret
          exact ⟨ret_i64 (by have := hstep.out; unfold szStrs; rw [if_pos (by omega)]), rfl⟩
        · go_wp2
          go_round
          case rel => exact ⟨k + 1, by omega, by go_num, by rw [hstep.out]; congr 1; omega, by rw [hstep.out]; omega⟩
          case measure => simp [intOf]; omega
      · go_wp2
        go_ret
        have hk' : k = ss.length := by omega
        subst hk'
        rw [List.take_length] at hp
        exact ⟨ret_i64 (by unfold szStrs; rw [List.take_length, if_neg (by omega)]), rfl⟩

end Go.Proofs.Ytmacbkcjeamaeaa
