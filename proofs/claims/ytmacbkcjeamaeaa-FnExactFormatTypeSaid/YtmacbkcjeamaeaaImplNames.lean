/- impl.IndexOf, impl.AreAscending, impl.placeOf, strings.Clone. -/
import Derived.Test.YtmacbkcjeamaeaaSpecNames
import Derived.Test.YtmacbkcjeamaeaaShelfCl
import Derived.Test.YtmacbkcjeamaeaaToS
namespace Go.Proofs.Ytmacbkcjeamaeaa
open Go.RowKit

set_option maxHeartbeats 1000000 in
theorem slicesIndex_any (A : Option Addr) (c B : Nat) (ss : List ByteArray) (s : ByteArray) (w : World) (hA : StrsAt w B A ss) (hn : ss.length ≤ maxLen) :
    Calls Try.prog 108 #[.slice A ss.length c, .string s] w fun e w' => e = .returned (.int .i64 (idxOf ss s)) ∧ w = w' := by
  unfold maxLen at hn
  go_enter Try.func108, Try.ntmps108
  go_wp2
  go_loop [8] (fun i => ∃ k : Nat, k ≤ ss.length ∧ i = .int .i64 k ∧ ∀ j, (hj : j < ss.length) → j < k → ss[j].data.toList ≠ s.data.toList) (fun i => ss.length - (intOf i).toNat)
  case atStart => exact ⟨0, Nat.zero_le _, rfl, fun j _ h => absurd h (by omega)⟩
  case round =>
    obtain ⟨k, hk, rfl, hall⟩ := hrel
    have HA := Lib.hid hall
    clear hall
    by_cases hlt : k < ss.length
    · have hltI : (k : Int) < (ss.length : Int) := by omega
      obtain ⟨b, off, rfl, _, hcell⟩ := hA k hlt
      by_cases he : ss[k].data.toList = s.data.toList
      · have hd := Lib.hid (idxOf_at ss s k hlt he HA.out)
        have hq : (s.toList == ss[k].toList) = true := by rw [beq_iff_eq, ByteArray.toList_eq, ByteArray.toList_eq]; exact he.symm
        clear he
        go_wp2
        go_ret
        exact ⟨by rw [hd.out]; rfl, rfl⟩
      · have hq : (s.toList == ss[k].toList) = false := by rw [beq_eq_false_iff_ne, ByteArray.toList_eq, ByteArray.toList_eq]; exact fun e => he e.symm
        have HE := Lib.hid he
        clear he
        go_wp2
        go_round
        case rel =>
          refine ⟨k + 1, by omega, by go_num, fun j hj h => ?_⟩
          by_cases e : j = k
          · subst e
            exact HE.out
          · exact HA.out j hj (by omega)
        case measure => simp [intOf]; omega
    · have hltI : ¬ (k : Int) < (ss.length : Int) := by omega
      have hd := Lib.hid (idxOf_none ss s (fun j hj => HA.out j hj (by omega)))
      go_wp2
      go_ret
      exact ⟨by rw [hd.out]; rfl, rfl⟩

theorem implIndexOf_any (A : Option Addr) (c B : Nat) (ss : List ByteArray) (s : ByteArray) (w : World) (hA : StrsAt w B A ss) (hn : ss.length ≤ maxLen) :
    Calls Try.prog 91 #[.slice A ss.length c, .string s] w fun e w' => e = .returned (.int .i64 (idxOf ss s)) ∧ w = w' := by
  have hc := Lib.hid (slicesIndex_any A c B ss s w hA hn)
  go_enter Try.func91, Try.ntmps91
  go_wp2_with fail
  refine hc.out.mono ?_
  rintro e w1 ⟨rfl, rfl⟩
  go_wp2
  go_ret
  exact ⟨rfl, rfl⟩

set_option maxHeartbeats 1000000 in
theorem implAreAscending_any (A : Option Addr) (c B : Nat) (ss : List ByteArray) (w : World) (hA : StrsAt w B A ss) (hn : ss.length < maxLen) :
    Calls Try.prog 107 #[.slice A ss.length c] w (BoolDrew (ascB ss) w) := by
  unfold maxLen at hn
  go_enter Try.func107, Try.ntmps107
  go_wp2
  go_loopw [3] (fun i wr => ∃ k : Nat, k ≤ ss.length + 1 ∧ 1 ≤ k ∧ i = .int .i64 k ∧ (∀ j, (hj : j < ss.length) → 1 ≤ j → j < k → lessB (ss[j - 1]'(by omega)) ss[j] = true) ∧ ∃ n, wr = w.drewN n) (fun i _ => ss.length - (intOf i).toNat)
  case atStart => exact ⟨1, by omega, by omega, rfl, fun j _ h1 h2 => absurd h2 (by omega), 0, rfl⟩
  case round =>
    obtain ⟨k, hk, hk1, rfl, hall, n, rfl⟩ := hrel
    have HA := Lib.hid hall
    clear hall
    by_cases hlt : k < ss.length
    · have hltI : (k : Int) < (ss.length : Int) := by omega
      obtain ⟨b, off, rfl, _, hcell⟩ := hA k hlt
      obtain ⟨b', off', e', _, hcell'⟩ := hA (k - 1) (by omega)
      cases e'
      cases hles : lessB (ss[k - 1]'(by omega)) ss[k]
      · have hd := Lib.hid (ascB_no ss k hk1 hlt hles)
        have hq : (!Op.bytesLess (ss[k - 1]'(by omega)).toList ss[k].toList) = true := by
          rw [ByteArray.toList_eq, ByteArray.toList_eq, show Op.bytesLess _ _ = false from hles]
          rfl
        clear hles
        go_wp2
        go_quiet (fail)
        go_wp2
        go_ret
        exact ⟨by rw [hd.out]; rfl, _, World.drewN_drewN _ _ _⟩
      · have hq : (!Op.bytesLess (ss[k - 1]'(by omega)).toList ss[k].toList) = false := by
          rw [ByteArray.toList_eq, ByteArray.toList_eq, show Op.bytesLess _ _ = true from hles]
          rfl
        have HE := Lib.hid hles
        clear hles
        go_wp2
        go_quiet (fail)
        go_wp2
        go_roundw
        case rel =>
          refine ⟨k + 1, by omega, by omega, by go_num, fun j hj h1 h2 => ?_, _, rfl⟩
          by_cases e : j = k
          · subst e
            exact HE.out
          · exact HA.out j hj h1 (by omega)
        case measure => simp [intOf]; omega
    · have hltI : ¬ (k : Int) < (ss.length : Int) := by omega
      have hd := Lib.hid (ascB_yes ss (fun j hj h1 => HA.out j hj (by omega) (by omega)))
      go_wp2
      go_ret
      exact ⟨by rw [hd.out]; rfl, n, rfl⟩

theorem clone_any (s : ByteArray) (w : World) (hs : s.size ≤ 1048576) :
    Calls Try.prog 76 #[.string s] w fun e w' => e = .returned (.string s) ∧ Below w.heap.size w w' := by
  have hc := Lib.hid (Any.stringslite_Clone Try.laysClone s w (by omega))
  go_enter Try.func76, Try.ntmps76
  go_wp2_with fail
  refine hc.out.mono ?_
  rintro e w1 ⟨rfl, hb1⟩
  go_wp2
  go_ret
  exact ⟨rfl, hb1⟩

end Go.Proofs.Ytmacbkcjeamaeaa
