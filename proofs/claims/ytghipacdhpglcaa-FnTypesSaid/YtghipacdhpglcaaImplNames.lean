/- impl.IndexOf, impl.AreAscending, impl.placeOf, strings.Clone. -/
import Derived.Test.YtghipacdhpglcaaSpecNames
import Derived.Test.YtghipacdhpglcaaShelf2
import Derived.Test.YtghipacdhpglcaaToS
namespace Go.Proofs.Ytghipacdhpglcaa
open Go.RowKit

set_option maxHeartbeats 1000000 in
theorem slicesIndex_any (A : Option Addr) (c B : Nat) (ss : List ByteArray) (s : ByteArray) (w : World) (hA : StrsAt w B A ss) (hn : ss.length ≤ maxLen) :
    Calls Try.prog 63 #[.slice A ss.length c, .string s] w fun e w' => e = .returned (.int .i64 (idxOf ss s)) ∧ w = w' := by
  unfold maxLen at hn
  go_enter Try.func63, Try.ntmps63
  go_wp2
  go_loop [8] (fun i => ∃ k : Nat, k ≤ ss.length ∧ i = .int .i64 k ∧ ∀ j, (hj : j < ss.length) → j < k → ss[j].data.toList ≠ s.data.toList) (fun i => ss.length - (intOf i).toNat)
  case atStart => exact ⟨0, Nat.zero_le _, rfl, fun j _ h => absurd h (by omega)⟩
  case round =>
    obtain ⟨k, hk, rfl, hall⟩ := hrel
    have HA := Lib.hid hall
    clear hall
    by_cases hlt : k < ss.length
    · have hltI : (k : Int) < (ss.length : Int) := by omega
      obtain ⟨b, off, rfl, _, hcell⟩ := hA k hlt
      by_cases he : ss[k].data.toList = s.data.toList
      · have hd := Lib.hid (idxOf_at ss s k hlt he HA.out)
        have hq : (s.toList == ss[k].toList) = true := by rw [beq_iff_eq, ByteArray.toList_eq, ByteArray.toList_eq]; exact he.symm
        clear he
        go_wp2
        go_ret
        exact ⟨by rw [hd.out]; rfl, rfl⟩
      · have hq : (s.toList == ss[k].toList) = false := by rw [beq_eq_false_iff_ne, ByteArray.toList_eq, ByteArray.toList_eq]; exact fun e => he e.symm
        have HE := Lib.hid he
        clear he
        go_wp2
        go_round
        case rel =>
          refine ⟨k + 1, by omega, by go_num, fun j hj h => ?_⟩
          by_cases e : j = k
          · subst e
            exact HE.out
          · exact HA.out j hj (by omega)
        case measure => simp [intOf]; omega
    · have hltI : ¬ (k : Int) < (ss.length : Int) := by omega
      have hd := Lib.hid (idxOf_none ss s (fun j hj => HA.out j hj (by omega)))
      go_wp2
      go_ret
      exact ⟨by rw [hd.out]; rfl, rfl⟩

theorem implIndexOf_any (A : Option Addr) (c B : Nat) (ss : List ByteArray) (s : ByteArray) (w : World) (hA : StrsAt w B A ss) (hn : ss.length ≤ maxLen) :
    Calls Try.prog 22 #[.slice A ss.length c, .string s] w fun e w' => e = .returned (.int .i64 (idxOf ss s)) ∧ w = w' := by
  have hc := Lib.hid (slicesIndex_any A c B ss s w hA hn)
  go_enter Try.func22, Try.ntmps22
  go_wp2_with fail
  refine hc.out.mono ?_
  rintro e w1 ⟨rfl, rfl⟩
  go_wp2
  go_ret
  exact ⟨rfl, rfl⟩

set_option maxHeartbeats 1000000 in
theorem implAreAscending_any (A : Option Addr) (c B : Nat) (ss : List ByteArray) (w : World) (hA : StrsAt w B A ss) (hn : ss.length < maxLen) :
    Calls Try.prog 24 #[.slice A ss.length c] w (BoolDrew (ascB ss) w) := by
  unfold maxLen at hn
  go_enter Try.func24, Try.ntmps24
  go_wp2
  go_loopw [3] (fun i wr => ∃ k : Nat, k ≤ ss.length + 1 ∧ 1 ≤ k ∧ i = .int .i64 k ∧ (∀ j, (hj : j < ss.length) → 1 ≤ j → j < k → lessB (ss[j - 1]'(by omega)) ss[j] = true) ∧ ∃ n, wr = w.drewN n) (fun i _ => ss.length - (intOf i).toNat)
  case atStart => exact ⟨1, by omega, by omega, rfl, fun j _ h1 h2 => absurd h2 (by omega), 0, rfl⟩
  case round =>
    obtain ⟨k, hk, hk1, rfl, hall, n, rfl⟩ := hrel
    have HA := Lib.hid hall
    clear hall
    by_cases hlt : k < ss.length
    · have hltI : (k : Int) < (ss.length : Int) := by omega
      obtain ⟨b, off, rfl, _, hcell⟩ := hA k hlt
      obtain ⟨b', off', e', _, hcell'⟩ := hA (k - 1) (by omega)
      cases e'
      cases hles : lessB (ss[k - 1]'(by omega)) ss[k]
      · have hd := Lib.hid (ascB_no ss k hk1 hlt hles)
        have hq : (!Op.bytesLess (ss[k - 1]'(by omega)).toList ss[k].toList) = true := by
          rw [ByteArray.toList_eq, ByteArray.toList_eq, show Op.bytesLess _ _ = false from hles]
          rfl
        clear hles
        go_wp2
        go_quiet (fail)
        go_wp2
        go_ret
        exact ⟨by rw [hd.out]; rfl, _, World.drewN_drewN _ _ _⟩
      · have hq : (!Op.bytesLess (ss[k - 1]'(by omega)).toList ss[k].toList) = false := by
          rw [ByteArray.toList_eq, ByteArray.toList_eq, show Op.bytesLess _ _ = true from hles]
          rfl
        have HE := Lib.hid hles
        clear hles
        go_wp2
        go_quiet (fail)
        go_wp2
        go_roundw
        case rel =>
          refine ⟨k + 1, by omega, by omega, by go_num, fun j hj h1 h2 => ?_, _, rfl⟩
          by_cases e : j = k
          · subst e
            exact HE.out
          · exact HA.out j hj h1 (by omega)
        case measure => simp [intOf]; omega
    · have hltI : ¬ (k : Int) < (ss.length : Int) := by omega
      have hd := Lib.hid (ascB_yes ss (fun j hj h1 => HA.out j hj (by omega) (by omega)))
      go_wp2
      go_ret
      exact ⟨by rw [hd.out]; rfl, n, rfl⟩

/-- The first place of an element that is not less than s. -/
def placeB (ss : List ByteArray) (s : ByteArray) : Nat := (ss.takeWhile fun x => lessB x s).length

theorem take_at (p : ByteArray → Bool) : ∀ (ss : List ByteArray) (k : Nat), k ≤ ss.length → (∀ j, (hj : j < ss.length) → j < k → p ss[j] = true) → (∀ h : k < ss.length, p ss[k] = false) → ss.takeWhile p = ss.take k
  | [], k, hk, _, _ => by simp
  | x :: r, 0, _, _, h2 => by
    have := h2 (by simp)
    simp at this
    simp [this]
  | x :: r, k + 1, hk, h1, h2 => by
    have hx : p x = true := h1 0 (by simp) (by omega)
    have ih := take_at p r k (by simpa using hk) (fun j hj h => h1 (j + 1) (by simpa using hj) (by omega)) (fun h => h2 (by simpa using h))
    simp [hx, ih]
theorem placeB_at (ss : List ByteArray) (s : ByteArray) (k : Nat) (hk : k ≤ ss.length) (h1 : ∀ j, (hj : j < ss.length) → j < k → lessB ss[j] s = true) (h2 : ∀ h : k < ss.length, lessB ss[k] s = false) : placeB ss s = k := by
  unfold placeB
  rw [take_at _ ss k hk h1 h2, List.length_take]
  omega
theorem placeB_le (ss : List ByteArray) (s : ByteArray) : placeB ss s ≤ ss.length := by
  unfold placeB
  exact (List.takeWhile_sublist _).length_le

set_option maxHeartbeats 1000000 in
theorem placeOf_any (A : Option Addr) (c B : Nat) (ss : List ByteArray) (s : ByteArray) (w : World) (hA : StrsAt w B A ss) (hn : ss.length ≤ maxLen) :
    Calls Try.prog 58 #[.slice A ss.length c, .string s] w fun e w' => e = .returned (.int .i64 (placeB ss s)) ∧ w = w' := by
  unfold maxLen at hn
  go_enter Try.func58, Try.ntmps58
  go_wp2
  go_loop [9] (fun i => ∃ k : Nat, k ≤ ss.length ∧ i = .int .i64 k ∧ ∀ j, (hj : j < ss.length) → j < k → lessB ss[j] s = true) (fun i => ss.length - (intOf i).toNat)
  case atStart => exact ⟨0, Nat.zero_le _, rfl, fun j _ h => absurd h (by omega)⟩
  case round =>
    obtain ⟨k, hk, rfl, hall⟩ := hrel
    have HA := Lib.hid hall
    clear hall
    by_cases hlt : k < ss.length
    · have hltI : (k : Int) < (ss.length : Int) := by omega
      obtain ⟨b, off, rfl, _, hcell⟩ := hA k hlt
      cases hles : lessB ss[k] s
      · have hd := Lib.hid (placeB_at ss s k hk HA.out (fun _ => hles))
        have hq : (!Op.bytesLess ss[k].toList s.toList) = true := by
          rw [ByteArray.toList_eq, ByteArray.toList_eq, show Op.bytesLess _ _ = false from hles]
          rfl
        clear hles
        go_wp2
        go_ret
        exact ⟨by rw [hd.out]; rfl, rfl⟩
      · have hq : (!Op.bytesLess ss[k].toList s.toList) = false := by
          rw [ByteArray.toList_eq, ByteArray.toList_eq, show Op.bytesLess _ _ = true from hles]
          rfl
        have HE := Lib.hid hles
        clear hles
        go_wp2
        go_round
        case rel =>
          refine ⟨k + 1, by omega, by go_num, fun j hj h => ?_⟩
          by_cases e : j = k
          · subst e
            exact HE.out
          · exact HA.out j hj (by omega)
        case measure => simp [intOf]; omega
    · have hltI : ¬ (k : Int) < (ss.length : Int) := by omega
      have hke : k = ss.length := by omega
      have hd := Lib.hid (placeB_at ss s k hk HA.out (fun h => absurd h hlt))
      clear hke
      go_wp2
      go_ret
      exact ⟨by rw [hd.out, show k = ss.length by omega]; rfl, rfl⟩

theorem clone_any (s : ByteArray) (w : World) (hs : s.size ≤ 1048576) :
    Calls Try.prog 61 #[.string s] w fun e w' => e = .returned (.string s) ∧ Below w.heap.size w w' := by
  have hc := Lib.hid (Any.stringslite_Clone Try.laysClone s w (by omega))
  go_enter Try.func61, Try.ntmps61
  go_wp2_with fail
  refine hc.out.mono ?_
  rintro e w1 ⟨rfl, hb1⟩
  go_wp2
  go_ret
  exact ⟨rfl, hb1⟩

end Go.Proofs.Ytghipacdhpglcaa
