/- slices.Equal of strings, impl.equalTypeNodes. -/
import Derived.Test.YtmacbkcjeamaeaaSpecTy4
namespace Go.Proofs.Ytmacbkcjeamaeaa
set_option maxRecDepth 100000
open Go.RowKit

set_option maxHeartbeats 1000000 in
theorem slicesEqual_any (A A' : Option Addr) (c c' : Nat) (ss ss' : List ByteArray) (w : World) (hA : StrsAt w w.heap.size A ss) (hA' : StrsAt w w.heap.size A' ss') (hn : ss.length ≤ maxLen) :
    Calls Try.prog 83 #[.slice A ss.length c, .slice A' ss'.length c'] w (BoolDrew (textsB ss ss') w) := by
  unfold maxLen at hn
  by_cases hl : ss.length = ss'.length
  · have hneq : ((ss.length : Int) != (ss'.length : Int)) = false := by rw [bne_eq_false_iff_eq]; omega
    have HL := Lib.hid hl
    have hl1 : ss.length ≤ ss'.length := by omega
    clear hl
    go_enter Try.func83, Try.ntmps83
    go_wp2
    go_loopw [13] (fun i wr => ∃ k : Nat, k ≤ ss.length ∧ i = .int .i64 k ∧ (∀ j, (h1 : j < ss.length) → (h2 : j < ss'.length) → j < k → ss[j] = ss'[j]) ∧ ∃ n, wr = w.drewN n) (fun i _ => ss.length - (intOf i).toNat)
    case atStart => exact ⟨0, Nat.zero_le _, rfl, fun j _ _ h => absurd h (by omega), 0, rfl⟩
    case round =>
      obtain ⟨k, hk, rfl, hall, n, rfl⟩ := hrel
      have HA := Lib.hid hall
      clear hall hneq
      by_cases hlt : k < ss.length
      · obtain ⟨b, off, rfl, hbl, hcell⟩ := hA k hlt
        obtain ⟨b', off', rfl, hbl', hcell'⟩ := hA' k (by omega)
        by_cases he : ss[k] = ss'[k]
        · have hq : (ss[k].toList != ss'[k].toList) = false := by rw [bne_eq_false_iff_eq, he]
          have hq2 : (ss[k].toList == ss'[k].toList) = true := by rw [beq_iff_eq, he]
          have HE := Lib.hid he
          clear he
          go_wp2
          go_quiet (fail)
          go_wp2
          go_roundw
          case rel =>
            refine ⟨k + 1, by omega, by go_num, fun j h1 h2 h => ?_, _, rfl⟩
            by_cases e : j = k
            · subst e
              exact HE.out
            · exact HA.out j h1 h2 (by omega)
          case measure => simp [intOf]; omega
        · have hne : ss[k].toList ≠ ss'[k].toList := by
            rw [ByteArray.toList_eq, ByteArray.toList_eq]
            exact fun e => he (WideShapes.bytes_inj e)
          have hq : (ss[k].toList != ss'[k].toList) = true := by rw [bne_iff_ne]; exact hne
          have hq2 : (ss[k].toList == ss'[k].toList) = false := by rw [beq_eq_false_iff_ne]; exact hne
          have hr := Lib.hid (textsB_no ss ss' k hlt (by omega) he)
          clear he hne
          go_wp2
          go_quiet (fail)
          go_wp2
          go_ret
          exact ⟨by rw [hr.out]; rfl, _, World.drewN_drewN _ _ _⟩
      · have hr := Lib.hid (textsB_yes ss ss' HL.out fun j h1 h2 => HA.out j h1 h2 (by omega))
        go_wp2
        go_ret
        exact ⟨by rw [hr.out]; rfl, n, rfl⟩
  · have hneq : ((ss.length : Int) != (ss'.length : Int)) = true := by rw [bne_iff_ne]; omega
    have hr := Lib.hid (textsB_len ss ss' hl)
    clear hl
    go_enter Try.func83, Try.ntmps83
    go_wp2
    go_ret
    exact ⟨by rw [hr.out]; rfl, 0, rfl⟩

/-- The same node? -/
def nodesB (a b : Ty) : Bool := decide (a.kind = b.kind) && textsB a.labels b.labels

set_option maxHeartbeats 1000000 in
theorem equalNodes_any (a b : Ty) (va vb : Value) (w : World) (ha : TyAt w w.heap.size va a) (hb : TyAt w w.heap.size vb b) : Calls Try.prog 45 #[va, vb] w (BoolIs (nodesB a b) w) := by
  obtain ⟨L, lc, A, ac, rfl, hn, _, hl, _⟩ := ha.open
  obtain ⟨L', lc', A', ac', rfl, _, _, hl', _⟩ := hb.open
  obtain ⟨hb0, p0, q0, hs0⟩ := boxes2 w 27 27 #[.int .i64 a.kind, .slice L a.labels.length lc, .slice A a.args.length ac] #[.int .i64 b.kind, .slice L' b.labels.length lc', .slice A' b.args.length ac']
  have HE := Lib.hid (slicesEqual_any L L' lc lc' a.labels b.labels _ (hl.up' hb0) (hl'.up' hb0) hn)
  clear ha hb hl hl' hs0 hn
  by_cases hk : a.kind = b.kind
  · have i0 : (a.kind == b.kind) = true := by rw [beq_iff_eq]; exact hk
    have hr := Lib.hid (show nodesB a b = textsB a.labels b.labels by unfold nodesB; simp [hk])
    clear hk
    go_enter Try.func45, Try.ntmps45
    go_wp2_with fail
    refine HE.out.mono ?_
    rintro e w1 ⟨rfl, n, rfl⟩
    go_wp2
    go_ret
    exact ⟨by rw [hr.out]; rfl, hb0.trans ⟨rfl, rfl, rfl, Nat.le_refl _, fun _ _ => rfl⟩⟩
  · have i0 : (a.kind == b.kind) = false := by rw [beq_eq_false_iff_ne]; exact hk
    have hr := Lib.hid (show nodesB a b = false by unfold nodesB; simp [hk])
    clear hk
    go_enter Try.func45, Try.ntmps45
    go_wp2
    go_ret
    exact ⟨by rw [hr.out]; rfl, hb0⟩

end Go.Proofs.Ytmacbkcjeamaeaa
