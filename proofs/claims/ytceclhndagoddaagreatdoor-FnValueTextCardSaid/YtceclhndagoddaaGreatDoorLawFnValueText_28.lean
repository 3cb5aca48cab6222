/- Lemmas: ImplValid. -/
import Derived.Test.YtceclhndagoddaaGreatDoorLawFnValueText_27
import Derived.Test.YtceclhndagoddaaGreatDoorLawFnValueText_4
import Derived.Test.YtceclhndagoddaaGreatDoorLawFnValueText_7
import Derived.LaidEql
import Derived.Test.YtceclhndagoddaaGreatDoorLawFnValueText_24

namespace Go.Proofs.YtceclhndagoddaaGreatDoor
set_option maxRecDepth 100000
open Go.RowKit

set_option maxHeartbeats 1000000 in
theorem areLabels_any (A : Option Addr) (c : Nat) (ss : List ByteArray) (w : World) (hA : StrsAt w w.heap.size A ss) (hn : ss.length < maxLen) (hs : ∀ i, (h : i < ss.length) → ss[i].size ≤ maxLen) :
    Calls Tryz.prog 97 #[.slice A ss.length c] w (BoolIs (labelsB ss) w) := by
  have hasc := Lib.hid (fun W h => implAreAscending_any A c w.heap.size ss W h hn)
  have hn2 := hn
  unfold maxLen at hn2
  have HS := Lib.hid hs
  clear hs hn
  by_cases h0 : ss.length = 0
  · have hr := Lib.hid (show labelsB ss = false by unfold labelsB; simp [h0])
    have i0 : ((ss.length : Int) == 0) = true := by rw [beq_iff_eq]; omega
    clear h0
    go_enter Tryz.func97, Tryz.ntmps97
    go_wp2
    go_ret
    exact ⟨by rw [hr.out]; rfl, Below.refl _ _⟩
  have i0 : ((ss.length : Int) == 0) = false := by rw [beq_eq_false_iff_ne]; omega
  by_cases h4 : ss.length ≤ 4
  · have i4 : ¬ (ss.length : Int) > 4 := by omega
    have H0 := Lib.hid h0
    have H4 := Lib.hid h4
    clear h0 h4
    go_enter Tryz.func97, Tryz.ntmps97
    go_wp2
    go_loopw [15] (fun i wr => ∃ k : Nat, k ≤ ss.length ∧ i = .int .i64 k ∧ (∀ j, (hj : j < ss.length) → j < k → isNameB ss[j] = true) ∧ Below w.heap.size w wr) (fun i _ => ss.length - (intOf i).toNat)
    case atStart => exact ⟨0, Nat.zero_le _, rfl, fun j _ h => absurd h (by omega), Below.refl _ _⟩
    case round =>
      obtain ⟨k, hk, rfl, hall, hb⟩ := hrel
      have HA := Lib.hid hall
      clear hall
      by_cases hlt : k < ss.length
      · obtain ⟨b, off, rfl, _, hcell⟩ := (hA.below hb) k hlt
        have hnm := implIsName_any ss[k] wr (HS.out k hlt)
        cases hnb : isNameB ss[k]
        · have hd := Lib.hid (labelsB_no ss k hlt hnb)
          rw [hnb] at hnm
          have HN := Lib.hid hnm
          clear hnb hnm
          go_wp2_with fail
          refine HN.out.mono ?_
          rintro e w1 ⟨rfl, hb1⟩
          go_wp2
          go_ret
          exact ⟨by rw [hd.out]; rfl, hb.trans (hb1.mono hb.size)⟩
        · rw [hnb] at hnm
          have HN := Lib.hid hnm
          have HB := Lib.hid hnb
          clear hnb hnm
          go_wp2_with fail
          refine HN.out.mono ?_
          rintro e w1 ⟨rfl, hb1⟩
          go_wp2
          go_roundw
          case rel =>
            refine ⟨k + 1, by omega, by go_num, fun j hj h => ?_, hb.trans (hb1.mono hb.size)⟩
            by_cases e : j = k
            · subst e
              exact HB.out
            · exact HA.out j hj (by omega)
          case measure => simp [intOf]; omega
      · have hd := Lib.hid (labelsB_all ss (fun j hj => HA.out j hj (by omega)))
        have he := Lib.hid (show labelsB ss = ascB ss by
          rw [hd.out]
          have h1 := H0.out
          have h2 := H4.out
          simp [h2]
          omega)
        have hA2 := hA.below hb
        go_wp2_with fail
        refine (hasc.out wr hA2).mono ?_
        rintro e w1 ⟨rfl, n, rfl⟩
        go_wp2
        go_ret
        exact ⟨by rw [he.out]; rfl, hb.trans ⟨rfl, rfl, rfl, Nat.le_refl _, fun _ _ => rfl⟩⟩
  · have i4 : (ss.length : Int) > 4 := by omega
    have hr := Lib.hid (show labelsB ss = false by unfold labelsB; simp [h4])
    clear h0 h4
    go_enter Tryz.func97, Tryz.ntmps97
    go_wp2
    go_ret
    exact ⟨by rw [hr.out]; rfl, Below.refl _ _⟩

theorem node1 (k : Int) (ls : List ByteArray) (m : Nat) (h : k = 1 ∨ k = 2) : nodeB k ls m = (decide (ls.length = 0) && decide (m = 0)) := by unfold nodeB; rw [if_pos h]
theorem node3 (k : Int) (ls : List ByteArray) (m : Nat) (h : k = 3 ∨ k = 4) : nodeB k ls m = (decide (m = ls.length) && labelsB ls) := by unfold nodeB; rw [if_neg (by omega), if_pos h]
theorem node5 (k : Int) (ls : List ByteArray) (m : Nat) (h : k = 5) : nodeB k ls m = (decide (ls.length = 0) && decide (m = 1)) := by unfold nodeB; rw [if_neg (by omega), if_neg (by omega), if_pos h]
theorem node0 (k : Int) (ls : List ByteArray) (m : Nat) (h : k ≠ 1 ∧ k ≠ 2 ∧ k ≠ 3 ∧ k ≠ 4 ∧ k ≠ 5) : nodeB k ls m = false := by unfold nodeB; rw [if_neg (by omega), if_neg (by omega), if_neg (by omega)]
end Go.Proofs.YtceclhndagoddaaGreatDoor

namespace Go.Proofs.YtceclhndagoddaaGreatDoor
set_option maxRecDepth 100000
open Go.RowKit

end Go.Proofs.YtceclhndagoddaaGreatDoor

namespace Go.Proofs.YtceclhndagoddaaGreatDoor
set_option maxRecDepth 100000
open Go.RowKit

def PartsPost (w : World) (ts : List Ty) (e : Ending) (w' : World) : Prop := ∃ A c, e = .returned (.slice A ts.length c) ∧ TysAt w' w'.heap.size A ts ∧ Below w.heap.size w w'

theorem run_eql_iface_nil_right {P : Program} (w : World) {ti : TypeId} {ms : Array (String × TypeId)} (tp : TypeId) (v : Value) (hi : P.underlying ti = some (.interface ms)) :
    (binOp .eql ti (.iface tp v) .nilIface).run P w = .ok (.bool false) w := by
  have h : ∀ d : Nat, (Op.equalIn (d + 1) ti (.iface tp v) .nilIface).run P w = .ok false w := fun d => by simp [Op.equalIn, run_underlying hi]
  simp only [binOp]
  simp [Op.equal, Op.maxDepth, h 9999]

def EnterOf (fn : Nat) : Prop := ∀ args W, (callFunc fn args).run Tryz.prog W = .ok (.enter fn args) W

theorem depthTys_no : ∀ (ts : List Ty) (i : Nat) (h : i < ts.length), depthTy ts[i] ≤ depthTys ts
  | [], i, h => absurd h (by simp)
  | t :: r, 0, _ => by
    rw [depthTys]
    exact Nat.le_max_left _ _
  | t :: r, i + 1, h => by
    rw [depthTys]
    exact Nat.le_trans (depthTys_no r i (by simpa using h)) (Nat.le_max_right _ _)
theorem depthTys_all : ∀ (ts : List Ty) (d : Nat), (∀ i, (h : i < ts.length) → depthTy ts[i] ≤ d) → depthTys ts ≤ d
  | [], d, _ => by rw [depthTys]; omega
  | t :: r, d, h => by
    rw [depthTys]
    have h1 : depthTy t ≤ d := h 0 (by simp)
    have h2 := depthTys_all r d fun i hi => h (i + 1) (by simpa using hi)
    omega

end Go.Proofs.YtceclhndagoddaaGreatDoor

namespace Go.Proofs.YtceclhndagoddaaGreatDoor
set_option maxRecDepth 100000
open Go.RowKit

end Go.Proofs.YtceclhndagoddaaGreatDoor
