/- laws.szOptic counts a tree of optics. -/
import Derived.Test.YthdfidhijmcbdaaGreatDoorProg
import Derived.Test.YthdfidhijmcbdaaGreatDoorOtIn
import Derived.Test.YthdfidhijmcbdaaGreatDoorSzTy
import Derived.Outline
namespace Go.Proofs.YthdfidhijmcbdaaGreatDoor
open Go.RowKit

def SzOOne (t : Ot) : Prop := ∀ (v : Value) (left : Int) (w : World), OtAt w w.heap.size v t → 0 ≤ left → left ≤ 1048576 → Calls Tryz.prog 19 #[v, .int .i64 left] w (IntBelow (leftOf left (szOt t)) w)

set_option maxHeartbeats 1000000 in
theorem szOpticS_of (A : Option Addr) (c : Nat) (ts : List Ot) (hall : ∀ i, (h : i < ts.length) → SzOOne ts[i]) (left : Int) (w : World) (hA : OtsAt w w.heap.size A ts) (h0 : 0 ≤ left) (h1 : left ≤ 1048576) :
    Calls Tryz.prog 47 #[.slice A ts.length c, .int .i64 left] w (IntBelow (leftOf left (szOts ts)) w) := by
  have hm := hA.1
  have hle := szOts_len ts
  have HALL := Lib.hid hall
  clear hall
  unfold maxLen at hm
  by_cases hneg : left - (ts.length : Int) < 0
  · have hr := Lib.hid (show leftOf left (szOts ts) = -1 by unfold leftOf; rw [if_pos (by omega)])
    go_enter Tryz.func47, Tryz.ntmps47
    go_wp2
    go_ret
    exact ⟨by rw [hr.out]; rfl, Below.refl _ _⟩
  · go_enter Tryz.func47, Tryz.ntmps47
    go_wp2
    go_loopw [1, 5] (fun l i wr => ∃ k : Nat, k ≤ ts.length ∧ i = .int .i64 k ∧ l = .int .i64 (left - ts.length - szOts (ts.take k) + k) ∧ 0 ≤ left - ts.length - szOts (ts.take k) + k ∧ Below w.heap.size w wr) (fun _ i _ => ts.length - (intOf i).toNat)
    case atStart => exact ⟨0, Nat.zero_le _, rfl, by simp [szOts], by simp [szOts]; omega, Below.refl _ _⟩
    case round =>
      obtain ⟨k, hk, rfl, rfl, hpos, hb⟩ := hrel
      by_cases hlt : k < ts.length
      · obtain ⟨b, off, A', ac, rfl, hbl, q0, q1, q2, q3, ht⟩ := (hA.below hb).elem k hlt
        have hsz := szOts_take ts k hlt
        have hle1 := szOts_le ts (k + 1)
        have hle2 := szOts_len (ts.take k)
        have hkl : (ts.take k).length = k := by rw [List.length_take]; omega
        have hlm : left - ts.length - szOts (ts.take k) + k ≤ 1048576 := by omega
        have HT := Lib.hid (HALL.out k hlt _ _ wr (ht.more hb.size) hpos hlm)
        have hd : Hid (leftOf (left - ts.length - szOts (ts.take k) + k) (szOt ts[k]) = if left - ts.length - szOts (ts.take (k + 1)) + (k + 1) < 0 then -1 else left - ts.length - szOts (ts.take (k + 1)) + (k + 1)) := by
          apply Lib.hid
          unfold leftOf
          rw [hsz]
          congr 1
          · apply propext
            omega
          · omega
        have HS := Lib.hid hsz
        have HK := Lib.hid hkl
        clear hsz hkl ht
        go_wp2_with fail
        refine HT.out.mono ?_
        rintro e w1 ⟨rfl, hb1⟩
        rw [hd.out]
        have hb' := hb.trans (hb1.mono hb.size)
        by_cases hn1 : left - ts.length - szOts (ts.take (k + 1)) + (k + 1) < 0
        · rw [if_pos hn1]
          have hr := Lib.hid (show leftOf left (szOts ts) = -1 by unfold leftOf; rw [if_pos (by omega)])
          go_wp2
          go_ret
          exact ⟨by rw [hr.out]; rfl, hb'⟩
        · rw [if_neg hn1]
          go_wp2
          go_roundw
          case rel => exact ⟨k + 1, by omega, by go_num, by go_num, by omega, hb'⟩
          case measure => simp [intOf]; omega
      · have hke : k = ts.length := by omega
        subst hke
        rw [List.take_length] at hpos ⊢
        have hr := Lib.hid (show leftOf left (szOts ts) = left - ts.length - szOts ts + ts.length by unfold leftOf; rw [if_neg (by omega)]; omega)
        go_wp2
        go_ret
        exact ⟨by rw [hr.out]; rfl, hb⟩

theorem szOt_any (t : Ot) : SzOOne t := by
  induction t using Ot.ind with
  | h k n nm ts ih =>
    intro v left w hv h0 h1
    obtain ⟨A, ac, rfl, hnm, ha⟩ := hv.open
    simp only [Ot.kind, Ot.num, Ot.name, Ot.args] at *
    have hm := ha.1
    have hb0 : Below w.heap.size w (w.alloc (.cells #[.int .i64 k, .string nm, .int .i64 n, .slice A ts.length ac] 44)) := (Below.refl _ _).alloc (Nat.le_refl _) _
    have he := szOt_eq (.mk k n nm ts)
    simp only [Ot.name, Ot.args] at he
    by_cases hnn : left - (nm.size : Int) < 0
    · have hr := Lib.hid (show leftOf left (szOt (.mk k n nm ts)) = -1 by unfold leftOf; rw [if_pos (by omega)])
      clear ih he
      unfold maxLen at hm hnm
      go_enter Tryz.func19, Tryz.ntmps19
      go_wp2
      go_ret
      exact ⟨by rw [hr.out]; rfl, hb0⟩
    · have h2 : 0 ≤ left - (nm.size : Int) := by omega
      have h3 : left - (nm.size : Int) ≤ 1048576 := by omega
      have HA := Lib.hid ((ha.below hb0).more hb0.size)
      have HI := Lib.hid (fun left W h a b => szOpticS_of A ac ts (fun i hi => ih i hi) left W h a b)
      have hr := Lib.hid (show leftOf (left - (nm.size : Int)) (szOts ts) = leftOf left (szOt (.mk k n nm ts)) by unfold leftOf; rw [he]; congr 1 <;> first | (apply propext; omega) | omega)
      clear ih he
      unfold maxLen at hm hnm
      go_enter Tryz.func19, Tryz.ntmps19
      go_wp2_with fail
      refine (HI.out (left - (nm.size : Int)) _ HA.out h2 h3).mono ?_
      rintro e w1 ⟨rfl, hb1⟩
      rw [hr.out]
      have hm1 := leftOf_cases left (szOt (.mk k n nm ts))
      generalize leftOf left (szOt (.mk k n nm ts)) = l3 at *
      have hb' := hb0.trans (hb1.mono hb0.size)
      by_cases hn3 : l3 < 0
      · obtain rfl : l3 = -1 := by omega
        clear hm1
        go_wp2
        go_ret
        exact ⟨rfl, hb'⟩
      · go_wp2
        go_ret
        exact ⟨rfl, hb'⟩

end Go.Proofs.YthdfidhijmcbdaaGreatDoor
