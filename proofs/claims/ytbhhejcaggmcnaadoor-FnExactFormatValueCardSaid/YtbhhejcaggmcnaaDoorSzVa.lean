/- laws.szValue counts a tree of values. -/
import Derived.Test.YtbhhejcaggmcnaaDoorProg
import Derived.Test.YtbhhejcaggmcnaaDoorVaIn
import Derived.Test.YtbhhejcaggmcnaaDoorSzTy
import Derived.Outline
namespace Go.Proofs.YtbhhejcaggmcnaaDoor
open Go.RowKit

def SzVOne (t : Va) : Prop := ∀ (v : Value) (left : Int) (w : World), VaAt w w.heap.size v t → 0 ≤ left → left ≤ 1048576 → Calls Tryd.prog 8 #[v, .int .i64 left] w (IntBelow (leftOf left (szVa t)) w)

set_option maxHeartbeats 1000000 in
theorem szValueS_of (A : Option Addr) (c : Nat) (ts : List Va) (hall : ∀ i, (h : i < ts.length) → SzVOne ts[i]) (left : Int) (w : World) (hA : VasAt w w.heap.size A ts) (h0 : 0 ≤ left) (h1 : left ≤ 1048576) :
    Calls Tryd.prog 37 #[.slice A ts.length c, .int .i64 left] w (IntBelow (leftOf left (szVas ts)) w) := by
  have hm := hA.1
  have hle := szVas_len ts
  have HALL := Lib.hid hall
  clear hall
  unfold maxLen at hm
  by_cases hneg : left - (ts.length : Int) < 0
  · have hr := Lib.hid (show leftOf left (szVas ts) = -1 by unfold leftOf; rw [if_pos (by omega)])
    go_enter Tryd.func37, Tryd.ntmps37
    go_wp2
    go_ret
    exact ⟨by rw [hr.out]; rfl, Below.refl _ _⟩
  · go_enter Tryd.func37, Tryd.ntmps37
    go_wp2
    go_loopw [1, 5] (fun l i wr => ∃ k : Nat, k ≤ ts.length ∧ i = .int .i64 k ∧ l = .int .i64 (left - ts.length - szVas (ts.take k) + k) ∧ 0 ≤ left - ts.length - szVas (ts.take k) + k ∧ Below w.heap.size w wr) (fun _ i _ => ts.length - (intOf i).toNat)
    case atStart => exact ⟨0, Nat.zero_le _, rfl, by simp [szVas], by simp [szVas]; omega, Below.refl _ _⟩
    case round =>
      obtain ⟨k, hk, rfl, rfl, hpos, hb⟩ := hrel
      by_cases hlt : k < ts.length
      · obtain ⟨b, off, L, lc, A', ac, rfl, hbl, q0, q1, q2, q3, q4, ht⟩ := (hA.below hb).elem k hlt
        have hsz := szVas_take ts k hlt
        have hle1 := szVas_le ts (k + 1)
        have hle2 := szVas_len (ts.take k)
        have hkl : (ts.take k).length = k := by rw [List.length_take]; omega
        have hlm : left - ts.length - szVas (ts.take k) + k ≤ 1048576 := by omega
        have HT := Lib.hid (HALL.out k hlt _ _ wr (ht.more hb.size) hpos hlm)
        have hd : Hid (leftOf (left - ts.length - szVas (ts.take k) + k) (szVa ts[k]) = if left - ts.length - szVas (ts.take (k + 1)) + (k + 1) < 0 then -1 else left - ts.length - szVas (ts.take (k + 1)) + (k + 1)) := by
          apply Lib.hid
          unfold leftOf
          rw [hsz]
          congr 1
          · apply propext
            omega
          · omega
        have HS := Lib.hid hsz
        have HK := Lib.hid hkl
        clear hsz hkl ht
        go_wp2_with fail
        refine HT.out.mono ?_
        rintro e w1 ⟨rfl, hb1⟩
        rw [hd.out]
        have hb' := hb.trans (hb1.mono hb.size)
        by_cases hn1 : left - ts.length - szVas (ts.take (k + 1)) + (k + 1) < 0
        · rw [if_pos hn1]
          have hr := Lib.hid (show leftOf left (szVas ts) = -1 by unfold leftOf; rw [if_pos (by omega)])
          go_wp2
          go_ret
          exact ⟨by rw [hr.out]; rfl, hb'⟩
        · rw [if_neg hn1]
          go_wp2
          go_roundw
          case rel => exact ⟨k + 1, by omega, by go_num, by go_num, by omega, hb'⟩
          case measure => simp [intOf]; omega
      · have hke : k = ts.length := by omega
        subst hke
        rw [List.take_length] at hpos ⊢
        have hr := Lib.hid (show leftOf left (szVas ts) = left - ts.length - szVas ts + ts.length by unfold leftOf; rw [if_neg (by omega)]; omega)
        go_wp2
        go_ret
        exact ⟨by rw [hr.out]; rfl, hb⟩

theorem szVa_any (t : Va) : SzVOne t := by
  induction t using Va.ind with
  | h k n nm ls ts ih =>
    intro v left w hv h0 h1
    obtain ⟨L, lc, A, ac, rfl, hnm, hn, hz, hl, ha⟩ := hv.open
    simp only [Va.kind, Va.num, Va.name, Va.labels, Va.args] at *
    have hm := ha.1
    have hb0 : Below w.heap.size w (w.alloc (.cells #[.int .i64 k, .int .i64 n, .string nm, .slice L ls.length lc, .slice A ts.length ac] 25)) := (Below.refl _ _).alloc (Nat.le_refl _) _
    have he := szVa_eq (.mk k n nm ls ts)
    simp only [Va.name, Va.labels, Va.args] at he
    by_cases hnn : left - (nm.size : Int) < 0
    · have hr := Lib.hid (show leftOf left (szVa (.mk k n nm ls ts)) = -1 by unfold leftOf; rw [if_pos (by omega)])
      clear ih hz he
      unfold maxLen at hn hm hnm
      go_enter Tryd.func8, Tryd.ntmps8
      go_wp2
      go_ret
      exact ⟨by rw [hr.out]; rfl, hb0⟩
    · have h2 : 0 ≤ left - (nm.size : Int) := by omega
      have h3 : left - (nm.size : Int) ≤ 1048576 := by omega
      have HS := Lib.hid (szStringS_any L lc _ ls (left - (nm.size : Int)) _ (hl.below hb0) hn hz h2 h3)
      have HA := Lib.hid ((ha.below hb0).more hb0.size)
      have HI := Lib.hid (fun left W h a b => szValueS_of A ac ts (fun i hi => ih i hi) left W h a b)
      have h1l := Lib.hid (show szStrs (left - (nm.size : Int)) ls = leftOf (left - (nm.size : Int)) (ls.length + sumSizes ls) by unfold szStrs leftOf; congr 1 <;> first | (apply propext; omega) | omega)
      clear ih hz
      unfold maxLen at hn hm hnm
      go_enter Tryd.func8, Tryd.ntmps8
      go_wp2_with fail
      refine HS.out.mono ?_
      rintro e w1 ⟨rfl, rfl⟩
      rw [h1l.out]
      by_cases hneg : left - (nm.size : Int) - (ls.length + sumSizes ls : Nat) < 0
      · have hr := Lib.hid (show leftOf left (szVa (.mk k n nm ls ts)) = -1 by unfold leftOf; rw [if_pos (by omega)])
        rw [show leftOf (left - (nm.size : Int)) (ls.length + sumSizes ls) = -1 by unfold leftOf; rw [if_pos hneg]]
        go_wp2
        go_ret
        exact ⟨by rw [hr.out]; rfl, hb0⟩
      · rw [show leftOf (left - (nm.size : Int)) (ls.length + sumSizes ls) = left - (nm.size : Int) - (ls.length + sumSizes ls : Nat) by unfold leftOf; rw [if_neg hneg]]
        have h5 : 0 ≤ left - (nm.size : Int) - (ls.length + sumSizes ls : Nat) := by omega
        have h6 : left - (nm.size : Int) - (ls.length + sumSizes ls : Nat) ≤ 1048576 := by omega
        have hr := Lib.hid (show leftOf (left - (nm.size : Int) - (ls.length + sumSizes ls : Nat)) (szVas ts) = leftOf left (szVa (.mk k n nm ls ts)) by unfold leftOf; rw [he]; congr 1 <;> first | (apply propext; omega) | omega)
        clear he
        generalize hq : left - (nm.size : Int) - (ls.length + sumSizes ls : Nat) = l2 at *
        clear hq
        go_wp2_with fail
        refine (HI.out l2 _ HA.out h5 h6).mono ?_
        rintro e w1 ⟨rfl, hb1⟩
        rw [hr.out]
        have hm1 := leftOf_cases left (szVa (.mk k n nm ls ts))
        generalize leftOf left (szVa (.mk k n nm ls ts)) = l3 at *
        have hb' := hb0.trans (hb1.mono hb0.size)
        by_cases hn3 : l3 < 0
        · obtain rfl : l3 = -1 := by omega
          clear hm1
          go_wp2
          go_ret
          exact ⟨rfl, hb'⟩
        · go_wp2
          go_ret
          exact ⟨rfl, hb'⟩

end Go.Proofs.YtbhhejcaggmcnaaDoor
