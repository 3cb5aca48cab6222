/- laws.szType counts a tree. -/
import Derived.Test.YthdfidhijmcbdaaGreatDoorProg
import Derived.Test.YthdfidhijmcbdaaGreatDoorTyIn
import Derived.Test.YthdfidhijmcbdaaGreatDoorSz
import Derived.Outline
namespace Go.Proofs.YthdfidhijmcbdaaGreatDoor
open Go.RowKit

/-- What is left of n. -/
def leftOf (left : Int) (n : Nat) : Int := if left - n < 0 then -1 else left - n
theorem leftOf_cases (left : Int) (n : Nat) : leftOf left n = -1 ∨ 0 ≤ leftOf left n := by unfold leftOf; split <;> omega
/-- A number is handed back; what was there stands. -/
def IntBelow (x : Int) (w : World) (e : Ending) (w' : World) : Prop := e = .returned (.int .i64 x) ∧ Below w.heap.size w w'

def SzOne (t : Ty) : Prop := ∀ (v : Value) (left : Int) (w : World), TyAt w w.heap.size v t → 0 ≤ left → left ≤ 1048576 → Calls Tryz.prog 18 #[v, .int .i64 left] w (IntBelow (leftOf left (szTy t)) w)

set_option maxHeartbeats 1000000 in
theorem szTypeS_of (A : Option Addr) (c : Nat) (ts : List Ty) (hall : ∀ i, (h : i < ts.length) → SzOne ts[i]) (left : Int) (w : World) (hA : TysAt w w.heap.size A ts) (h0 : 0 ≤ left) (h1 : left ≤ 1048576) :
    Calls Tryz.prog 46 #[.slice A ts.length c, .int .i64 left] w (IntBelow (leftOf left (szTys ts)) w) := by
  have hm := hA.1
  have hle := szTys_len ts
  have HALL := Lib.hid hall
  clear hall
  unfold maxLen at hm
  by_cases hneg : left - (ts.length : Int) < 0
  · have hr := Lib.hid (show leftOf left (szTys ts) = -1 by unfold leftOf; rw [if_pos (by omega)])
    go_enter Tryz.func46, Tryz.ntmps46
    go_wp2
    go_ret
    exact ⟨by rw [hr.out]; rfl, Below.refl _ _⟩
  · go_enter Tryz.func46, Tryz.ntmps46
    go_wp2
    go_loopw [1, 5] (fun l i wr => ∃ k : Nat, k ≤ ts.length ∧ i = .int .i64 k ∧ l = .int .i64 (left - ts.length - szTys (ts.take k) + k) ∧ 0 ≤ left - ts.length - szTys (ts.take k) + k ∧ Below w.heap.size w wr) (fun _ i _ => ts.length - (intOf i).toNat)
    case atStart => exact ⟨0, Nat.zero_le _, rfl, by simp [szTys], by simp [szTys]; omega, Below.refl _ _⟩
    case round =>
      obtain ⟨k, hk, rfl, rfl, hpos, hb⟩ := hrel
      by_cases hlt : k < ts.length
      · obtain ⟨b, off, L, lc, A', ac, rfl, hbl, q0, q1, q2, hn, hz, hl, ha, ht⟩ := (hA.below hb).elem k hlt
        have hsz := szTys_take ts k hlt
        have hle1 := szTys_le ts (k + 1)
        have hle2 := szTys_len (ts.take k)
        have hkl : (ts.take k).length = k := by rw [List.length_take]; omega
        have hlm : left - ts.length - szTys (ts.take k) + k ≤ 1048576 := by omega
        have HT := Lib.hid (HALL.out k hlt _ _ wr (ht.more hb.size) hpos hlm)
        have hd : Hid (leftOf (left - ts.length - szTys (ts.take k) + k) (szTy ts[k]) = if left - ts.length - szTys (ts.take (k + 1)) + (k + 1) < 0 then -1 else left - ts.length - szTys (ts.take (k + 1)) + (k + 1)) := by
          apply Lib.hid
          unfold leftOf
          rw [hsz]
          congr 1
          · apply propext
            omega
          · omega
        have HS := Lib.hid hsz
        have HK := Lib.hid hkl
        clear hsz hkl ht ha
        go_wp2_with fail
        refine HT.out.mono ?_
        rintro e w1 ⟨rfl, hb1⟩
        rw [hd.out]
        have hb' := hb.trans (hb1.mono hb.size)
        by_cases hn1 : left - ts.length - szTys (ts.take (k + 1)) + (k + 1) < 0
        · rw [if_pos hn1]
          have hr := Lib.hid (show leftOf left (szTys ts) = -1 by unfold leftOf; rw [if_pos (by omega)])
          go_wp2
          go_ret
          exact ⟨by rw [hr.out]; rfl, hb'⟩
        · rw [if_neg hn1]
          go_wp2
          go_roundw
          case rel => exact ⟨k + 1, by omega, by go_num, by go_num, by omega, hb'⟩
          case measure => simp [intOf]; omega
      · have hke : k = ts.length := by omega
        subst hke
        rw [List.take_length] at hpos ⊢
        have hr := Lib.hid (show leftOf left (szTys ts) = left - ts.length - szTys ts + ts.length by unfold leftOf; rw [if_neg (by omega)]; omega)
        go_wp2
        go_ret
        exact ⟨by rw [hr.out]; rfl, hb⟩

theorem szTy_any (t : Ty) : SzOne t := by
  induction t using Ty.ind with
  | h k ls ts ih =>
    intro v left w hv h0 h1
    obtain ⟨L, lc, A, ac, rfl, hn, hz, hl, ha⟩ := hv.open
    simp only [Ty.kind, Ty.labels, Ty.args] at *
    have hm := ha.1
    have hb0 : Below w.heap.size w (w.alloc (.cells #[.int .i64 k, .slice L ls.length lc, .slice A ts.length ac] 41)) := (Below.refl _ _).alloc (Nat.le_refl _) _
    have HS := Lib.hid (szStringS_any L lc _ ls left _ (hl.below hb0) hn hz h0 h1)
    have HA := Lib.hid ((ha.below hb0).more hb0.size)
    have HI := Lib.hid (fun left W h a b => szTypeS_of A ac ts (fun i hi => ih i hi) left W h a b)
    have he := szTy_eq (.mk k ls ts)
    simp only [Ty.labels, Ty.args] at he
    have h1l := Lib.hid (show szStrs left ls = leftOf left (ls.length + sumSizes ls) by unfold szStrs leftOf; congr 1 <;> first | (apply propext; omega) | omega)
    clear ih hz
    unfold maxLen at hn hm
    go_enter Tryz.func18, Tryz.ntmps18
    go_wp2_with fail
    refine HS.out.mono ?_
    rintro e w1 ⟨rfl, rfl⟩
    rw [h1l.out]
    by_cases hneg : left - (ls.length + sumSizes ls : Nat) < 0
    · have hr := Lib.hid (show leftOf left (szTy (.mk k ls ts)) = -1 by unfold leftOf; rw [if_pos (by omega)])
      rw [show leftOf left (ls.length + sumSizes ls) = -1 by unfold leftOf; rw [if_pos hneg]]
      go_wp2
      go_ret
      exact ⟨by rw [hr.out]; rfl, hb0⟩
    · rw [show leftOf left (ls.length + sumSizes ls) = left - (ls.length + sumSizes ls : Nat) by unfold leftOf; rw [if_neg hneg]]
      have h5 : 0 ≤ left - (ls.length + sumSizes ls : Nat) := by omega
      have h6 : left - (ls.length + sumSizes ls : Nat) ≤ 1048576 := by omega
      have hr := Lib.hid (show leftOf (left - (ls.length + sumSizes ls : Nat)) (szTys ts) = leftOf left (szTy (.mk k ls ts)) by unfold leftOf; rw [he]; congr 1 <;> first | (apply propext; omega) | omega)
      clear he
      generalize hq : left - (ls.length + sumSizes ls : Nat) = l2 at *
      clear hq
      go_wp2_with fail
      refine (HI.out l2 _ HA.out h5 h6).mono ?_
      rintro e w1 ⟨rfl, hb1⟩
      rw [hr.out]
      have hm1 := leftOf_cases left (szTy (.mk k ls ts))
      generalize leftOf left (szTy (.mk k ls ts)) = l3 at *
      have hb' := hb0.trans (hb1.mono hb0.size)
      by_cases hn3 : l3 < 0
      · obtain rfl : l3 = -1 := by omega
        clear hm1
        go_wp2
        go_ret
        exact ⟨rfl, hb'⟩
      · go_wp2
        go_ret
        exact ⟨rfl, hb'⟩

end Go.Proofs.YthdfidhijmcbdaaGreatDoor
