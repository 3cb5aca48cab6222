/- impl.SplitByte gives the pieces, in a row of its own. -/
import Derived.Test.YthplgklegoeelaaDoorSpecFmt
import Derived.Test.YthplgklegoeelaaDoorStrs
import Derived.Test.YthplgklegoeelaaDoorSplitLaws
import Derived.Test.YthplgklegoeelaaDoorShelfSplit
import Derived.Test.YthplgklegoeelaaDoorShelfClone
namespace Go.Proofs.YthplgklegoeelaaDoor
open Go.RowKit

theorem clone_any (s : ByteArray) (w : World) (hs : s.size ≤ 1048576) :
    Calls Tryd.prog 36 #[.string s] w fun e w' => e = .returned (.string s) ∧ Below w.heap.size w w' := by
  have hc := Lib.hid (Any.stringslite_Clone Tryd.laysM316 s w (by omega))
  go_enter Tryd.func36, Tryd.ntmps36
  go_wp2_with fail
  refine hc.out.mono ?_
  rintro e w1 ⟨rfl, hb1⟩
  go_wp2
  go_ret
  exact ⟨rfl, hb1⟩

/-- The library's own number that strings.Index reads is there. -/
def MaxLenAt (w : World) : Prop := ∃ m, w.cell? ⟨3, 0, none⟩ = some (.int .i64 m)
theorem MaxLenAt.of_shape {w : World} (h : w.ShapedOpen Tryd.prog) : MaxLenAt w := Tryd.laysM146.s1_3 w h
theorem MaxLenAt.lt {w : World} (h : MaxLenAt w) : 3 < w.heap.size := by
  obtain ⟨m, hm⟩ := h
  exact block_lt_of_cell hm
theorem MaxLenAt.below {w w' : World} {B : Nat} (h : MaxLenAt w) (hb : Below B w w') (hB : 3 < B) : MaxLenAt w' := by
  obtain ⟨m, hm⟩ := h
  exact ⟨m, (hb.cell (p := ⟨3, 0, none⟩) hB).trans hm⟩

/-- A new row that is just the strings ss. -/
def FreshStrs (w : World) (ss : List ByteArray) (e : Ending) (w' : World) : Prop :=
  ∃ g, e = .returned (.slice (some ⟨g, 0, none⟩) ss.length ss.length) ∧ w.heap.size ≤ g ∧ Whole1 w' g 9 (strVals ss).toArray ∧ Below w.heap.size w w'

theorem same_set (ss : List ByteArray) (j : Nat) (h : j < ss.length) : (strVals ss).toArray.setIfInBounds j (.string ss[j]) = (strVals ss).toArray := by
  apply Array.ext_getElem?
  intro i
  rw [Array.getElem?_setIfInBounds]
  by_cases e : j = i
  · subst e
    simp [strVals, h]
  · simp [e]

set_option maxHeartbeats 1000000 in
theorem implSplit_any (s : ByteArray) (c : UInt8) (w : World) (hs : s.size ≤ 1048576) (hm : MaxLenAt w) :
    Calls Tryd.prog 18 #[.string s, .int .u8 (c.toNat : Int)] w (FreshStrs w (pieces c s)) := by
  have hcv := run_convert_byte (P := Tryd.prog) Tryd.underlying22 Tryd.underlying5 Tryd.underlying9
  have hsp : ∀ W, MaxLenAt W → Calls Tryd.prog 35 #[.string s, .string ⟨#[c]⟩] W (FreshStrs W (pieces c s)) := fun W ⟨m, hm⟩ =>
    (Any.strings_Split { Tryd.laysM146 with } Tryd.laysM146.i9 s ⟨#[c]⟩ m W (by omega) hm (Nat.le_refl 1)).mono fun e w' ⟨he, hw⟩ => by
      subst hw
      rw [← pieces_len, splitB_pieces] at *
      exact ⟨W.heap.size, he, Nat.le_refl _, Whole1.new _ _ _, (Below.refl _ _).alloc (Nat.le_refl _) _⟩
  have HS := Lib.hid hsp
  have HM := Lib.hid hm
  clear hsp hm
  have hlen := pieces_short c s
  have hsz := Lib.hid (pieces_size c s)
  go_enter Tryd.func18, Tryd.ntmps18
  go_wp2_with fail
  refine (HS.out _ (HM.out.below ((Below.refl w.heap.size w).alloc (Nat.le_refl _) _) HM.out.lt)).mono ?_
  rintro e w1 ⟨g, rfl, hg, hw1, hb1⟩
  have hb1' : Below w.heap.size w w1 := ((Below.refl w.heap.size w).alloc (Nat.le_refl _) _).trans (hb1.mono (by simp))
  have hgw : w.heap.size ≤ g := Nat.le_trans (by simp) hg
  clear hcv hb1 hg
  generalize hps : pieces c s = ps at *
  have HP := Lib.hid hps
  clear hps
  go_wp2
  go_loopw [15] (fun i wr => ∃ j : Nat, j ≤ ps.length ∧ i = .int .i64 j ∧ Whole1 wr g 9 (strVals ps).toArray ∧ Below w.heap.size w wr) (fun i _ => ps.length - (intOf i).toNat)
  case atStart => exact ⟨0, Nat.zero_le _, rfl, hw1, hb1'⟩
  case round =>
    obtain ⟨j, hj, rfl, hw, hb⟩ := hrel
    clear hw1 hb1'
    by_cases hlt : j < ps.length
    · have hc1 : wr.cell? ⟨g, j, none⟩ = some (.string ps[j]) := by
        rw [hw.cell]
        simp [strVals, hlt]
      have hcl := Lib.hid (fun W => clone_any ps[j] W (Nat.le_trans (hsz.out j hlt) hs))
      have HW := Lib.hid hw
      clear hw
      go_wp2_with fail
      refine (hcl.out _).mono ?_
      rintro e w2 ⟨rfl, hb2⟩
      have hw2 := HW.out.below hb2 HW.out.lt
      have hc2 : w2.cell? ⟨g, j, none⟩ = some (.string ps[j]) := by
        rw [hw2.cell]
        simp [strVals, hlt]
      have hf2 : w2.frozen? ⟨g, j, none⟩ = false := hw2.free j
      have hset := Lib.hid (hw2.set j (.string ps[j]))
      have hb2' := hb.trans (hb2.mono hb.size)
      clear hw2 HW
      go_wp2
      go_roundw
      case rel => exact ⟨j + 1, by omega, by go_num, by have := hset.out; rw [same_set ps j hlt] at this; exact this, hb2'.setCell hgw _⟩
      case measure => simp [intOf]; omega
    · have hje : j = ps.length := by omega
      go_wp2
      go_ret
      exact ⟨g, rfl, hgw, hw, hb⟩

end Go.Proofs.YthplgklegoeelaaDoor
