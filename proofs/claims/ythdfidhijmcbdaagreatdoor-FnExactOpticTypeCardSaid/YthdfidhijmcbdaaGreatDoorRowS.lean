/- laws.markText, markStringS and heldStringS: marks are laid into a row of strings and found again. -/
import Derived.Test.YthdfidhijmcbdaaGreatDoorProg
import Derived.Test.YthdfidhijmcbdaaGreatDoorAppend
import Derived.Deep.RegionHeld3
import Derived.WalkKit
import Derived.Laws.IdiomCopy

namespace Go.Proofs.YthdfidhijmcbdaaGreatDoor
open Go.RowKit

/-- The mark of k, from 1 on. -/
def markB (k : Nat) : ByteArray := ⟨(109 :: nz k).toArray⟩

set_option maxHeartbeats 400000 in
set_option maxRecDepth 100000 in
theorem markText_any (n : Nat) (w : World) (h0 : 0 < n) (h1 : n ≤ 2 ^ 62) :
    Calls Tryz.prog 85 #[.int .i64 n] w fun e w' => e = .returned (.string (markB n)) ∧ Below w.heap.size w w' := by
  have hnl : ¬ (n : Int) ≤ 0 := by omega
  have hcv := run_convert_byte (P := Tryz.prog) Tryz.underlying22 Tryz.underlying5 Tryz.underlying9
  have hlen0 := nz_len_of 20 n (by omega)
  go_enter Tryz.func85, Tryz.ntmps85
  go_wp2
  go_loopw [0, 3] (fun m s wr => ∃ (u : Nat) (out : List UInt8), m = .int .i64 (u : Int) ∧ u ≤ n ∧ s = .string ⟨out.toArray⟩ ∧ nz n = nz u ++ out ∧ Below w.heap.size w wr) (fun m _ _ => (intOf m).toNat)
  case atStart => exact ⟨n, [], rfl, Nat.le_refl _, rfl, by simp, Below.refl _ _⟩
  case round =>
    obtain ⟨u, out, rfl, hu, rfl, hout, hb⟩ := hrel
    have hO := Lib.hid hout
    clear hout
    have hlen : out.length ≤ 20 := by
      have := hO.out
      rw [this, List.length_append] at hlen0
      omega
    clear hlen0
    by_cases hz : u = 0
    · subst hz
      go_wp2
      go_ret
      have hE : nz n = out := by
        have := hO.out
        rw [show nz 0 = [] from rfl, List.nil_append] at this
        exact this
      refine ⟨?_, hb⟩
      rw [markB, hE]
      rfl
    · have hb1 : u ≤ 2 ^ 62 := by omega
      go_wp2
      go_roundw
      case rel => exact ⟨u / 10, _, by go_num, by omega, rfl, by rw [hO.out, nz_step u (by omega)]; simp, hb.alloc hb.size _⟩
      case measure => simp [intOf]; omega

theorem markB_size (n : Nat) (h : n ≤ 2 ^ 62) : (markB n).size ≤ 21 := by
  have := nz_len_of 20 n (by omega)
  show (109 :: nz n).toArray.size ≤ 21
  simp
  omega

/-- Marks from k on in the first j places of a row, what it held behind. -/
def marked (ss : List ByteArray) (k j : Nat) : List ByteArray := (List.range ss.length).map fun i => if i < j then markB (k + i) else ss.getD i ⟨#[]⟩
theorem marked_len (ss : List ByteArray) (k j : Nat) : (marked ss k j).length = ss.length := by simp [marked]
theorem marked_zero (ss : List ByteArray) (k : Nat) : marked ss k 0 = ss := by
  apply List.ext_getElem?
  intro i
  by_cases h : i < ss.length <;> simp [marked, h]
theorem marked_get (ss : List ByteArray) (k j i : Nat) (h : i < ss.length) : (marked ss k j)[i]? = some (if i < j then markB (k + i) else ss.getD i ⟨#[]⟩) := by simp [marked, h]
theorem marked_succ (ss : List ByteArray) (k j : Nat) (h : j < ss.length) : (strVals (marked ss k j)).toArray.setIfInBounds j (.string (markB (k + j))) = (strVals (marked ss k (j + 1))).toArray := by
  apply Array.ext_getElem?
  intro i
  rw [Array.getElem?_setIfInBounds]
  simp only [strVals, List.getElem?_toArray, List.getElem?_map, List.size_toArray, List.length_map, marked_len]
  by_cases hi : i < ss.length
  · rw [marked_get ss k j i hi, marked_get ss k (j + 1) i hi]
    by_cases e : j = i
    · subst e
      simp [h]
    · by_cases h2 : i < j
      · simp [e, h2, show i < j + 1 by omega]
      · simp [e, h2, show ¬ i < j + 1 by omega]
  · rw [if_neg (by omega), List.getElem?_eq_none (by rw [marked_len]; omega), List.getElem?_eq_none (by rw [marked_len]; omega)]

/-- The marks from k on. -/
def marks (k n : Nat) : List ByteArray := (List.range n).map fun i => markB (k + i)
theorem marked_all (ss : List ByteArray) (k : Nat) : marked ss k ss.length = marks k ss.length := by
  apply List.map_congr_left
  intro i hi
  rw [if_pos (List.mem_range.1 hi)]
theorem marks_len (k n : Nat) : (marks k n).length = n := by simp [marks]

/-- The row g bears the marks from k on; nothing else that was there has turned. -/
def Marked (w : World) (g k n : Nat) (e : Ending) (w' : World) : Prop :=
  e = .returned (.int .i64 ((k + n : Nat) : Int)) ∧ Whole1 w' g 9 (strVals (marks k n)).toArray ∧ w.grownBy w' (some g)

set_option maxHeartbeats 400000 in
theorem markStringS_any (g c k : Nat) (ss : List ByteArray) (w : World) (hg : Whole1 w g 9 (strVals ss).toArray) (h0 : 0 < k) (h1 : k + ss.length ≤ 2 ^ 62) :
    Calls Tryz.prog 54 #[.slice (some ⟨g, 0, none⟩) ss.length c, .int .i64 k] w (Marked w g k ss.length) := by
  go_enter Tryz.func54, Tryz.ntmps54
  go_wp2
  go_loopw [1, 5] (fun m i wr => ∃ j : Nat, j ≤ ss.length ∧ i = .int .i64 j ∧ m = .int .i64 ((k + j : Nat) : Int) ∧ Whole1 wr g 9 (strVals (marked ss k j)).toArray ∧ w.grownBy wr (some g)) (fun _ i _ => ss.length - (intOf i).toNat)
  case atStart => exact ⟨0, Nat.zero_le _, rfl, rfl, by rw [marked_zero]; exact hg, only_refl _ _⟩
  case round =>
    obtain ⟨j, hj, rfl, rfl, hw, ho⟩ := hrel
    clear hg
    by_cases hlt : j < ss.length
    · have hm := Lib.hid (markText_any (k + j) wr (by omega) (by omega))
      have hW := Lib.hid hw
      clear hw
      go_wp2_with fail
      refine hm.out.mono ?_
      rintro e w1 ⟨rfl, hb1⟩
      have hw1 := hW.out.below hb1 hW.out.lt
      have ho1 := only_below ho hb1
      have hc1 : w1.cell? ⟨g, j, none⟩ = some (.string ((marked ss k j).getD j ⟨#[]⟩)) := by
        rw [hw1.cell]
        simp [strVals, marked_get ss k j j hlt]
      have hf1 : w1.frozen? ⟨g, j, none⟩ = false := hw1.free j
      have hset := Lib.hid (hw1.set j (.string (markB (k + j))))
      have hos := Lib.hid (only_set ho1 j (.string (markB (k + j))))
      clear hw1 ho1 ho hW
      go_wp2
      go_roundw
      case rel => exact ⟨j + 1, by omega, by go_num, by go_num, by rw [← marked_succ ss k j hlt]; exact hset.out, hos.out⟩
      case measure => simp [intOf]; omega
    · have hje : j = ss.length := by omega
      subst hje
      rw [marked_all] at hw
      go_wp2
      go_ret
      exact ⟨rfl, hw, ho⟩

/-- The number behind the last mark; what was there stands. -/
def HeldTo (w : World) (n : Nat) (e : Ending) (w' : World) : Prop := e = .returned (.int .i64 (n : Int)) ∧ Below w.heap.size w w'

set_option maxHeartbeats 400000 in
theorem heldStringS_any (g c k n : Nat) (w : World) (hg : Whole1 w g 9 (strVals (marks k n)).toArray) (h0 : 0 < k) (h1 : k + n ≤ 2 ^ 62) :
    Calls Tryz.prog 57 #[.slice (some ⟨g, 0, none⟩) n c, .int .i64 k] w (HeldTo w (k + n)) := by
  go_enter Tryz.func57, Tryz.ntmps57
  go_wp2
  go_loopw [1, 5] (fun m i wr => ∃ j : Nat, j ≤ n ∧ i = .int .i64 j ∧ m = .int .i64 ((k + j : Nat) : Int) ∧ Below w.heap.size w wr) (fun _ i _ => n - (intOf i).toNat)
  case atStart => exact ⟨0, Nat.zero_le _, rfl, rfl, Below.refl _ _⟩
  case round =>
    obtain ⟨j, hj, rfl, rfl, hb⟩ := hrel
    by_cases hlt : j < n
    · have hw := hg.below hb hg.lt
      have hc : wr.cell? ⟨g, j, none⟩ = some (.string (markB (k + j))) := by
        rw [hw.cell]
        simp [strVals, marks, hlt]
      have hgl : g < wr.heap.size := hw.lt
      clear hw hg
      go_wp2
      go_region_held3 (fun w' => w'.cell? ⟨g, j, none⟩ = some (.string (markB (k + j))) ∧ Below wr.heap.size wr w') ((first | exact ⟨hc, (Below.refl _ _).drew⟩ | exact ⟨hk1, hk2⟩))
        (first | (go_at_call 85; refine (markText_any (k + j) _ (by omega) (by omega)).mono ?_; rintro e w' ⟨rfl, hb1⟩; have hk2 := (Below.refl wr.heap.size wr).drew.trans hb1; have hk1 := (hk2.cell (p := ⟨g, j, none⟩) hgl).trans hc))
      go_wp2
      go_roundw
      case rel => exact ⟨j + 1, by omega, by go_num, by go_num, hb.trans (hk2.mono hb.size)⟩
      case measure => simp [intOf]; omega
    · have hje : j = n := by omega
      subst hje
      go_wp2
      go_ret
      exact ⟨rfl, hb⟩

end Go.Proofs.YthdfidhijmcbdaaGreatDoor

namespace Go.Proofs.YthdfidhijmcbdaaGreatDoor
open Go.RowKit

/-- Block g is a row whose first cells are the strings ss. -/
def RowStrs (w : World) (g : Nat) (ss : List ByteArray) : Prop := ∃ cs : Array Value, Whole1 w g 9 cs ∧ ∀ i, (h : i < ss.length) → cs[i]? = some (.string ss[i])
theorem RowStrs.lt {w : World} {g : Nat} {ss : List ByteArray} (h : RowStrs w g ss) : g < w.heap.size := by
  obtain ⟨cs, h1, _⟩ := h
  exact h1.lt
theorem RowStrs.cell {w : World} {g : Nat} {ss : List ByteArray} (h : RowStrs w g ss) (i : Nat) (hi : i < ss.length) : w.cell? ⟨g, i, none⟩ = some (.string ss[i]) := by
  obtain ⟨cs, h1, h2⟩ := h
  rw [h1.cell, h2 i hi]
theorem RowStrs.free {w : World} {g : Nat} {ss : List ByteArray} (h : RowStrs w g ss) (i : Nat) : w.frozen? ⟨g, i, none⟩ = false := by
  obtain ⟨cs, h1, h2⟩ := h
  exact h1.free i
theorem RowStrs.at {w : World} {g : Nat} {ss : List ByteArray} (h : RowStrs w g ss) (B : Nat) (hB : g < B) : StrsAt w B (some ⟨g, 0, none⟩) ss := fun i hi => ⟨g, 0, rfl, hB, by rw [Nat.zero_add]; exact h.cell i hi⟩
theorem RowStrs.below {w w' : World} {g B : Nat} {ss : List ByteArray} (h : RowStrs w g ss) (hb : Below B w w') (hg : g < B) : RowStrs w' g ss := by
  obtain ⟨cs, h1, h2⟩ := h
  exact ⟨cs, h1.below hb hg, h2⟩
theorem RowStrs.drewN {w : World} {g : Nat} {ss : List ByteArray} (h : RowStrs w g ss) (k : Nat) : RowStrs (w.drewN k) g ss := h
theorem RowStrs.keep {w w' : World} {g x : Nat} {ss : List ByteArray} (h : RowStrs w g ss) (ho : w.grownBy w' (some x)) (hx : g ≠ x) : RowStrs w' g ss := by
  have hl := h.lt
  obtain ⟨cs, h1, h2⟩ := h
  exact ⟨cs, (ho.block g hl (fun e => hx (Option.some.inj e))).trans h1, h2⟩
theorem RowStrs.of_whole {w : World} {g : Nat} {ss : List ByteArray} (h : Whole1 w g 9 (strVals ss).toArray) : RowStrs w g ss := ⟨_, h, fun i hi => by simp [strVals, hi]⟩
theorem RowStrs.set {w : World} {g : Nat} {ss : List ByteArray} (h : RowStrs w g ss) (j : Nat) (hj : j < ss.length) (s : ByteArray) : RowStrs (w.setCell ⟨g, j, none⟩ (.string s)) g (ss.set j s) := by
  obtain ⟨cs, h1, h2⟩ := h
  refine ⟨_, h1.set j _, fun i hi => ?_⟩
  have hi' : i < ss.length := by simpa using hi
  have hjs : j < cs.size := (Array.getElem?_eq_some_iff.1 (h2 j hj)).1
  rw [Array.getElem?_setIfInBounds]
  by_cases e : j = i
  · subst e
    simp [hjs]
  · rw [if_neg e, h2 i hi', List.getElem_set_ne e]
theorem RowStrs.of_own {w : World} {base n : Nat} {v : Value} {ss : List ByteArray} (h : w.ownsRow base 9 1 v n (strVals ss)) : (v = .slice none 0 0 ∧ ss = []) ∨ ∃ g cap, v = .slice (some ⟨g, 0, none⟩) ss.length cap ∧ base ≤ g ∧ RowStrs w g ss := by
  have hl : ss.length = n := by simpa [strVals] using h.1
  rcases h.2 with ⟨h1, h2⟩ | ⟨g, cap, cur, h1, h2, h3, h4, h5, h6, h7⟩
  · exact .inl ⟨h1, List.length_eq_zero_iff.1 (by omega)⟩
  · refine .inr ⟨g, cap, by rw [h1, hl], h2, cur, h3, fun i hi => ?_⟩
    have : (cur.toList.take (n * 1))[i]? = some (.string ss[i]) := by rw [h7]; simp [strVals, hi]
    rw [List.getElem?_take] at this
    split at this
    · simpa using this
    · cases this
theorem StrsAt.of_own {w : World} {base n : Nat} {v : Value} {ss : List ByteArray} (h : w.ownsRow base 9 1 v n (strVals ss)) : ∃ A c, v = .slice A ss.length c ∧ StrsAt w w.heap.size A ss := by
  rcases RowStrs.of_own h with ⟨rfl, rfl⟩ | ⟨g, cap, rfl, _, h2⟩
  · exact ⟨none, 0, rfl, StrsAt.empty _ _ _⟩
  · exact ⟨_, _, rfl, h2.at _ h2.lt⟩

theorem marked_set (ss : List ByteArray) (k j : Nat) (h : j < ss.length) : (marked ss k j).set j (markB (k + j)) = marked ss k (j + 1) := by
  apply List.ext_getElem?
  intro i
  rw [List.getElem?_set]
  by_cases hi : i < ss.length
  · rw [marked_get ss k j i hi, marked_get ss k (j + 1) i hi, marked_len]
    by_cases e : j = i
    · subst e
      simp [h]
    · by_cases h2 : i < j
      · simp [e, h2, show i < j + 1 by omega]
      · simp [e, h2, show ¬ i < j + 1 by omega]
  · rw [if_neg (by omega), List.getElem?_eq_none (by rw [marked_len]; omega), List.getElem?_eq_none (by rw [marked_len]; omega)]

/-- The row g bears the marks from k on; nothing else that was there has turned. -/
def MarkedRow (w : World) (g k n : Nat) (e : Ending) (w' : World) : Prop :=
  e = .returned (.int .i64 ((k + n : Nat) : Int)) ∧ RowStrs w' g (marks k n) ∧ w.grownBy w' (some g)

set_option maxHeartbeats 400000 in
theorem markStringS_row (g c k : Nat) (ss : List ByteArray) (w : World) (hg : RowStrs w g ss) (h0 : 0 < k) (h1 : k + ss.length ≤ 2 ^ 62) :
    Calls Tryz.prog 54 #[.slice (some ⟨g, 0, none⟩) ss.length c, .int .i64 k] w (MarkedRow w g k ss.length) := by
  go_enter Tryz.func54, Tryz.ntmps54
  go_wp2
  go_loopw [1, 5] (fun m i wr => ∃ j : Nat, j ≤ ss.length ∧ i = .int .i64 j ∧ m = .int .i64 ((k + j : Nat) : Int) ∧ RowStrs wr g (marked ss k j) ∧ w.grownBy wr (some g)) (fun _ i _ => ss.length - (intOf i).toNat)
  case atStart => exact ⟨0, Nat.zero_le _, rfl, rfl, by rw [marked_zero]; exact hg, only_refl _ _⟩
  case round =>
    obtain ⟨j, hj, rfl, rfl, hw, ho⟩ := hrel
    clear hg
    by_cases hlt : j < ss.length
    · have hm := Lib.hid (markText_any (k + j) wr (by omega) (by omega))
      have hW := Lib.hid hw
      have hml := Lib.hid (marked_len ss k j)
      clear hw
      go_wp2_with fail
      refine hm.out.mono ?_
      rintro e w1 ⟨rfl, hb1⟩
      have hw1 := hW.out.below hb1 hW.out.lt
      have ho1 := only_below ho hb1
      have hc1 := hw1.cell j (by rw [hml.out]; exact hlt)
      have hf1 : w1.frozen? ⟨g, j, none⟩ = false := hw1.free j
      have hset := Lib.hid (hw1.set j (by rw [hml.out]; exact hlt) (markB (k + j)))
      have hos := Lib.hid (only_set ho1 j (.string (markB (k + j))))
      clear hw1 ho1 ho hW
      go_wp2
      go_roundw
      case rel => exact ⟨j + 1, by omega, by go_num, by go_num, by rw [← marked_set ss k j hlt]; exact hset.out, hos.out⟩
      case measure => simp [intOf]; omega
    · have hje : j = ss.length := by omega
      subst hje
      rw [marked_all] at hw
      go_wp2
      go_ret
      exact ⟨rfl, hw, ho⟩

set_option maxHeartbeats 400000 in
theorem heldStringS_row (g c k n : Nat) (w : World) (hg : RowStrs w g (marks k n)) (h0 : 0 < k) (h1 : k + n ≤ 2 ^ 62) :
    Calls Tryz.prog 57 #[.slice (some ⟨g, 0, none⟩) n c, .int .i64 k] w (HeldTo w (k + n)) := by
  go_enter Tryz.func57, Tryz.ntmps57
  go_wp2
  go_loopw [1, 5] (fun m i wr => ∃ j : Nat, j ≤ n ∧ i = .int .i64 j ∧ m = .int .i64 ((k + j : Nat) : Int) ∧ Below w.heap.size w wr) (fun _ i _ => n - (intOf i).toNat)
  case atStart => exact ⟨0, Nat.zero_le _, rfl, rfl, Below.refl _ _⟩
  case round =>
    obtain ⟨j, hj, rfl, rfl, hb⟩ := hrel
    by_cases hlt : j < n
    · have hw := hg.below hb hg.lt
      have hc : wr.cell? ⟨g, j, none⟩ = some (.string (markB (k + j))) := by
        rw [hw.cell j (by rw [marks_len]; exact hlt)]
        simp [marks]
      have hgl : g < wr.heap.size := hw.lt
      clear hw hg
      go_wp2
      go_region_held3 (fun w' => w'.cell? ⟨g, j, none⟩ = some (.string (markB (k + j))) ∧ Below wr.heap.size wr w') ((first | exact ⟨hc, (Below.refl _ _).drew⟩ | exact ⟨hk1, hk2⟩))
        (first | (go_at_call 85; refine (markText_any (k + j) _ (by omega) (by omega)).mono ?_; rintro e w' ⟨rfl, hb1⟩; have hk2 := (Below.refl wr.heap.size wr).drew.trans hb1; have hk1 := (hk2.cell (p := ⟨g, j, none⟩) hgl).trans hc))
      go_wp2
      go_roundw
      case rel => exact ⟨j + 1, by omega, by go_num, by go_num, hb.trans (hk2.mono hb.size)⟩
      case measure => simp [intOf]; omega
    · have hje : j = n := by omega
      subst hje
      go_wp2
      go_ret
      exact ⟨rfl, hb⟩

end Go.Proofs.YthdfidhijmcbdaaGreatDoor
