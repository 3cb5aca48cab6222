/- laws.markText, markStringS and heldStringS: marks are laid into a row of strings and found again. -/
import Derived.Test.YthdfidhijmcbdaaProg
import Derived.Test.YthdfidhijmcbdaaAppend
import Derived.Deep.RegionHeld3
import Derived.WalkKit
import Derived.Laws.IdiomCopy

namespace Go.Proofs.Ythdfidhijmcbdaa
open Go.RowKit

/-- The mark of k, from 1 on. -/
def markB (k : Nat) : ByteArray := ⟨(109 :: nz k).toArray⟩

theorem markB_size (n : Nat) (h : n ≤ 2 ^ 62) : (markB n).size ≤ 21 := by
  have := nz_len_of 20 n (by omega)
  show (109 :: nz n).toArray.size ≤ 21
  simp
  omega

/-- Marks from k on in the first j places of a row, what it held behind. -/
def marked (ss : List ByteArray) (k j : Nat) : List ByteArray := (List.range ss.length).map fun i => if i < j then markB (k + i) else ss.getD i ⟨#[]⟩
theorem marked_len (ss : List ByteArray) (k j : Nat) : (marked ss k j).length = ss.length := by simp [marked]
theorem marked_zero (ss : List ByteArray) (k : Nat) : marked ss k 0 = ss := by
  apply List.ext_getElem?
  intro i
  by_cases h : i < ss.length <;> simp [marked, h]
theorem marked_get (ss : List ByteArray) (k j i : Nat) (h : i < ss.length) : (marked ss k j)[i]? = some (if i < j then markB (k + i) else ss.getD i ⟨#[]⟩) := by simp [marked, h]
theorem marked_succ (ss : List ByteArray) (k j : Nat) (h : j < ss.length) : (strVals (marked ss k j)).toArray.setIfInBounds j (.string (markB (k + j))) = (strVals (marked ss k (j + 1))).toArray := by
  apply Array.ext_getElem?
  intro i
  rw [Array.getElem?_setIfInBounds]
  simp only [strVals, List.getElem?_toArray, List.getElem?_map, List.size_toArray, List.length_map, marked_len]
  by_cases hi : i < ss.length
  · rw [marked_get ss k j i hi, marked_get ss k (j + 1) i hi]
    by_cases e : j = i
    · subst e
      simp [h]
    · by_cases h2 : i < j
      · simp [e, h2, show i < j + 1 by omega]
      · simp [e, h2, show ¬ i < j + 1 by omega]
  · rw [if_neg (by omega), List.getElem?_eq_none (by rw [marked_len]; omega), List.getElem?_eq_none (by rw [marked_len]; omega)]

/-- The marks from k on. -/
def marks (k n : Nat) : List ByteArray := (List.range n).map fun i => markB (k + i)
theorem marked_all (ss : List ByteArray) (k : Nat) : marked ss k ss.length = marks k ss.length := by
  apply List.map_congr_left
  intro i hi
  rw [if_pos (List.mem_range.1 hi)]
theorem marks_len (k n : Nat) : (marks k n).length = n := by simp [marks]

/-- The row g bears the marks from k on; nothing else that was there has turned. -/
def Marked (w : World) (g k n : Nat) (e : Ending) (w' : World) : Prop :=
  e = .returned (.int .i64 ((k + n : Nat) : Int)) ∧ Whole1 w' g 9 (strVals (marks k n)).toArray ∧ w.grownBy w' (some g)

/-- The number behind the last mark; what was there stands. -/
def HeldTo (w : World) (n : Nat) (e : Ending) (w' : World) : Prop := e = .returned (.int .i64 (n : Int)) ∧ Below w.heap.size w w'

end Go.Proofs.Ythdfidhijmcbdaa

namespace Go.Proofs.Ythdfidhijmcbdaa
open Go.RowKit

/-- Block g is a row whose first cells are the strings ss. -/
def RowStrs (w : World) (g : Nat) (ss : List ByteArray) : Prop := ∃ cs : Array Value, Whole1 w g 9 cs ∧ ∀ i, (h : i < ss.length) → cs[i]? = some (.string ss[i])
theorem RowStrs.lt {w : World} {g : Nat} {ss : List ByteArray} (h : RowStrs w g ss) : g < w.heap.size := by
  obtain ⟨cs, h1, _⟩ := h
  exact h1.lt
theorem RowStrs.cell {w : World} {g : Nat} {ss : List ByteArray} (h : RowStrs w g ss) (i : Nat) (hi : i < ss.length) : w.cell? ⟨g, i, none⟩ = some (.string ss[i]) := by
  obtain ⟨cs, h1, h2⟩ := h
  rw [h1.cell, h2 i hi]
theorem RowStrs.free {w : World} {g : Nat} {ss : List ByteArray} (h : RowStrs w g ss) (i : Nat) : w.frozen? ⟨g, i, none⟩ = false := by
  obtain ⟨cs, h1, h2⟩ := h
  exact h1.free i
theorem RowStrs.at {w : World} {g : Nat} {ss : List ByteArray} (h : RowStrs w g ss) (B : Nat) (hB : g < B) : StrsAt w B (some ⟨g, 0, none⟩) ss := fun i hi => ⟨g, 0, rfl, hB, by rw [Nat.zero_add]; exact h.cell i hi⟩
theorem RowStrs.below {w w' : World} {g B : Nat} {ss : List ByteArray} (h : RowStrs w g ss) (hb : Below B w w') (hg : g < B) : RowStrs w' g ss := by
  obtain ⟨cs, h1, h2⟩ := h
  exact ⟨cs, h1.below hb hg, h2⟩
theorem RowStrs.drewN {w : World} {g : Nat} {ss : List ByteArray} (h : RowStrs w g ss) (k : Nat) : RowStrs (w.drewN k) g ss := h
theorem RowStrs.keep {w w' : World} {g x : Nat} {ss : List ByteArray} (h : RowStrs w g ss) (ho : w.grownBy w' (some x)) (hx : g ≠ x) : RowStrs w' g ss := by
  have hl := h.lt
  obtain ⟨cs, h1, h2⟩ := h
  exact ⟨cs, (ho.block g hl (fun e => hx (Option.some.inj e))).trans h1, h2⟩
theorem RowStrs.of_whole {w : World} {g : Nat} {ss : List ByteArray} (h : Whole1 w g 9 (strVals ss).toArray) : RowStrs w g ss := ⟨_, h, fun i hi => by simp [strVals, hi]⟩
theorem RowStrs.set {w : World} {g : Nat} {ss : List ByteArray} (h : RowStrs w g ss) (j : Nat) (hj : j < ss.length) (s : ByteArray) : RowStrs (w.setCell ⟨g, j, none⟩ (.string s)) g (ss.set j s) := by
  obtain ⟨cs, h1, h2⟩ := h
  refine ⟨_, h1.set j _, fun i hi => ?_⟩
  have hi' : i < ss.length := by simpa using hi
  have hjs : j < cs.size := (Array.getElem?_eq_some_iff.1 (h2 j hj)).1
  rw [Array.getElem?_setIfInBounds]
  by_cases e : j = i
  · subst e
    simp [hjs]
  · rw [if_neg e, h2 i hi', List.getElem_set_ne e]
theorem RowStrs.of_own {w : World} {base n : Nat} {v : Value} {ss : List ByteArray} (h : w.ownsRow base 9 1 v n (strVals ss)) : (v = .slice none 0 0 ∧ ss = []) ∨ ∃ g cap, v = .slice (some ⟨g, 0, none⟩) ss.length cap ∧ base ≤ g ∧ RowStrs w g ss := by
  have hl : ss.length = n := by simpa [strVals] using h.1
  rcases h.2 with ⟨h1, h2⟩ | ⟨g, cap, cur, h1, h2, h3, h4, h5, h6, h7⟩
  · exact .inl ⟨h1, List.length_eq_zero_iff.1 (by omega)⟩
  · refine .inr ⟨g, cap, by rw [h1, hl], h2, cur, h3, fun i hi => ?_⟩
    have : (cur.toList.take (n * 1))[i]? = some (.string ss[i]) := by rw [h7]; simp [strVals, hi]
    rw [List.getElem?_take] at this
    split at this
    · simpa using this
    · cases this
theorem StrsAt.of_own {w : World} {base n : Nat} {v : Value} {ss : List ByteArray} (h : w.ownsRow base 9 1 v n (strVals ss)) : ∃ A c, v = .slice A ss.length c ∧ StrsAt w w.heap.size A ss := by
  rcases RowStrs.of_own h with ⟨rfl, rfl⟩ | ⟨g, cap, rfl, _, h2⟩
  · exact ⟨none, 0, rfl, StrsAt.empty _ _ _⟩
  · exact ⟨_, _, rfl, h2.at _ h2.lt⟩

theorem marked_set (ss : List ByteArray) (k j : Nat) (h : j < ss.length) : (marked ss k j).set j (markB (k + j)) = marked ss k (j + 1) := by
  apply List.ext_getElem?
  intro i
  rw [List.getElem?_set]
  by_cases hi : i < ss.length
  · rw [marked_get ss k j i hi, marked_get ss k (j + 1) i hi, marked_len]
    by_cases e : j = i
    · subst e
      simp [h]
    · by_cases h2 : i < j
      · simp [e, h2, show i < j + 1 by omega]
      · simp [e, h2, show ¬ i < j + 1 by omega]
  · rw [if_neg (by omega), List.getElem?_eq_none (by rw [marked_len]; omega), List.getElem?_eq_none (by rw [marked_len]; omega)]

/-- The row g bears the marks from k on; nothing else that was there has turned. -/
def MarkedRow (w : World) (g k n : Nat) (e : Ending) (w' : World) : Prop :=
  e = .returned (.int .i64 ((k + n : Nat) : Int)) ∧ RowStrs w' g (marks k n) ∧ w.grownBy w' (some g)

end Go.Proofs.Ythdfidhijmcbdaa
