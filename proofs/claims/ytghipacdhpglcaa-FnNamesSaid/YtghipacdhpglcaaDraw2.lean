/- The draws of stage 2: names and lists of names. -/
import Derived.Test.YtghipacdhpglcaaCur
import Derived.Test.YtghipacdhpglcaaAppend
import Derived.Test.YtghipacdhpglcaaRowS
import Derived.Test.YtghipacdhpglcaaSpecInsert
import Derived.Test.YtghipacdhpglcaaNameLaws
namespace Go.Proofs.Ytghipacdhpglcaa
open Go.RowKit

theorem CurAt.alloc2 {w : World} {B p : Nat} (h : CurAt w B p) (o : Obj) : CurAt (w.alloc o) B p := h.below ((Below.refl _ _).alloc (Nat.le_refl _) _)
theorem strs_new2 (w : World) (t : TypeId) (ss : List ByteArray) (B : Nat) (hB : w.heap.size < B) : StrsAt (w.alloc (.cells (strVals ss).toArray t)) B (some ⟨w.heap.size, 0, none⟩) ss := StrsAt.of_whole (t := t) (Whole1.new _ _ _) B hB

theorem pick_lit (ss : List ByteArray) (h0 : 0 < ss.length) (h1 : ss.length ≤ 1000000) (p B : Nat) (W : World) (h : CurAt W B p) :
    Calls Try.prog 57 #[.pointer (some ⟨p, 0, none⟩), .slice (some ⟨W.heap.size, 0, none⟩) ss.length ss.length] (W.alloc (.cells (strVals ss).toArray 9)) (DrawnStr (W.alloc (.cells (strVals ss).toArray 9)) B p ss) :=
  l1Pick_any p B (W.heap.size + 1) ss.length (some ⟨W.heap.size, 0, none⟩) ss _ (CurAt.alloc2 h _) (strs_new2 W _ ss _ (by omega)) (fun q b off e => by cases e; have := CurAt.lt (B := B) (p := p) h; omega) h0 h1

def letters5 : List ByteArray := [⟨#[97]⟩, ⟨#[98]⟩, ⟨#[99]⟩, ⟨#[120]⟩, ⟨#[97, 49]⟩]
def letters4 : List ByteArray := [⟨#[97]⟩, ⟨#[98]⟩, ⟨#[99]⟩, ⟨#[120]⟩]
def letters4b : List ByteArray := [⟨#[97]⟩, ⟨#[98]⟩, ⟨#[100]⟩, ⟨#[122]⟩]
def letters3 : List ByteArray := [⟨#[97]⟩, ⟨#[120]⟩, ⟨#[113]⟩]
def names8 : List ByteArray := [⟨#[120]⟩, ⟨#[120, 49]⟩, ⟨#[49, 120]⟩, ⟨#[88]⟩, ⟨#[97, 98, 99, 100]⟩, ⟨#[97, 98, 99, 100, 101]⟩, ⟨#[]⟩, ⟨#[97, 45]⟩]
/-- All of at most 8 bytes. -/
def Short (ss : List ByteArray) : Prop := ∀ x ∈ ss, x.size ≤ 8
theorem short5 : Short letters5 := by unfold Short letters5; decide
theorem short4 : Short letters4 := by unfold Short letters4; decide
theorem short4b : Short letters4b := by unfold Short letters4b; decide
theorem short3 : Short letters3 := by unfold Short letters3; decide
theorem short8 : Short names8 := by unfold Short names8; decide
theorem Short.at {ss : List ByteArray} (h : Short ss) (i : Nat) (hi : i < ss.length) : ss[i].size ≤ 1048576 := Nat.le_trans (h _ (List.getElem_mem hi)) (by omega)
theorem Short.snoc {ss : List ByteArray} (h : Short ss) (s : ByteArray) (hs : s.size ≤ 8) : Short (ss ++ [s]) := fun x hx => by
  rcases List.mem_append.1 hx with hx | hx
  · exact h x hx
  · simp at hx
    subst hx
    exact hs
theorem Short.insert {ss : List ByteArray} (h : Short ss) (s : ByteArray) (hs : s.size ≤ 8) : Short (insertB ss s) := fun x hx => by
  rcases insert_mem ss s x hx with hx | hx
  · subst hx
    exact hs
  · exact h x hx

/-- A short list of short strings is handed back, in a row that is new; only the cursor, and what is new, has turned. -/
def DrawnList (w : World) (B p : Nat) (e : Ending) (w' : World) : Prop :=
  (∃ v ss, e = .returned v ∧ w'.ownsRow w.heap.size 9 1 v ss.length (strVals ss) ∧ Short ss ∧ ss.length ≤ 5) ∧ CurAt w' B p ∧ w.grownBy w' (some p)

set_option maxHeartbeats 1000000 in
theorem l2List_any (p B : Nat) (w : World) (hc : CurAt w B p) :
    Calls Try.prog 62 #[.pointer (some ⟨p, 0, none⟩)] w (DrawnList w B p) := by
  obtain ⟨i0, hi, hz0, hz1, hz2⟩ := info_parts infoString
  have hd := Lib.hid (l1Below_any p B 5 (w.alloc (.cells #[] 9)) (CurAt.alloc2 hc _) (by omega) (by omega))
  have hp := Lib.hid (fun W h => pick_lit letters5 (by decide) (by decide) p B W h)
  have hE0 : (w.alloc (.cells #[] 9)).ownsRow w.heap.size 9 1 (.slice (some ⟨w.heap.size, 0, none⟩) 0 0) 0 [] := World.ownsRow_lit w #[] 0 (Nat.le_refl _) (Nat.zero_le _) rfl
  have hg0 : w.grownBy (w.alloc (.cells #[] 9)) (some p) := World.grownBy_alloc w _ _
  have hpl := hc.lt
  clear hc
  go_enter Try.func62, Try.ntmps62
  go_wp2_with fail
  refine hd.out.mono ?_
  rintro e w1 ⟨⟨n, rfl, hn0, hn1⟩, hc1, ho1⟩
  have hE1 : w1.ownsRow w.heap.size 9 1 (.slice (some ⟨w.heap.size, 0, none⟩) 0 0) 0 [] := hE0.kept ho1 (.inr (by show some w.heap.size ≠ some p; intro e; injection e with e; omega))
  have ho1' := only_trans hg0 ho1
  clear hE0 hg0 ho1
  go_wp2
  go_loopw [3, 5] (fun v i wr => ∃ (k : Nat) (ss : List ByteArray), (k : Int) ≤ n ∧ i = .int .i64 k ∧ ss.length = k ∧ wr.ownsRow w.heap.size 9 1 v ss.length (strVals ss) ∧ Short ss ∧ CurAt wr B p ∧ w.grownBy wr (some p)) (fun _ i _ => n.toNat - (intOf i).toNat)
  case atStart => exact ⟨0, [], by omega, rfl, rfl, hE1, (fun x hx => by cases hx), hc1, ho1'⟩
  case round =>
    obtain ⟨k, ss, hk, rfl, hl, hown, hsh, hc, ho⟩ := hrel
    have HL := Lib.hid hl
    have hl5 : ss.length ≤ 5 := by omega
    clear hl hE1 hc1 ho1'
    have hsz := ho.size
    by_cases hlt : (k : Int) < n
    · go_wp2_with fail
      refine (hp.out wr hc).mono ?_
      rintro e w2 ⟨⟨x, rfl, hx⟩, hc2, ho2⟩
      have hxs := short5 x hx
      clear hx
      have hgA := World.grownBy_alloc wr (.cells (strVals letters5).toArray 9) (some p)
      have hown2 := (hown.alloc (.cells (strVals letters5).toArray 9)).kept ho2 (.inr (fun e => by have := (hown.lt p e).1; omega))
      have ho2' := only_trans (only_trans ho hgA) ho2
      clear hown ho hgA ho2
      have hsz2 := ho2'.size
      go_wp2_with (at_builtin; refine wpList_append_cells _ rfl (.tmp 14) (.tmp 18) _ rfl w.heap.size 9 i0 (.string ⟨#[]⟩) 1 16 Try.underlying24 hi hz0 hz1 hz2 rfl (by decide) _ _ _ rfl (hown2.alloc _) (some ⟨w2.heap.size, 0, none⟩) 1 1 [.string x] rfl rfl (.inr ⟨_, rfl, cellNew w2 9 _⟩) (by intro u hu; simp at hu; subst hu; rfl) (by unfold maxLen; omega) (by omega) (by simp; omega) ?_; intro v3 w3 hown3 hg3)
      have hgB := World.grownBy_alloc w2 (.cells #[.string x] 9) (some p)
      have hb2 : Below w2.heap.size w2 (w2.alloc (.cells #[.string x] 9)) := (Below.refl _ _).alloc (Nat.le_refl _) _
      have hb3 : Below w.heap.size w2 w3 := (hb2.mono hsz2).grown hg3 (by simp; omega) (fun q h => (hown2.lt q h).1)
      have hc3 : CurAt w3 B p := by
        have hlo := hc2.low
        obtain ⟨A', n', cap', i', h', c1, c2, c3, c4, c5⟩ := hc2
        refine ⟨A', n', cap', i', h', c1.below hb3 hpl, c2, c3, c4.below (hb3.mono (by omega)), c5⟩
      have ho3 : w.grownBy w3 (some p) := ⟨hb3.os.trans ho2'.os, hb3.tape.trans ho2'.tape, hb3.output.trans ho2'.output, Nat.le_trans ho2'.size hb3.size, fun i h hne => (hb3.block i h).trans (ho2'.block i h hne)⟩
      have h4 : w3.ownsRow w.heap.size 9 1 v3 (ss ++ [x]).length (strVals (ss ++ [x])) := own_strs hown3 (by simp [strVals])
      clear hown3 hown2 hg3 hgB hb2 hc2 ho2'
      go_wp2
      go_roundw
      case rel => exact ⟨k + 1, ss ++ [x], by omega, by go_num, by simp [HL.out], h4, hsh.snoc x hxs, hc3, ho3⟩
      case measure => simp [intOf]; omega
    · go_wp2
      go_ret
      exact ⟨⟨_, ss, rfl, hown, hsh, hl5⟩, hc, ho⟩

end Go.Proofs.Ytghipacdhpglcaa
