/- The draws of stage 1: whole numbers, numerals, strings to split. -/
import Derived.Test.YthplgklegoeelaaDoorCur
import Derived.Test.YthplgklegoeelaaDoorFmt
import Derived.Lib.ItoaLen
namespace Go.Proofs.YthplgklegoeelaaDoor
open Go.RowKit

theorem CurAt.alloc {w : World} {B p : Nat} (h : CurAt w B p) (o : Obj) : CurAt (w.alloc o) B p := h.below ((Below.refl _ _).alloc (Nat.le_refl _) _)

/-- An int is handed back; only the cursor, and what is new, has turned. -/
def DrawnInt (w : World) (B p : Nat) (e : Ending) (w' : World) : Prop :=
  (∃ x : Int, e = .returned (.int .i64 x) ∧ -(2 ^ 63) ≤ x ∧ x ≤ 2 ^ 63 - 1) ∧ CurAt w' B p ∧ w.grownBy w' (some p)

def wholes : List Int := [0, 1, -1, 9, 10, 999999, 1000000, 999999999999, 1000000000000, -999999999999, 9223372036854775807, -9223372036854775808]
theorem wholes_in : ∀ x ∈ wholes, -(2 ^ 63) ≤ x ∧ x ≤ 2 ^ 63 - 1 := by
  intro x hx
  simp only [wholes, List.mem_cons, List.mem_nil_iff, or_false] at hx
  omega
theorem ints_new (w : World) (t : TypeId) (zs : List Int) : IntsAt (w.alloc (.cells (zs.map (Value.int .i64)).toArray t)) (some ⟨w.heap.size, 0, none⟩) zs := fun i hi => by
  refine ⟨w.heap.size, 0, rfl, ?_⟩
  rw [World.cell?_alloc_at _ _ _ _ rfl]
  simp [hi]
theorem strs_new (w : World) (t : TypeId) (ss : List ByteArray) (B : Nat) (hB : w.heap.size < B) : StrsAt (w.alloc (.cells (strVals ss).toArray t)) B (some ⟨w.heap.size, 0, none⟩) ss := StrsAt.of_whole (t := t) (Whole1.new _ _ _) B hB

set_option maxHeartbeats 1000000 in
set_option maxRecDepth 100000 in
theorem l1Whole_any (p B : Nat) (w : World) (hc : CurAt w B p) :
    Calls Tryd.prog 25 #[.pointer (some ⟨p, 0, none⟩)] w (DrawnInt w B p) := by
  have hb := Lib.hid (fun n W h h1 h2 => l1Below_any p B n W h h1 h2)
  have hi := Lib.hid (fun W h => l1PickInt_any p B 12 (some ⟨W.heap.size, 0, none⟩) wholes (W.alloc (.cells (wholes.map (Value.int .i64)).toArray 3)) (CurAt.alloc h _) (ints_new W _ wholes) (fun q b off e => by cases e; have := h.lt; omega) (by decide) (by decide))
  go_enter Tryd.func25, Tryd.ntmps25
  go_wp2_with fail
  refine (hb.out 3 w hc (by omega) (by omega)).mono ?_
  rintro e w1 ⟨⟨x, rfl, hx0, hx1⟩, hc1, ho1⟩
  clear hc
  by_cases h0 : x = 0
  · subst h0
    go_wp2_with fail
    refine (hi.out w1 hc1).mono ?_
    rintro e w2 ⟨⟨y, rfl, hy⟩, hc2, ho2⟩
    have hyb := wholes_in y hy
    clear hy
    go_wp2
    go_ret
    exact ⟨⟨y, rfl, hyb.1, hyb.2⟩, hc2, only_trans (only_below ho1 ((Below.refl _ _).alloc (Nat.le_refl _) _)) ho2⟩
  · by_cases h1 : x = 1
    · subst h1
      go_wp2_with fail
      refine (hb.out 1000000 w1 hc1 (by omega) (by omega)).mono ?_
      rintro e w2 ⟨⟨y, rfl, hy0, hy1⟩, hc2, ho2⟩
      go_wp2
      go_ret
      exact ⟨⟨_, rfl, by omega, by omega⟩, hc2, only_trans ho1 ho2⟩
    · have e0 : (x == 0) = false := by rw [beq_eq_false_iff_ne]; exact h0
      have e1 : (x == 1) = false := by rw [beq_eq_false_iff_ne]; exact h1
      clear h0 h1
      go_wp2_with fail
      refine (hb.out 20 w1 hc1 (by omega) (by omega)).mono ?_
      rintro e w2 ⟨⟨y, rfl, hy0, hy1⟩, hc2, ho2⟩
      go_wp2
      go_ret
      exact ⟨⟨_, rfl, by omega, by omega⟩, hc2, only_trans ho1 ho2⟩

/-- An int is drawn; what was there stands. -/
def GivesInt (w : World) (e : Ending) (w' : World) : Prop := (∃ x : Int, e = .returned (.int .i64 x) ∧ -(2 ^ 63) ≤ x ∧ x ≤ 2 ^ 63 - 1) ∧ Below w.heap.size w w'

set_option maxHeartbeats 1000000 in
theorem drawFormatInt_any (A : Option Addr) (n cap : Nat) (w : World) (hA : BytesAt w w.heap.size A n) (hn : n ≤ 2 ^ 47) :
    Calls Tryd.prog 10 #[.slice A n cap] w (GivesInt w) := by
  have hc := Lib.hid (l1New_any A n cap w hA hn)
  clear hA
  go_enter Tryd.func10, Tryd.ntmps10
  go_wp2_with fail
  refine hc.out.mono ?_
  rintro e w1 ⟨p, rfl, hc1, hb1⟩
  go_wp2_with fail
  refine (l1Whole_any p _ w1 hc1).mono ?_
  rintro e w2 ⟨⟨x, rfl, hx0, hx1⟩, hc2, ho2⟩
  go_wp2
  go_ret
  exact ⟨⟨x, rfl, hx0, hx1⟩, below_only hb1 ho2 hb1.size hc1.low⟩

/-- A short string is drawn; what was there stands. -/
def GivesStr (m : Nat) (w : World) (e : Ending) (w' : World) : Prop := (∃ x : ByteArray, e = .returned (.string x) ∧ x.size ≤ m) ∧ Below w.heap.size w w'

def numerals : List ByteArray := [⟨#[]⟩, ⟨#[48, 48]⟩, ⟨#[48, 49]⟩, ⟨#[45, 49]⟩, ⟨#[43, 49]⟩, ⟨#[120]⟩, ⟨#[57, 57, 57, 57, 57, 57]⟩, ⟨#[49, 48, 48, 48, 48, 48, 48]⟩, ⟨#[45, 48]⟩, ⟨#[45]⟩, ⟨#[32, 49]⟩, ⟨#[49, 32]⟩]
theorem numerals_short : ∀ x ∈ numerals, x.size ≤ 21 := by
  intro x hx
  simp only [numerals, List.mem_cons, List.mem_nil_iff, or_false] at hx
  rcases hx with rfl | rfl | rfl | rfl | rfl | rfl | rfl | rfl | rfl | rfl | rfl | rfl <;> decide

set_option maxHeartbeats 1000000 in
theorem drawParseNumber_any (A : Option Addr) (n cap : Nat) (w : World) (hA : BytesAt w w.heap.size A n) (hn : n ≤ 2 ^ 47) :
    Calls Tryd.prog 14 #[.slice A n cap] w (GivesStr 21 w) := by
  have hc := Lib.hid (l1New_any A n cap w hA hn)
  have hp := Lib.hid (fun p B W h => l1Pick_any p B (W.heap.size + 1) 12 (some ⟨W.heap.size, 0, none⟩) numerals (W.alloc (.cells (strVals numerals).toArray 9)) (CurAt.alloc h _) (strs_new W _ numerals _ (by omega)) (fun q b off e => by cases e; have := CurAt.lt (B := B) (p := p) h; omega) (by decide) (by decide))
  have hsf := Lib.hid specFormatInt_any
  clear hA
  go_enter Tryd.func14, Tryd.ntmps14
  go_wp2_with fail
  refine hc.out.mono ?_
  rintro e w1 ⟨p, rfl, hc1, hb1⟩
  go_wp2_with fail
  refine (l1Once_any p _ 2 w1 hc1 (by omega) (by omega)).mono ?_
  rintro e w2 ⟨⟨b, rfl⟩, hc2, ho2⟩
  have hb2 := below_only hb1 ho2 hb1.size hc1.low
  cases b
  · go_wp2_with fail
    refine (hp.out p _ w2 hc2).mono ?_
    rintro e w3 ⟨⟨x, rfl, hx⟩, hc3, ho3⟩
    have hxs := numerals_short x hx
    clear hx
    go_wp2
    go_ret
    exact ⟨⟨x, rfl, hxs⟩, below_only (hb2.alloc hb2.size _) ho3 (by have := hb2.size; simp; omega) hc1.low⟩
  · go_wp2_with fail
    refine (l1Whole_any p _ w2 hc2).mono ?_
    rintro e w3 ⟨⟨x, rfl, hx0, hx1⟩, hc3, ho3⟩
    have hb3 := below_only hb2 ho3 hb2.size hc1.low
    go_wp2_with fail
    refine (hsf.out x w3 hx0 hx1).mono ?_
    rintro e w4 ⟨rfl, hb4⟩
    have hl := Lib.itoa_length_le x (by omega) (by omega)
    go_wp2
    go_ret
    refine ⟨⟨_, rfl, ?_⟩, hb3.trans (hb4.mono hb3.size)⟩
    show (Lib.itoa x).toArray.size ≤ 21
    rw [List.size_toArray]
    exact hl

/-- A short string and a byte are drawn; what was there stands. -/
def GivesSplit (w : World) (e : Ending) (w' : World) : Prop := (∃ (x : ByteArray) (c : UInt8), e = .returned (.tuple #[.string x, .int .u8 (c.toNat : Int)]) ∧ x.size ≤ 21) ∧ Below w.heap.size w w'

def splits : List ByteArray := [⟨#[]⟩, ⟨#[97]⟩, ⟨#[97, 44, 98]⟩, ⟨#[44]⟩, ⟨#[97, 44, 44, 98, 44]⟩, ⟨#[97, 10, 98, 10]⟩]
theorem splits_short : ∀ x ∈ splits, x.size ≤ 21 := by
  intro x hx
  simp only [splits, List.mem_cons, List.mem_nil_iff, or_false] at hx
  rcases hx with rfl | rfl | rfl | rfl | rfl | rfl <;> decide
def seps : List Int := [44, 10]

set_option maxHeartbeats 1000000 in
theorem drawSplitByte_any (A : Option Addr) (n cap : Nat) (w : World) (hA : BytesAt w w.heap.size A n) (hn : n ≤ 2 ^ 47) :
    Calls Tryd.prog 17 #[.slice A n cap] w (GivesSplit w) := by
  have hc := Lib.hid (l1New_any A n cap w hA hn)
  have hp := Lib.hid (fun p B W h => l1Pick_any p B (W.heap.size + 1) 6 (some ⟨W.heap.size, 0, none⟩) splits (W.alloc (.cells (strVals splits).toArray 9)) (CurAt.alloc h _) (strs_new W _ splits _ (by omega)) (fun q b off e => by cases e; have := CurAt.lt (B := B) (p := p) h; omega) (by decide) (by decide))
  have hi := Lib.hid (fun p B W h => l1PickInt_any p B 2 (some ⟨W.heap.size, 0, none⟩) seps (W.alloc (.cells (seps.map (Value.int .i64)).toArray 3)) (CurAt.alloc h _) (ints_new W _ seps) (fun q b off e => by cases e; have := CurAt.lt (B := B) (p := p) h; omega) (by decide) (by decide))
  clear hA
  go_enter Tryd.func17, Tryd.ntmps17
  go_wp2_with fail
  refine hc.out.mono ?_
  rintro e w1 ⟨p, rfl, hc1, hb1⟩
  go_wp2_with fail
  refine (hp.out p _ w1 hc1).mono ?_
  rintro e w2 ⟨⟨x, rfl, hx⟩, hc2, ho2⟩
  have hb2 := below_only (hb1.alloc hb1.size _) ho2 (by have := hb1.size; simp; omega) hc1.low
  have hxs := splits_short x hx
  clear hx
  go_wp2_with fail
  refine (hi.out p _ w2 hc2).mono ?_
  rintro e w3 ⟨⟨y, rfl, hy⟩, hc3, ho3⟩
  have hb3 := below_only (hb2.alloc hb2.size _) ho3 (by have := hb2.size; simp; omega) hc1.low
  have hy2 : y = 44 ∨ y = 10 := by simpa [seps] using hy
  clear hy
  rcases hy2 with rfl | rfl
  · go_wp2
    go_ret2
    exact ⟨⟨x, 44, rfl, hxs⟩, hb3⟩
  · go_wp2
    go_ret2
    exact ⟨⟨x, 10, rfl, hxs⟩, hb3⟩

end Go.Proofs.YthplgklegoeelaaDoor
