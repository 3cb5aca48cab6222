/- Lemmas: Cur, OpenBytes, RowS, TyIn. -/
import Derived.Test.YtceclhndagoddaaGreatDoorProg
import Derived.Test.YtceclhndagoddaaGreatDoorLawFnValueText_1
import Derived.Laws.BitsAllLaws
import Derived.BigGuard
import Derived.Deep.RegionHeld3
import Derived.WalkKit
import Derived.Laws.IdiomCopy

section
namespace Go.Proofs.YtceclhndagoddaaGreatDoor
open Go.RowKit

/-- The slice of address A holds n bytes, below block B. -/
def BytesAt (w : World) (B : Nat) (A : Option Addr) (n : Nat) : Prop :=
  ∀ i, i < n → ∃ b off x, A = some ⟨b, off, none⟩ ∧ b < B ∧ w.cell? ⟨b, off + i, none⟩ = some (.int .u8 x) ∧ 0 ≤ x ∧ x ≤ 255
theorem BytesAt.keep {w w' : World} {B n : Nat} {A : Option Addr} (h : BytesAt w B A n) (hk : ∀ p : Addr, p.block < B → w'.cell? p = w.cell? p) : BytesAt w' B A n := fun i hi => by
  obtain ⟨b, off, x, h1, h2, h3, h4⟩ := h i hi
  exact ⟨b, off, x, h1, h2, (hk _ h2).trans h3, h4⟩
theorem BytesAt.below {w w' : World} {B n : Nat} {A : Option Addr} (h : BytesAt w B A n) (hb : Below B w w') : BytesAt w' B A n := h.keep fun _ hp => hb.cell hp

theorem BytesAt.keepMore {w : World} {B B' n : Nat} {A : Option Addr} (h : BytesAt w B A n) (hB : B ≤ B') : BytesAt w B' A n := fun i hi => by
  obtain ⟨b, off, x, h1, h2, h3⟩ := h i hi
  exact ⟨b, off, x, h1, by omega, h3⟩

/-- The cursor lies in block p. -/
def CurAt (w : World) (B p : Nat) : Prop :=
  ∃ A n cap i h, Whole1 w p 66 #[.slice A n cap, .int .i64 ((i : Nat) : Int), .int .i64 h] ∧ i ≤ n ∧ n ≤ maxLen ∧ BytesAt w B A n ∧ B ≤ p
theorem CurAt.lt {w : World} {B p : Nat} (h : CurAt w B p) : p < w.heap.size := by
  obtain ⟨A, n, cap, i, h, h1, _⟩ := h
  exact h1.lt
theorem CurAt.low {w : World} {B p : Nat} (h : CurAt w B p) : B ≤ p := by
  obtain ⟨A, n, cap, i, h, h1, _, _, _, h2⟩ := h
  exact h2
theorem CurAt.below {w w' : World} {B p : Nat} (h : CurAt w B p) (hb : Below w.heap.size w w') : CurAt w' B p := by
  have hl := h.lt
  obtain ⟨A, n, cap, i, x, h1, h2, h3, h4, h5⟩ := h
  exact ⟨A, n, cap, i, x, h1.below hb h1.lt, h2, h3, h4.below (hb.mono (by omega)), h5⟩

theorem and255 (x : Int) : 0 ≤ bits .and .i64 x 255 ∧ bits .and .i64 x 255 ≤ 255 := by
  have h : ((BitVec.ofInt 64 x) &&& (BitVec.ofInt 64 255)).toNat ≤ 255 := by
    rw [BitVec.toNat_and]
    exact Nat.and_le_right
  show 0 ≤ IntKind.i64.wrap (((BitVec.ofInt 64 x) &&& (BitVec.ofInt 64 255)).toNat : Int) ∧ IntKind.i64.wrap (((BitVec.ofInt 64 x) &&& (BitVec.ofInt 64 255)).toNat : Int) ≤ 255
  rw [IntKind.wrap_i64]
  omega

/-- A number from 0 to m is handed back; only the cursor has turned. -/
def Drawn (w : World) (B p : Nat) (m : Int) (e : Ending) (w' : World) : Prop :=
  (∃ x : Int, e = .returned (.int .i64 x) ∧ 0 ≤ x ∧ x ≤ m) ∧ CurAt w' B p ∧ w.grownBy w' (some p)

set_option maxHeartbeats 1000000 in
theorem l1Byte_any (p B : Nat) (w : World) (hc : CurAt w B p) :
    Calls Tryz.prog 65 #[.pointer (some ⟨p, 0, none⟩)] w (Drawn w B p 255) := by
  obtain ⟨A, n, cap, i, h, hw, hi, hn, hby, hB⟩ := hc
  have c0 : w.cell? ⟨p, 0, none⟩ = some (.slice A n cap) := hw.cell 0
  have c1 : w.cell? ⟨p, 1, none⟩ = some (.int .i64 (i : Int)) := hw.cell 1
  have c2 : w.cell? ⟨p, 2, none⟩ = some (.int .i64 h) := hw.cell 2
  have f2 : w.frozen? ⟨p, 2, none⟩ = false := hw.free 2
  have f1 : w.frozen? ⟨p, 1, none⟩ = false := hw.free 1
  unfold maxLen at hn
  by_cases hlt : i < n
  · obtain ⟨b, off, x, rfl, hb, hx, hx0, hx1⟩ := hby i hlt
    have hcb : ∀ v, (w.setCell ⟨p, 2, none⟩ v).cell? ⟨b, off + i, none⟩ = some (.int .u8 x) := fun v => (World.cell?_setCell_other w ⟨p, 2, none⟩ ⟨b, off + i, none⟩ v (fun e => by injection e with e; omega)).trans hx
    have hltI : (i : Int) < (n : Int) := by omega
    have HW := Lib.hid hw
    have HY := Lib.hid hby
    clear hw hby hx
    go_enter Tryz.func65, Tryz.ntmps65
    go_wp2
    go_quiet (fail)
    go_wp2
    go_quiet (fail)
    go_wp2
    go_quiet (fail)
    go_wp2
    go_ret
    refine ⟨⟨_, rfl, (and255 _).1, (and255 _).2⟩, ⟨some ⟨b, off, none⟩, n, cap, i + 1, _, ((HW.out.set 2 _).drewN _).set 1 _, by omega, by unfold maxLen; omega, HY.out.keep fun q hq => ?_, hB⟩, only_set (only_drewN (only_set (only_refl _ _) 2 _) _) 1 _⟩
    have e2 : (⟨p, 2, none⟩ : Addr) ≠ q := fun e => by subst e; simp at hq; omega
    have e1 : (⟨p, 1, none⟩ : Addr) ≠ q := fun e => by subst e; simp at hq; omega
    exact (World.cell?_setCell_other _ ⟨p, 1, none⟩ q _ e1).trans (World.cell?_setCell_other w ⟨p, 2, none⟩ q _ e2)
  · have hltI : ¬ (i : Int) < (n : Int) := by omega
    have HW := Lib.hid hw
    have HY := Lib.hid hby
    clear hw hby
    go_enter Tryz.func65, Tryz.ntmps65
    go_wp2
    go_quiet (fail)
    go_wp2
    go_quiet (fail)
    go_wp2
    go_ret
    refine ⟨⟨_, rfl, (and255 _).1, (and255 _).2⟩, ⟨A, n, cap, i, _, ((HW.out.set 2 _).drewN _).drewN _, hi, by unfold maxLen; omega, HY.out.keep fun q hq => World.cell?_setCell_other w ⟨p, 2, none⟩ q _ (fun e => by subst e; simp at hq; omega), hB⟩, only_drewN (only_drewN (only_set (only_refl _ _) 2 _) _) _⟩

theorem mod_bounds (x n : Int) (hn : 0 < n) : 0 ≤ x % n ∧ x % n ≤ n - 1 := by
  have h1 := Int.emod_nonneg x (show n ≠ 0 by omega)
  have h2 := Int.emod_lt_of_pos x hn
  omega

set_option maxHeartbeats 1000000 in
theorem l1Below_any (p B : Nat) (n : Int) (w : World) (hc : CurAt w B p) (hn : 1 ≤ n) (hn2 : n ≤ 2 ^ 40) :
    Calls Tryz.prog 29 #[.pointer (some ⟨p, 0, none⟩), .int .i64 n] w (Drawn w B p (n - 1)) := by
  have hn0 : ¬ n ≤ 0 := by omega
  by_cases h256 : n ≤ 256
  · have h1 := Lib.hid (l1Byte_any p B w hc)
    clear hc
    go_enter Tryz.func29, Tryz.ntmps29
    go_wp2_with fail
    refine h1.out.mono ?_
    rintro e w1 ⟨⟨x, rfl, hx0, hx1⟩, hc1, ho1⟩
    have hm := mod_bounds x n (by omega)
    have hnz : (n == 0) = false := by rw [beq_eq_false_iff_ne]; omega
    go_wp2
    go_ret
    exact ⟨⟨_, rfl, hm.1, hm.2⟩, hc1, ho1⟩
  · have h1 := Lib.hid (fun W h => l1Byte_any p B W h)
    go_enter Tryz.func29, Tryz.ntmps29
    go_wp2_with fail
    refine (h1.out w hc).mono ?_
    rintro e w1 ⟨⟨x, rfl, hx0, hx1⟩, hc1, ho1⟩
    go_wp2_with fail
    refine (h1.out w1 hc1).mono ?_
    rintro e w2 ⟨⟨y, rfl, hy0, hy1⟩, hc2, ho2⟩
    go_wp2_with fail
    refine (h1.out w2 hc2).mono ?_
    rintro e w3 ⟨⟨z, rfl, hz0, hz1⟩, hc3, ho3⟩
    go_wp2_with fail
    refine (h1.out w3 hc3).mono ?_
    rintro e w4 ⟨⟨u, rfl, hu0, hu1⟩, hc4, ho4⟩
    have hm := mod_bounds (x * 16777216 + y * 65536 + z * 256 + u) n (by omega)
    have hnz : (n == 0) = false := by rw [beq_eq_false_iff_ne]; omega
    go_wp2
    go_ret
    exact ⟨⟨_, rfl, hm.1, hm.2⟩, hc4, only_trans (only_trans (only_trans ho1 ho2) ho3) ho4⟩

/-- Below 0 nothing is drawn. -/
theorem l1Below_none (p : Nat) (n : Int) (w : World) (hn : n ≤ 0) :
    Calls Tryz.prog 29 #[.pointer (some ⟨p, 0, none⟩), .int .i64 n] w fun e w' => e = .returned (.int .i64 0) ∧ w = w' := by
  go_enter Tryz.func29, Tryz.ntmps29
  go_wp2
  go_ret
  exact ⟨rfl, rfl⟩

/-- One of the strings is handed back; only the cursor has turned. -/
def DrawnStr (w : World) (B p : Nat) (ss : List ByteArray) (e : Ending) (w' : World) : Prop :=
  (∃ x : ByteArray, e = .returned (.string x) ∧ x ∈ ss) ∧ CurAt w' B p ∧ w.grownBy w' (some p)

set_option maxHeartbeats 1000000 in
theorem l1Pick_any (p B D c : Nat) (A : Option Addr) (ss : List ByteArray) (w : World) (hc : CurAt w B p) (hA : StrsAt w D A ss) (hne : ∀ q b off, A = some ⟨b, off, q⟩ → b ≠ p) (h0 : 0 < ss.length) (h1 : ss.length ≤ 1000000) :
    Calls Tryz.prog 32 #[.pointer (some ⟨p, 0, none⟩), .slice A ss.length c] w (DrawnStr w B p ss) := by
  have hd := Lib.hid (l1Below_any p B ss.length w hc (by omega) (by omega))
  have hpl := hc.lt
  clear hc
  go_enter Tryz.func32, Tryz.ntmps32
  go_wp2_with fail
  refine hd.out.mono ?_
  rintro e w1 ⟨⟨x, rfl, hx0, hx1⟩, hc1, ho1⟩
  obtain ⟨k, rfl⟩ : ∃ k : Nat, x = k := ⟨x.toNat, by omega⟩
  have hk : k < ss.length := by omega
  obtain ⟨b, off, rfl, _, hcell⟩ := hA k hk
  have hbp := hne none b off rfl
  have hbl : b < w.heap.size := block_lt_of_cell hcell
  have hcell1 : w1.cell? ⟨b, off + k, none⟩ = some (.string ss[k]) := (World.cell?_of_block (w := w) (ho1.block b hbl (fun e => hbp (by injection e)))).trans hcell
  have hkI : (k : Int) < ss.length := by omega
  clear hcell hne
  go_wp2
  go_ret
  exact ⟨⟨_, rfl, List.getElem_mem hk⟩, hc1, ho1⟩

/-- A new cursor. -/
def NewCur (w : World) (e : Ending) (w' : World) : Prop :=
  ∃ p, e = .returned (.pointer (some ⟨p, 0, none⟩)) ∧ CurAt w' w.heap.size p ∧ Below w.heap.size w w'

set_option maxHeartbeats 1000000 in
theorem l1New_any (A : Option Addr) (n cap : Nat) (w : World) (hA : BytesAt w w.heap.size A n) (hn : n ≤ 2 ^ 47) :
    Calls Tryz.prog 14 #[.slice A n cap] w (NewCur w) := by
  go_enter Tryz.func14, Tryz.ntmps14
  go_wp2
  go_loop [3, 4] (fun h i => ∃ (k : Nat) (x : Int), k ≤ n ∧ i = .int .i64 k ∧ h = .int .i64 x) (fun _ i => n - (intOf i).toNat)
  case atStart => exact ⟨0, _, Nat.zero_le _, rfl, rfl⟩
  case round =>
    obtain ⟨k, x, hk, rfl, rfl⟩ := hrel
    by_cases hlt : k < n
    · by_cases h4 : k < 4000
      · obtain ⟨b, off, y, rfl, hb, hy, hy0, hy1⟩ := hA k hlt
        have HA := Lib.hid hA
        clear hA
        have hltI : (k : Int) < (n : Int) := by omega
        have h4I : (k : Int) < 4000 := by omega
        go_wp2
        go_round
        case rel => exact ⟨k + 1, _, by omega, by go_num, rfl⟩
        case measure => simp [intOf]; omega
      · have hltI : (k : Int) < (n : Int) := by omega
        have h4I : ¬ (k : Int) < 4000 := by omega
        go_wp2
        go_ret
        exact ⟨w.heap.size, rfl, ⟨A, n, cap, 0, x, Whole1.new _ _ _, Nat.zero_le _, by unfold maxLen; omega, hA.below ((Below.refl _ _).alloc (Nat.le_refl _) _), Nat.le_refl _⟩, (Below.refl _ _).alloc (Nat.le_refl _) _⟩
    · have hltI : ¬ (k : Int) < (n : Int) := by omega
      go_wp2
      go_ret
      exact ⟨w.heap.size, rfl, ⟨A, n, cap, 0, x, Whole1.new _ _ _, Nat.zero_le _, by unfold maxLen; omega, hA.below ((Below.refl _ _).alloc (Nat.le_refl _) _), Nat.le_refl _⟩, (Below.refl _ _).alloc (Nat.le_refl _) _⟩

end Go.Proofs.YtceclhndagoddaaGreatDoor
end

section
namespace Go.Proofs.YtceclhndagoddaaGreatDoor
open Go.ChangeShapes Go.WideShapes Go.ChangeAt Go.RowKit

theorem open_bytes_arg {H : Type} {enc : TypeId × Value → H} {P : Program} {W : World} {base : Nat} {t e : TypeId} {v : Value} {d : DataW H} {p : List MemPlace} (ht : P.underlying t = some (.slice e)) (he : P.underlying e = some (.int .u8)) (hc : P.cellsOf e = 1)
    (hv : Value.okWide P W .any base t v) (h : DataW.Trod enc P W 0 (fun _ => true) true t v d p) (hlt : ∀ x ∈ p, x.block < W.heap.size) :
    ∃ A n c, v = .slice A n c ∧ BytesAt W W.heap.size A n ∧ n ≤ maxLen := by
  obtain ⟨a0, len, cap, rfl⟩ := okWide_slice ht hv
  obtain ⟨fuel, hf⟩ := h
  rcases open_ints ht he hc hf with ⟨hcs, hx⟩ | ⟨a, len', cap', zs, hcs, _, hl, hm, hz, hx, hcell, hwz⟩
  · simp [Value.cells] at hcs
    obtain ⟨rfl, rfl, rfl⟩ := hcs
    exact ⟨none, 0, 0, rfl, fun i hi => absurd hi (by omega), Nat.zero_le _⟩
  · simp [Value.cells] at hcs
    obtain ⟨rfl, rfl, rfl⟩ := hcs
    simp only [if_true] at hz
    simp only [Prod.mk.injEq] at hx
    obtain ⟨rfl, rfl⟩ := hx
    refine ⟨some a, len, cap, rfl, fun i hi => ?_, by omega⟩
    obtain ⟨b, off, spot⟩ := a
    have hspot : spot = none := by simpa [Addr.add] using World.cell?_spot (hcell 0 (by omega))
    subst hspot
    have hc0 := hcell i (by omega)
    rw [add_plain] at hc0
    have hb := bounds_byte (hwz (zs.getD i 0) (by
      have : zs.getD i 0 = zs[i]'(by omega) := by simp [show i < zs.length by omega]
      rw [this]
      exact List.getElem_mem _))
    exact ⟨b, off, _, rfl, hlt (.cell b off) (MemPlace.mem_row.2 ⟨0, by omega, by simp⟩), hc0, hb.1, hb.2⟩

end Go.Proofs.YtceclhndagoddaaGreatDoor
end

section
namespace Go.Proofs.YtceclhndagoddaaGreatDoor
open Go.RowKit

/-- The mark of k, from 1 on. -/
def markB (k : Nat) : ByteArray := ⟨(109 :: nz k).toArray⟩

theorem markB_size (n : Nat) (h : n ≤ 2 ^ 62) : (markB n).size ≤ 21 := by
  have := nz_len_of 20 n (by omega)
  show (109 :: nz n).toArray.size ≤ 21
  simp
  omega

/-- Marks from k on in the first j places of a row, what it held behind. -/
def marked (ss : List ByteArray) (k j : Nat) : List ByteArray := (List.range ss.length).map fun i => if i < j then markB (k + i) else ss.getD i ⟨#[]⟩
theorem marked_len (ss : List ByteArray) (k j : Nat) : (marked ss k j).length = ss.length := by simp [marked]
theorem marked_zero (ss : List ByteArray) (k : Nat) : marked ss k 0 = ss := by
  apply List.ext_getElem?
  intro i
  by_cases h : i < ss.length <;> simp [marked, h]
theorem marked_get (ss : List ByteArray) (k j i : Nat) (h : i < ss.length) : (marked ss k j)[i]? = some (if i < j then markB (k + i) else ss.getD i ⟨#[]⟩) := by simp [marked, h]
theorem marked_succ (ss : List ByteArray) (k j : Nat) (h : j < ss.length) : (strVals (marked ss k j)).toArray.setIfInBounds j (.string (markB (k + j))) = (strVals (marked ss k (j + 1))).toArray := by
  apply Array.ext_getElem?
  intro i
  rw [Array.getElem?_setIfInBounds]
  simp only [strVals, List.getElem?_toArray, List.getElem?_map, List.size_toArray, List.length_map, marked_len]
  by_cases hi : i < ss.length
  · rw [marked_get ss k j i hi, marked_get ss k (j + 1) i hi]
    by_cases e : j = i
    · subst e
      simp [h]
    · by_cases h2 : i < j
      · simp [e, h2, show i < j + 1 by omega]
      · simp [e, h2, show ¬ i < j + 1 by omega]
  · rw [if_neg (by omega), List.getElem?_eq_none (by rw [marked_len]; omega), List.getElem?_eq_none (by rw [marked_len]; omega)]

/-- The marks from k on. -/
def marks (k n : Nat) : List ByteArray := (List.range n).map fun i => markB (k + i)
theorem marked_all (ss : List ByteArray) (k : Nat) : marked ss k ss.length = marks k ss.length := by
  apply List.map_congr_left
  intro i hi
  rw [if_pos (List.mem_range.1 hi)]
theorem marks_len (k n : Nat) : (marks k n).length = n := by simp [marks]

/-- The row g bears the marks from k on; nothing else that was there has turned. -/
def Marked (w : World) (g k n : Nat) (e : Ending) (w' : World) : Prop :=
  e = .returned (.int .i64 ((k + n : Nat) : Int)) ∧ Whole1 w' g 9 (strVals (marks k n)).toArray ∧ w.grownBy w' (some g)

/-- The number behind the last mark; what was there stands. -/
def HeldTo (w : World) (n : Nat) (e : Ending) (w' : World) : Prop := e = .returned (.int .i64 (n : Int)) ∧ Below w.heap.size w w'

end Go.Proofs.YtceclhndagoddaaGreatDoor

namespace Go.Proofs.YtceclhndagoddaaGreatDoor
open Go.RowKit

/-- Block g is a row whose first cells are the strings ss. -/
def RowStrs (w : World) (g : Nat) (ss : List ByteArray) : Prop := ∃ cs : Array Value, Whole1 w g 9 cs ∧ ∀ i, (h : i < ss.length) → cs[i]? = some (.string ss[i])
theorem RowStrs.lt {w : World} {g : Nat} {ss : List ByteArray} (h : RowStrs w g ss) : g < w.heap.size := by
  obtain ⟨cs, h1, _⟩ := h
  exact h1.lt
theorem RowStrs.cell {w : World} {g : Nat} {ss : List ByteArray} (h : RowStrs w g ss) (i : Nat) (hi : i < ss.length) : w.cell? ⟨g, i, none⟩ = some (.string ss[i]) := by
  obtain ⟨cs, h1, h2⟩ := h
  rw [h1.cell, h2 i hi]
theorem RowStrs.free {w : World} {g : Nat} {ss : List ByteArray} (h : RowStrs w g ss) (i : Nat) : w.frozen? ⟨g, i, none⟩ = false := by
  obtain ⟨cs, h1, h2⟩ := h
  exact h1.free i
theorem RowStrs.at {w : World} {g : Nat} {ss : List ByteArray} (h : RowStrs w g ss) (B : Nat) (hB : g < B) : StrsAt w B (some ⟨g, 0, none⟩) ss := fun i hi => ⟨g, 0, rfl, hB, by rw [Nat.zero_add]; exact h.cell i hi⟩
theorem RowStrs.below {w w' : World} {g B : Nat} {ss : List ByteArray} (h : RowStrs w g ss) (hb : Below B w w') (hg : g < B) : RowStrs w' g ss := by
  obtain ⟨cs, h1, h2⟩ := h
  exact ⟨cs, h1.below hb hg, h2⟩
theorem RowStrs.drewN {w : World} {g : Nat} {ss : List ByteArray} (h : RowStrs w g ss) (k : Nat) : RowStrs (w.drewN k) g ss := h
theorem RowStrs.keep {w w' : World} {g x : Nat} {ss : List ByteArray} (h : RowStrs w g ss) (ho : w.grownBy w' (some x)) (hx : g ≠ x) : RowStrs w' g ss := by
  have hl := h.lt
  obtain ⟨cs, h1, h2⟩ := h
  exact ⟨cs, (ho.block g hl (fun e => hx (Option.some.inj e))).trans h1, h2⟩
theorem RowStrs.of_whole {w : World} {g : Nat} {ss : List ByteArray} (h : Whole1 w g 9 (strVals ss).toArray) : RowStrs w g ss := ⟨_, h, fun i hi => by simp [strVals, hi]⟩
theorem RowStrs.set {w : World} {g : Nat} {ss : List ByteArray} (h : RowStrs w g ss) (j : Nat) (hj : j < ss.length) (s : ByteArray) : RowStrs (w.setCell ⟨g, j, none⟩ (.string s)) g (ss.set j s) := by
  obtain ⟨cs, h1, h2⟩ := h
  refine ⟨_, h1.set j _, fun i hi => ?_⟩
  have hi' : i < ss.length := by simpa using hi
  have hjs : j < cs.size := (Array.getElem?_eq_some_iff.1 (h2 j hj)).1
  rw [Array.getElem?_setIfInBounds]
  by_cases e : j = i
  · subst e
    simp [hjs]
  · rw [if_neg e, h2 i hi', List.getElem_set_ne e]
theorem RowStrs.of_own {w : World} {base n : Nat} {v : Value} {ss : List ByteArray} (h : w.ownsRow base 9 1 v n (strVals ss)) : (v = .slice none 0 0 ∧ ss = []) ∨ ∃ g cap, v = .slice (some ⟨g, 0, none⟩) ss.length cap ∧ base ≤ g ∧ RowStrs w g ss := by
  have hl : ss.length = n := by simpa [strVals] using h.1
  rcases h.2 with ⟨h1, h2⟩ | ⟨g, cap, cur, h1, h2, h3, h4, h5, h6, h7⟩
  · exact .inl ⟨h1, List.length_eq_zero_iff.1 (by omega)⟩
  · refine .inr ⟨g, cap, by rw [h1, hl], h2, cur, h3, fun i hi => ?_⟩
    have : (cur.toList.take (n * 1))[i]? = some (.string ss[i]) := by rw [h7]; simp [strVals, hi]
    rw [List.getElem?_take] at this
    split at this
    · simpa using this
    · cases this
theorem StrsAt.of_own {w : World} {base n : Nat} {v : Value} {ss : List ByteArray} (h : w.ownsRow base 9 1 v n (strVals ss)) : ∃ A c, v = .slice A ss.length c ∧ StrsAt w w.heap.size A ss := by
  rcases RowStrs.of_own h with ⟨rfl, rfl⟩ | ⟨g, cap, rfl, _, h2⟩
  · exact ⟨none, 0, rfl, StrsAt.empty _ _ _⟩
  · exact ⟨_, _, rfl, h2.at _ h2.lt⟩

theorem marked_set (ss : List ByteArray) (k j : Nat) (h : j < ss.length) : (marked ss k j).set j (markB (k + j)) = marked ss k (j + 1) := by
  apply List.ext_getElem?
  intro i
  rw [List.getElem?_set]
  by_cases hi : i < ss.length
  · rw [marked_get ss k j i hi, marked_get ss k (j + 1) i hi, marked_len]
    by_cases e : j = i
    · subst e
      simp [h]
    · by_cases h2 : i < j
      · simp [e, h2, show i < j + 1 by omega]
      · simp [e, h2, show ¬ i < j + 1 by omega]
  · rw [if_neg (by omega), List.getElem?_eq_none (by rw [marked_len]; omega), List.getElem?_eq_none (by rw [marked_len]; omega)]

/-- The row g bears the marks from k on; nothing else that was there has turned. -/
def MarkedRow (w : World) (g k n : Nat) (e : Ending) (w' : World) : Prop :=
  e = .returned (.int .i64 ((k + n : Nat) : Int)) ∧ RowStrs w' g (marks k n) ∧ w.grownBy w' (some g)

end Go.Proofs.YtceclhndagoddaaGreatDoor
end

section
namespace Go.Proofs.YtceclhndagoddaaGreatDoor
open Go.RowKit

inductive Ty where
  | mk (k : Int) (ls : List ByteArray) (ts : List Ty)

def Ty.kind : Ty → Int | .mk k _ _ => k
def Ty.labels : Ty → List ByteArray | .mk _ ls _ => ls
def Ty.args : Ty → List Ty | .mk _ _ ts => ts

theorem Ty.ind {P : Ty → Prop} (h : ∀ k ls (ts : List Ty), (∀ i, (hi : i < ts.length) → P ts[i]) → P (.mk k ls ts)) (t : Ty) : P t :=
  Ty.rec (motive_1 := P) (motive_2 := fun ts => ∀ i, (hi : i < ts.length) → P ts[i]) h (fun i hi => absurd hi (Nat.not_lt_zero i))
    (fun a r ha hr i hi => match i, hi with | 0, _ => ha | i + 1, hi => hr i (Nat.lt_of_succ_lt_succ hi)) t

theorem StrsAt.up' {w w' : World} {A : Option Addr} {ss : List ByteArray} (h : StrsAt w w.heap.size A ss) (hb : Below w.heap.size w w') : StrsAt w' w'.heap.size A ss := (h.below hb).more hb.size

/-- Part j of an aggregate. -/
def partAt (v : Value) (j : Nat) : Option Value := match v with | .agg cs => cs[j]? | _ => none

/-- The slice of address A holds m elements of sz cells, the aggregates vs, below block B. -/
def ElemsAt (sz : Nat) (w : World) (B : Nat) (A : Option Addr) (m : Nat) (vs : Nat → Value) : Prop :=
  ∀ i, i < m → ∃ b off, A = some ⟨b, off, none⟩ ∧ b < B ∧ ∀ j, j < sz → w.cell? ⟨b, off + i * sz + j, none⟩ = partAt (vs i) j
theorem ElemsAt.keep {sz : Nat} {w w' : World} {B m : Nat} {A : Option Addr} {vs : Nat → Value} (h : ElemsAt sz w B A m vs) (hk : ∀ p : Addr, p.block < B → w'.cell? p = w.cell? p) : ElemsAt sz w' B A m vs := fun i hi => by
  obtain ⟨b, off, h1, h2, h3⟩ := h i hi
  exact ⟨b, off, h1, h2, fun j hj => (hk _ h2).trans (h3 j hj)⟩
theorem ElemsAt.more {sz : Nat} {w : World} {B B' m : Nat} {A : Option Addr} {vs : Nat → Value} (h : ElemsAt sz w B A m vs) (hB : B ≤ B') : ElemsAt sz w B' A m vs := fun i hi => by
  obtain ⟨b, off, h1, h2, h3⟩ := h i hi
  exact ⟨b, off, h1, by omega, h3⟩

/-- The value reads as the tree; all that is read lies below block B. -/
inductive TyAt (w : World) (B : Nat) : Value → Ty → Prop where
  | mk {k : Int} {ls : List ByteArray} {ts : List Ty} {L A : Option Addr} {lc ac : Nat} (vs : Nat → Value) (hn : ls.length ≤ maxLen) (hz : ∀ i, (h : i < ls.length) → ls[i].size ≤ maxLen) (hm : ts.length ≤ maxLen) (hls : StrsAt w B L ls) (hes : ElemsAt 3 w B A ts.length vs)
      (hks : ∀ i, (hi : i < ts.length) → TyAt w B (vs i) ts[i]) : TyAt w B (.agg #[.int .i64 k, .slice L ls.length lc, .slice A ts.length ac]) (.mk k ls ts)

theorem TyAt.keep {w w' : World} {B : Nat} {v : Value} {t : Ty} (h : TyAt w B v t) (hk : ∀ p : Addr, p.block < B → w'.cell? p = w.cell? p) : TyAt w' B v t := by
  induction h with
  | mk vs hn hz hm hls hes _ ih => exact .mk vs hn hz hm (hls.keep hk) (hes.keep hk) ih
theorem TyAt.more {w : World} {B B' : Nat} {v : Value} {t : Ty} (h : TyAt w B v t) (hB : B ≤ B') : TyAt w B' v t := by
  induction h with
  | mk vs hn hz hm hls hes _ ih => exact .mk vs hn hz hm (hls.more hB) (hes.more hB) ih
theorem TyAt.lift {w w' : World} {B : Nat} {v : Value} {t : Ty} (h : TyAt w B v t) (hb : Below B w w') : TyAt w' B v t := h.keep fun _ hp => hb.cell hp
theorem TyAt.up {w w' : World} {v : Value} {t : Ty} (h : TyAt w w.heap.size v t) (hb : Below w.heap.size w w') : TyAt w' w'.heap.size v t := (h.lift hb).more hb.size

/-- The slice (A, length, c) reads as the list of trees. -/
def TysAt (w : World) (B : Nat) (A : Option Addr) (ts : List Ty) : Prop := ts.length ≤ maxLen ∧ ∃ vs : Nat → Value, ElemsAt 3 w B A ts.length vs ∧ ∀ i, (hi : i < ts.length) → TyAt w B (vs i) ts[i]
theorem TysAt.keep {w w' : World} {B : Nat} {A : Option Addr} {ts : List Ty} (h : TysAt w B A ts) (hk : ∀ p : Addr, p.block < B → w'.cell? p = w.cell? p) : TysAt w' B A ts := by
  obtain ⟨h0, vs, h1, h2⟩ := h
  exact ⟨h0, vs, h1.keep hk, fun i hi => (h2 i hi).keep hk⟩
theorem TysAt.more {w : World} {B B' : Nat} {A : Option Addr} {ts : List Ty} (h : TysAt w B A ts) (hB : B ≤ B') : TysAt w B' A ts := by
  obtain ⟨h0, vs, h1, h2⟩ := h
  exact ⟨h0, vs, h1.more hB, fun i hi => (h2 i hi).more hB⟩
theorem TysAt.below {w w' : World} {B : Nat} {A : Option Addr} {ts : List Ty} (h : TysAt w B A ts) (hb : Below B w w') : TysAt w' B A ts := h.keep fun _ hp => hb.cell hp
theorem TysAt.up {w w' : World} {A : Option Addr} {ts : List Ty} (h : TysAt w w.heap.size A ts) (hb : Below w.heap.size w w') : TysAt w' w'.heap.size A ts := (h.below hb).more hb.size

/-- What a value that reads as a tree looks like. -/
theorem TyAt.open {w : World} {B : Nat} {v : Value} {t : Ty} (h : TyAt w B v t) : ∃ L lc A ac, v = .agg #[.int .i64 t.kind, .slice L t.labels.length lc, .slice A t.args.length ac] ∧ t.labels.length ≤ maxLen ∧ (∀ i, (h : i < t.labels.length) → t.labels[i].size ≤ maxLen) ∧ StrsAt w B L t.labels ∧ TysAt w B A t.args := by
  cases h with
  | mk vs hn hz hm hls hes hks => exact ⟨_, _, _, _, rfl, hn, hz, hls, hm, vs, hes, hks⟩
theorem TyAt.of {w : World} {B lc ac : Nat} {L A : Option Addr} {t : Ty} (hn : t.labels.length ≤ maxLen) (hz : ∀ i, (h : i < t.labels.length) → t.labels[i].size ≤ maxLen) (hl : StrsAt w B L t.labels) (ha : TysAt w B A t.args) : TyAt w B (.agg #[.int .i64 t.kind, .slice L t.labels.length lc, .slice A t.args.length ac]) t := by
  obtain ⟨h0, vs, h1, h2⟩ := ha
  cases t
  exact .mk vs hn hz h0 hl h1 h2

/-- Element i of a list of trees: its three cells. -/
theorem TysAt.elem {w : World} {B : Nat} {A : Option Addr} {ts : List Ty} (h : TysAt w B A ts) (i : Nat) (hi : i < ts.length) :
    ∃ b off L lc A' ac, A = some ⟨b, off, none⟩ ∧ b < B ∧ w.cell? ⟨b, off + i * 3, none⟩ = some (.int .i64 ts[i].kind) ∧ w.cell? ⟨b, off + i * 3 + 1, none⟩ = some (.slice L ts[i].labels.length lc) ∧
      w.cell? ⟨b, off + i * 3 + 2, none⟩ = some (.slice A' ts[i].args.length ac) ∧ ts[i].labels.length ≤ maxLen ∧ (∀ j, (h : j < ts[i].labels.length) → ts[i].labels[j].size ≤ maxLen) ∧ StrsAt w B L ts[i].labels ∧ TysAt w B A' ts[i].args ∧ TyAt w B (.agg #[.int .i64 ts[i].kind, .slice L ts[i].labels.length lc, .slice A' ts[i].args.length ac]) ts[i] := by
  obtain ⟨h0, vs, h1, h2⟩ := h
  obtain ⟨b, off, e, hb, hc⟩ := h1 i hi
  have ht := h2 i hi
  obtain ⟨L, lc, A', ac, hv, hn, hz, hl, ha⟩ := ht.open
  rw [hv] at hc ht
  exact ⟨b, off, L, lc, A', ac, e, hb, hc 0 (by omega), hc 1 (by omega), hc 2 (by omega), hn, hz, hl, ha, ht⟩

mutual
/-- What the law counts of a tree: its labels, their letters, its parts. -/
def szTy : Ty → Nat | .mk _ ls ts => ls.length + sumSizes ls + szTys ts
def szTys : List Ty → Nat | [] => 0 | t :: r => 1 + szTy t + szTys r
end
theorem szTys_append : ∀ (a b : List Ty), szTys (a ++ b) = szTys a + szTys b
  | [], b => by simp [szTys]
  | t :: a, b => by
    rw [List.cons_append, szTys, szTys, szTys_append a b]
    omega
theorem szTys_take (ts : List Ty) (k : Nat) (h : k < ts.length) : szTys (ts.take (k + 1)) = szTys (ts.take k) + 1 + szTy ts[k] := by
  rw [List.take_succ_eq_append_getElem h, szTys_append, szTys, szTys]
  omega
theorem szTys_len : ∀ (ts : List Ty), ts.length ≤ szTys ts
  | [] => Nat.le_refl _
  | t :: r => by
    have := szTys_len r
    rw [szTys, List.length_cons]
    omega
theorem szTys_le (ts : List Ty) (k : Nat) : szTys (ts.take k) + (ts.length - k) ≤ szTys ts := by
  have h := szTys_append (ts.take k) (ts.drop k)
  have h2 := szTys_len (ts.drop k)
  rw [List.take_append_drop] at h
  rw [List.length_drop] at h2
  omega
theorem szTy_part (ts : List Ty) (k : Nat) (h : k < ts.length) : szTy ts[k] + 1 ≤ szTys ts := by
  have h1 := szTys_take ts k h
  have h2 := szTys_le ts (k + 1)
  omega
theorem szTy_eq (t : Ty) : szTy t = t.labels.length + sumSizes t.labels + szTys t.args := by
  cases t
  rw [szTy]
  rfl

end Go.Proofs.YtceclhndagoddaaGreatDoor

namespace Go.Proofs.YtceclhndagoddaaGreatDoor
open Go.RowKit

/-- Block g is a row whose first cells are m elements of sz cells, the aggregates vs. -/
def ElemRow (sz : Nat) (t : TypeId) (w : World) (g m : Nat) (vs : Nat → Value) : Prop := ∃ cs : Array Value, Whole1 w g t cs ∧ ∀ i, i < m → ∀ j, j < sz → (partAt (vs i) j).isSome = true ∧ cs[i * sz + j]? = partAt (vs i) j
theorem ElemRow.lt {sz : Nat} {t : TypeId} {w : World} {g m : Nat} {vs : Nat → Value} (h : ElemRow sz t w g m vs) : g < w.heap.size := by
  obtain ⟨cs, h1, _⟩ := h
  exact h1.lt
theorem ElemRow.cell {sz : Nat} {t : TypeId} {w : World} {g m : Nat} {vs : Nat → Value} (h : ElemRow sz t w g m vs) (i j : Nat) (hi : i < m) (hj : j < sz) : w.cell? ⟨g, i * sz + j, none⟩ = partAt (vs i) j := by
  obtain ⟨cs, h1, h2⟩ := h
  rw [h1.cell, (h2 i hi j hj).2]
theorem ElemRow.free {sz : Nat} {t : TypeId} {w : World} {g m : Nat} {vs : Nat → Value} (h : ElemRow sz t w g m vs) (i : Nat) : w.frozen? ⟨g, i, none⟩ = false := by
  obtain ⟨cs, h1, _⟩ := h
  exact h1.free i
theorem ElemRow.keep {sz : Nat} {t : TypeId} {w w' : World} {g m : Nat} {vs : Nat → Value} (h : ElemRow sz t w g m vs) (hk : w'.heap[g]? = w.heap[g]?) : ElemRow sz t w' g m vs := by
  obtain ⟨cs, h1, h2⟩ := h
  exact ⟨cs, hk.trans h1, h2⟩
theorem ElemRow.at {sz : Nat} {t : TypeId} {w : World} {g m : Nat} {vs : Nat → Value} (h : ElemRow sz t w g m vs) (B : Nat) (hB : g < B) : ElemsAt sz w B (some ⟨g, 0, none⟩) m vs := fun i hi => ⟨g, 0, rfl, hB, fun j hj => by rw [Nat.zero_add]; exact h.cell i j hi hj⟩
theorem RowStrs.same {w w' : World} {g : Nat} {ss : List ByteArray} (h : RowStrs w g ss) (hk : w'.heap[g]? = w.heap[g]?) : RowStrs w' g ss := by
  obtain ⟨cs, h1, h2⟩ := h
  exact ⟨cs, hk.trans h1, h2⟩

/-- The value reads as the tree; its blocks are all in S, no two of its slices share one. -/
inductive TyIn (w : World) : (Nat → Prop) → Value → Ty → Prop where
  | mk {S : Nat → Prop} {k : Int} {ls : List ByteArray} {ts : List Ty} {L A : Option Addr} {lc ac : Nat} (gl ga : Nat) (vs : Nat → Value) (Ss : Nat → Nat → Prop)
      (hn : ls.length ≤ maxLen) (hz : ∀ i, (h : i < ls.length) → ls[i].size ≤ maxLen) (hm : ts.length ≤ maxLen)
      (hls : ls = [] ∨ L = some ⟨gl, 0, none⟩ ∧ S gl ∧ RowStrs w gl ls) (hes : ts = [] ∨ A = some ⟨ga, 0, none⟩ ∧ S ga ∧ ElemRow 3 58 w ga ts.length vs) (hne : gl ≠ ga)
      (hsub : ∀ i, i < ts.length → ∀ b, Ss i b → S b ∧ b ≠ gl ∧ b ≠ ga) (hdis : ∀ i j, i < ts.length → j < ts.length → i ≠ j → ∀ b, Ss i b → ¬ Ss j b)
      (hks : ∀ i, (hi : i < ts.length) → TyIn w (Ss i) (vs i) ts[i]) : TyIn w S (.agg #[.int .i64 k, .slice L ls.length lc, .slice A ts.length ac]) (.mk k ls ts)

theorem TyIn.keep {w w' : World} {S : Nat → Prop} {v : Value} {t : Ty} (h : TyIn w S v t) (hk : ∀ b, S b → b < w.heap.size → w'.heap[b]? = w.heap[b]?) : TyIn w' S v t := by
  induction h with
  | mk gl ga vs Ss hn hz hm hls hes hne hsub hdis _ ih =>
    refine .mk gl ga vs Ss hn hz hm (hls.imp id fun ⟨h1, h2, h3⟩ => ⟨h1, h2, h3.same (hk _ h2 h3.lt)⟩) (hes.imp id fun ⟨h1, h2, h3⟩ => ⟨h1, h2, h3.keep (hk _ h2 h3.lt)⟩) hne hsub hdis fun i hi => ih i hi fun b hb => hk b (hsub i hi b hb).1
theorem TyIn.wide {w : World} {S S' : Nat → Prop} {v : Value} {t : Ty} (h : TyIn w S v t) (hS : ∀ b, S b → S' b) : TyIn w S' v t := by
  cases h with
  | mk gl ga vs Ss hn hz hm hls hes hne hsub hdis hks =>
    exact .mk gl ga vs Ss hn hz hm (hls.imp id fun ⟨h1, h2, h3⟩ => ⟨h1, hS _ h2, h3⟩) (hes.imp id fun ⟨h1, h2, h3⟩ => ⟨h1, hS _ h2, h3⟩) hne (fun i hi b hb => ⟨hS _ (hsub i hi b hb).1, (hsub i hi b hb).2⟩) hdis hks
theorem TyIn.at {w : World} {S : Nat → Prop} {v : Value} {t : Ty} (h : TyIn w S v t) (B : Nat) (hB : ∀ b, S b → b < w.heap.size → b < B) : TyAt w B v t := by
  induction h with
  | @mk S k ls ts L A lc ac gl ga vs Ss hn hz hm hls hes hne hsub hdis _ ih =>
    refine .mk vs hn hz hm ?_ ?_ fun i hi => ih i hi fun b hb => hB b (hsub i hi b hb).1
    · rcases hls with rfl | ⟨rfl, h2, h3⟩
      · exact StrsAt.empty _ _ _
      · exact h3.at _ (hB _ h2 h3.lt)
    · rcases hes with rfl | ⟨rfl, h2, h3⟩
      · exact fun i hi => absurd hi (by simp)
      · exact h3.at _ (hB _ h2 h3.lt)
theorem TyIn.here {w : World} {S : Nat → Prop} {v : Value} {t : Ty} (h : TyIn w S v t) : TyAt w w.heap.size v t := h.at _ fun _ _ h => h

/-- The slice (A, length, c) reads as the list of trees; its blocks are all in S. -/
def TysIn (w : World) (S : Nat → Prop) (A : Option Addr) (ts : List Ty) : Prop :=
  ts.length ≤ maxLen ∧ ∃ (ga : Nat) (vs : Nat → Value) (Ss : Nat → Nat → Prop), (ts = [] ∨ A = some ⟨ga, 0, none⟩ ∧ S ga ∧ ElemRow 3 58 w ga ts.length vs) ∧
    (∀ i, i < ts.length → ∀ b, Ss i b → S b ∧ b ≠ ga) ∧ (∀ i j, i < ts.length → j < ts.length → i ≠ j → ∀ b, Ss i b → ¬ Ss j b) ∧ ∀ i, (hi : i < ts.length) → TyIn w (Ss i) (vs i) ts[i]
theorem TysIn.at {w : World} {S : Nat → Prop} {A : Option Addr} {ts : List Ty} (h : TysIn w S A ts) (B : Nat) (hB : ∀ b, S b → b < w.heap.size → b < B) : TysAt w B A ts := by
  obtain ⟨h0, ga, vs, Ss, h1, h2, h3, h4⟩ := h
  refine ⟨h0, vs, ?_, fun i hi => (h4 i hi).at B fun b hb => hB b (h2 i hi b hb).1⟩
  rcases h1 with rfl | ⟨rfl, h5, h6⟩
  · exact fun i hi => absurd hi (by simp)
  · exact h6.at _ (hB _ h5 h6.lt)
theorem TysIn.here {w : World} {S : Nat → Prop} {A : Option Addr} {ts : List Ty} (h : TysIn w S A ts) : TysAt w w.heap.size A ts := h.at _ fun _ _ h => h
theorem TysIn.keep {w w' : World} {S : Nat → Prop} {A : Option Addr} {ts : List Ty} (h : TysIn w S A ts) (hk : ∀ b, S b → b < w.heap.size → w'.heap[b]? = w.heap[b]?) : TysIn w' S A ts := by
  obtain ⟨h0, ga, vs, Ss, h1, h2, h3, h4⟩ := h
  exact ⟨h0, ga, vs, Ss, h1.imp id fun ⟨a, b, c⟩ => ⟨a, b, c.keep (hk _ b c.lt)⟩, h2, h3, fun i hi => (h4 i hi).keep fun b hb => hk b (h2 i hi b hb).1⟩

/-- A tree of labels and parts that lie apart. -/
theorem TyIn.of {w : World} {S Sa : Nat → Prop} {L A : Option Addr} {lc ac gl : Nat} {t : Ty} (hn : t.labels.length ≤ maxLen) (hz : ∀ i, (h : i < t.labels.length) → t.labels[i].size ≤ maxLen)
    (hl : t.labels = [] ∨ L = some ⟨gl, 0, none⟩ ∧ S gl ∧ RowStrs w gl t.labels) (ha : TysIn w Sa A t.args) (hs : ∀ b, Sa b → S b ∧ b ≠ gl) :
    TyIn w S (.agg #[.int .i64 t.kind, .slice L t.labels.length lc, .slice A t.args.length ac]) t := by
  obtain ⟨h0, ga, vs, Ss, h1, h2, h3, h4⟩ := ha
  cases t with
  | mk k ls ts =>
    simp only [Ty.labels, Ty.args, Ty.kind] at *
    rcases h1 with rfl | ⟨rfl, h5, h6⟩
    · exact .mk gl (gl + 1) vs Ss hn hz h0 hl (.inl rfl) (by omega) (fun i hi => absurd hi (by simp)) (fun i _ hi => absurd hi (by simp)) h4
    · exact .mk gl ga vs Ss hn hz h0 hl (.inr ⟨rfl, (hs _ h5).1, h6⟩) (fun e => (hs _ h5).2 e.symm) (fun i hi b hb => ⟨(hs _ (h2 i hi b hb).1).1, (hs _ (h2 i hi b hb).1).2, (h2 i hi b hb).2⟩) h3 h4
theorem TyIn.open {w : World} {S : Nat → Prop} {v : Value} {t : Ty} (h : TyIn w S v t) :
    ∃ L lc A ac gl, v = .agg #[.int .i64 t.kind, .slice L t.labels.length lc, .slice A t.args.length ac] ∧ t.labels.length ≤ maxLen ∧ (∀ i, (h : i < t.labels.length) → t.labels[i].size ≤ maxLen) ∧
      (t.labels = [] ∨ L = some ⟨gl, 0, none⟩ ∧ S gl ∧ RowStrs w gl t.labels) ∧ TysIn w (fun b => S b ∧ b ≠ gl) A t.args := by
  cases h with
  | mk gl ga vs Ss hn hz hm hls hes hne hsub hdis hks =>
    exact ⟨_, _, _, _, gl, rfl, hn, hz, hls, hm, ga, vs, Ss, hes.imp id fun ⟨a, b, c⟩ => ⟨a, ⟨b, fun e => hne e.symm⟩, c⟩, fun i hi b hb => ⟨⟨(hsub i hi b hb).1, (hsub i hi b hb).2.1⟩, (hsub i hi b hb).2.2⟩, hdis, hks⟩

/-- The blocks from lo on, below hi. -/
def Span (lo hi b : Nat) : Prop := lo ≤ b ∧ b < hi

end Go.Proofs.YtceclhndagoddaaGreatDoor
end
