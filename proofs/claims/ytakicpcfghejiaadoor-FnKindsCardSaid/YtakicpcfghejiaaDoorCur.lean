/- The cursor of the draws: l1New, l1Byte, l1Below, l1Pick. -/
import Derived.Test.YtakicpcfghejiaaDoorProg
import Derived.Test.YtakicpcfghejiaaDoorAppend
import Derived.Laws.BitsAllLaws
import Derived.BigGuard
namespace Go.Proofs.YtakicpcfghejiaaDoor
open Go.RowKit

/-- The slice of address A holds n bytes, below block B. -/
def BytesAt (w : World) (B : Nat) (A : Option Addr) (n : Nat) : Prop :=
  ∀ i, i < n → ∃ b off x, A = some ⟨b, off, none⟩ ∧ b < B ∧ w.cell? ⟨b, off + i, none⟩ = some (.int .u8 x) ∧ 0 ≤ x ∧ x ≤ 255
theorem BytesAt.keep {w w' : World} {B n : Nat} {A : Option Addr} (h : BytesAt w B A n) (hk : ∀ p : Addr, p.block < B → w'.cell? p = w.cell? p) : BytesAt w' B A n := fun i hi => by
  obtain ⟨b, off, x, h1, h2, h3, h4⟩ := h i hi
  exact ⟨b, off, x, h1, h2, (hk _ h2).trans h3, h4⟩
theorem BytesAt.below {w w' : World} {B n : Nat} {A : Option Addr} (h : BytesAt w B A n) (hb : Below B w w') : BytesAt w' B A n := h.keep fun _ hp => hb.cell hp

theorem BytesAt.keepMore {w : World} {B B' n : Nat} {A : Option Addr} (h : BytesAt w B A n) (hB : B ≤ B') : BytesAt w B' A n := fun i hi => by
  obtain ⟨b, off, x, h1, h2, h3⟩ := h i hi
  exact ⟨b, off, x, h1, by omega, h3⟩

/-- The cursor lies in block p. -/
def CurAt (w : World) (B p : Nat) : Prop :=
  ∃ A n cap i h, Whole1 w p 42 #[.slice A n cap, .int .i64 ((i : Nat) : Int), .int .i64 h] ∧ i ≤ n ∧ n ≤ maxLen ∧ BytesAt w B A n ∧ B ≤ p
theorem CurAt.lt {w : World} {B p : Nat} (h : CurAt w B p) : p < w.heap.size := by
  obtain ⟨A, n, cap, i, h, h1, _⟩ := h
  exact h1.lt
theorem CurAt.low {w : World} {B p : Nat} (h : CurAt w B p) : B ≤ p := by
  obtain ⟨A, n, cap, i, h, h1, _, _, _, h2⟩ := h
  exact h2
theorem CurAt.below {w w' : World} {B p : Nat} (h : CurAt w B p) (hb : Below w.heap.size w w') : CurAt w' B p := by
  have hl := h.lt
  obtain ⟨A, n, cap, i, x, h1, h2, h3, h4, h5⟩ := h
  exact ⟨A, n, cap, i, x, h1.below hb h1.lt, h2, h3, h4.below (hb.mono (by omega)), h5⟩

theorem and255 (x : Int) : 0 ≤ bits .and .i64 x 255 ∧ bits .and .i64 x 255 ≤ 255 := by
  have h : ((BitVec.ofInt 64 x) &&& (BitVec.ofInt 64 255)).toNat ≤ 255 := by
    rw [BitVec.toNat_and]
    exact Nat.and_le_right
  show 0 ≤ IntKind.i64.wrap (((BitVec.ofInt 64 x) &&& (BitVec.ofInt 64 255)).toNat : Int) ∧ IntKind.i64.wrap (((BitVec.ofInt 64 x) &&& (BitVec.ofInt 64 255)).toNat : Int) ≤ 255
  rw [IntKind.wrap_i64]
  omega

/-- A number from 0 to m is handed back; only the cursor has turned. -/
def Drawn (w : World) (B p : Nat) (m : Int) (e : Ending) (w' : World) : Prop :=
  (∃ x : Int, e = .returned (.int .i64 x) ∧ 0 ≤ x ∧ x ≤ m) ∧ CurAt w' B p ∧ w.grownBy w' (some p)

set_option maxHeartbeats 1000000 in
theorem l1Byte_any (p B : Nat) (w : World) (hc : CurAt w B p) :
    Calls Tryd.prog 25 #[.pointer (some ⟨p, 0, none⟩)] w (Drawn w B p 255) := by
  obtain ⟨A, n, cap, i, h, hw, hi, hn, hby, hB⟩ := hc
  have c0 : w.cell? ⟨p, 0, none⟩ = some (.slice A n cap) := hw.cell 0
  have c1 : w.cell? ⟨p, 1, none⟩ = some (.int .i64 (i : Int)) := hw.cell 1
  have c2 : w.cell? ⟨p, 2, none⟩ = some (.int .i64 h) := hw.cell 2
  have f2 : w.frozen? ⟨p, 2, none⟩ = false := hw.free 2
  have f1 : w.frozen? ⟨p, 1, none⟩ = false := hw.free 1
  unfold maxLen at hn
  by_cases hlt : i < n
  · obtain ⟨b, off, x, rfl, hb, hx, hx0, hx1⟩ := hby i hlt
    have hcb : ∀ v, (w.setCell ⟨p, 2, none⟩ v).cell? ⟨b, off + i, none⟩ = some (.int .u8 x) := fun v => (World.cell?_setCell_other w ⟨p, 2, none⟩ ⟨b, off + i, none⟩ v (fun e => by injection e with e; omega)).trans hx
    have hltI : (i : Int) < (n : Int) := by omega
    have HW := Lib.hid hw
    have HY := Lib.hid hby
    clear hw hby hx
    go_enter Tryd.func25, Tryd.ntmps25
    go_wp2
    go_quiet (fail)
    go_wp2
    go_quiet (fail)
    go_wp2
    go_quiet (fail)
    go_wp2
    go_ret
    refine ⟨⟨_, rfl, (and255 _).1, (and255 _).2⟩, ⟨some ⟨b, off, none⟩, n, cap, i + 1, _, ((HW.out.set 2 _).drewN _).set 1 _, by omega, by unfold maxLen; omega, HY.out.keep fun q hq => ?_, hB⟩, only_set (only_drewN (only_set (only_refl _ _) 2 _) _) 1 _⟩
    have e2 : (⟨p, 2, none⟩ : Addr) ≠ q := fun e => by subst e; simp at hq; omega
    have e1 : (⟨p, 1, none⟩ : Addr) ≠ q := fun e => by subst e; simp at hq; omega
    exact (World.cell?_setCell_other _ ⟨p, 1, none⟩ q _ e1).trans (World.cell?_setCell_other w ⟨p, 2, none⟩ q _ e2)
  · have hltI : ¬ (i : Int) < (n : Int) := by omega
    have HW := Lib.hid hw
    have HY := Lib.hid hby
    clear hw hby
    go_enter Tryd.func25, Tryd.ntmps25
    go_wp2
    go_quiet (fail)
    go_wp2
    go_quiet (fail)
    go_wp2
    go_ret
    refine ⟨⟨_, rfl, (and255 _).1, (and255 _).2⟩, ⟨A, n, cap, i, _, ((HW.out.set 2 _).drewN _).drewN _, hi, by unfold maxLen; omega, HY.out.keep fun q hq => World.cell?_setCell_other w ⟨p, 2, none⟩ q _ (fun e => by subst e; simp at hq; omega), hB⟩, only_drewN (only_drewN (only_set (only_refl _ _) 2 _) _) _⟩

theorem mod_bounds (x n : Int) (hn : 0 < n) : 0 ≤ x % n ∧ x % n ≤ n - 1 := by
  have h1 := Int.emod_nonneg x (show n ≠ 0 by omega)
  have h2 := Int.emod_lt_of_pos x hn
  omega

set_option maxHeartbeats 1000000 in
theorem l1Below_any (p B : Nat) (n : Int) (w : World) (hc : CurAt w B p) (hn : 1 ≤ n) (hn2 : n ≤ 2 ^ 40) :
    Calls Tryd.prog 21 #[.pointer (some ⟨p, 0, none⟩), .int .i64 n] w (Drawn w B p (n - 1)) := by
  have hn0 : ¬ n ≤ 0 := by omega
  by_cases h256 : n ≤ 256
  · have h1 := Lib.hid (l1Byte_any p B w hc)
    clear hc
    go_enter Tryd.func21, Tryd.ntmps21
    go_wp2_with fail
    refine h1.out.mono ?_
    rintro e w1 ⟨⟨x, rfl, hx0, hx1⟩, hc1, ho1⟩
    have hm := mod_bounds x n (by omega)
    have hnz : (n == 0) = false := by rw [beq_eq_false_iff_ne]; omega
    go_wp2
    go_ret
    exact ⟨⟨_, rfl, hm.1, hm.2⟩, hc1, ho1⟩
  · have h1 := Lib.hid (fun W h => l1Byte_any p B W h)
    go_enter Tryd.func21, Tryd.ntmps21
    go_wp2_with fail
    refine (h1.out w hc).mono ?_
    rintro e w1 ⟨⟨x, rfl, hx0, hx1⟩, hc1, ho1⟩
    go_wp2_with fail
    refine (h1.out w1 hc1).mono ?_
    rintro e w2 ⟨⟨y, rfl, hy0, hy1⟩, hc2, ho2⟩
    go_wp2_with fail
    refine (h1.out w2 hc2).mono ?_
    rintro e w3 ⟨⟨z, rfl, hz0, hz1⟩, hc3, ho3⟩
    go_wp2_with fail
    refine (h1.out w3 hc3).mono ?_
    rintro e w4 ⟨⟨u, rfl, hu0, hu1⟩, hc4, ho4⟩
    have hm := mod_bounds (x * 16777216 + y * 65536 + z * 256 + u) n (by omega)
    have hnz : (n == 0) = false := by rw [beq_eq_false_iff_ne]; omega
    go_wp2
    go_ret
    exact ⟨⟨_, rfl, hm.1, hm.2⟩, hc4, only_trans (only_trans (only_trans ho1 ho2) ho3) ho4⟩

/-- Below 0 nothing is drawn. -/
theorem l1Below_none (p : Nat) (n : Int) (w : World) (hn : n ≤ 0) :
    Calls Tryd.prog 21 #[.pointer (some ⟨p, 0, none⟩), .int .i64 n] w fun e w' => e = .returned (.int .i64 0) ∧ w = w' := by
  go_enter Tryd.func21, Tryd.ntmps21
  go_wp2
  go_ret
  exact ⟨rfl, rfl⟩

/-- One of the strings is handed back; only the cursor has turned. -/
def DrawnStr (w : World) (B p : Nat) (ss : List ByteArray) (e : Ending) (w' : World) : Prop :=
  (∃ x : ByteArray, e = .returned (.string x) ∧ x ∈ ss) ∧ CurAt w' B p ∧ w.grownBy w' (some p)

/-- A new cursor. -/
def NewCur (w : World) (e : Ending) (w' : World) : Prop :=
  ∃ p, e = .returned (.pointer (some ⟨p, 0, none⟩)) ∧ CurAt w' w.heap.size p ∧ Below w.heap.size w w'

set_option maxHeartbeats 1000000 in
theorem l1New_any (A : Option Addr) (n cap : Nat) (w : World) (hA : BytesAt w w.heap.size A n) (hn : n ≤ 2 ^ 47) :
    Calls Tryd.prog 22 #[.slice A n cap] w (NewCur w) := by
  go_enter Tryd.func22, Tryd.ntmps22
  go_wp2
  go_loop [3, 4] (fun h i => ∃ (k : Nat) (x : Int), k ≤ n ∧ i = .int .i64 k ∧ h = .int .i64 x) (fun _ i => n - (intOf i).toNat)
  case atStart => exact ⟨0, _, Nat.zero_le _, rfl, rfl⟩
  case round =>
    obtain ⟨k, x, hk, rfl, rfl⟩ := hrel
    by_cases hlt : k < n
    · by_cases h4 : k < 4000
      · obtain ⟨b, off, y, rfl, hb, hy, hy0, hy1⟩ := hA k hlt
        have HA := Lib.hid hA
        clear hA
        have hltI : (k : Int) < (n : Int) := by omega
        have h4I : (k : Int) < 4000 := by omega
        go_wp2
        go_round
        case rel => exact ⟨k + 1, _, by omega, by go_num, rfl⟩
        case measure => simp [intOf]; omega
      · have hltI : (k : Int) < (n : Int) := by omega
        have h4I : ¬ (k : Int) < 4000 := by omega
        go_wp2
        go_ret
        exact ⟨w.heap.size, rfl, ⟨A, n, cap, 0, x, Whole1.new _ _ _, Nat.zero_le _, by unfold maxLen; omega, hA.below ((Below.refl _ _).alloc (Nat.le_refl _) _), Nat.le_refl _⟩, (Below.refl _ _).alloc (Nat.le_refl _) _⟩
    · have hltI : ¬ (k : Int) < (n : Int) := by omega
      go_wp2
      go_ret
      exact ⟨w.heap.size, rfl, ⟨A, n, cap, 0, x, Whole1.new _ _ _, Nat.zero_le _, by unfold maxLen; omega, hA.below ((Below.refl _ _).alloc (Nat.le_refl _) _), Nat.le_refl _⟩, (Below.refl _ _).alloc (Nat.le_refl _) _⟩

end Go.Proofs.YtakicpcfghejiaaDoor
