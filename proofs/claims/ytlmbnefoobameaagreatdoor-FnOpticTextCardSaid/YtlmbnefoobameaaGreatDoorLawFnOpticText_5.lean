/- Lemmas: Cur, OpenBytes, OGather, PickInt, SpecNames. -/
import Derived.Test.YtlmbnefoobameaaGreatDoorProg
import Derived.Test.YtlmbnefoobameaaGreatDoorLawFnOpticText_1
import Derived.Laws.BitsAllLaws
import Derived.BigGuard
import Derived.Test.YtlmbnefoobameaaGreatDoorLawFnOpticText_3
import Derived.WalkLawsBesides

section
namespace Go.Proofs.YtlmbnefoobameaaGreatDoor
open Go.RowKit

/-- The slice of address A holds n bytes, below block B. -/
def BytesAt (w : World) (B : Nat) (A : Option Addr) (n : Nat) : Prop :=
  ∀ i, i < n → ∃ b off x, A = some ⟨b, off, none⟩ ∧ b < B ∧ w.cell? ⟨b, off + i, none⟩ = some (.int .u8 x) ∧ 0 ≤ x ∧ x ≤ 255
theorem BytesAt.keep {w w' : World} {B n : Nat} {A : Option Addr} (h : BytesAt w B A n) (hk : ∀ p : Addr, p.block < B → w'.cell? p = w.cell? p) : BytesAt w' B A n := fun i hi => by
  obtain ⟨b, off, x, h1, h2, h3, h4⟩ := h i hi
  exact ⟨b, off, x, h1, h2, (hk _ h2).trans h3, h4⟩
theorem BytesAt.below {w w' : World} {B n : Nat} {A : Option Addr} (h : BytesAt w B A n) (hb : Below B w w') : BytesAt w' B A n := h.keep fun _ hp => hb.cell hp

theorem BytesAt.keepMore {w : World} {B B' n : Nat} {A : Option Addr} (h : BytesAt w B A n) (hB : B ≤ B') : BytesAt w B' A n := fun i hi => by
  obtain ⟨b, off, x, h1, h2, h3⟩ := h i hi
  exact ⟨b, off, x, h1, by omega, h3⟩

/-- The cursor lies in block p. -/
def CurAt (w : World) (B p : Nat) : Prop :=
  ∃ A n cap i h, Whole1 w p 60 #[.slice A n cap, .int .i64 ((i : Nat) : Int), .int .i64 h] ∧ i ≤ n ∧ n ≤ maxLen ∧ BytesAt w B A n ∧ B ≤ p
theorem CurAt.lt {w : World} {B p : Nat} (h : CurAt w B p) : p < w.heap.size := by
  obtain ⟨A, n, cap, i, h, h1, _⟩ := h
  exact h1.lt
theorem CurAt.low {w : World} {B p : Nat} (h : CurAt w B p) : B ≤ p := by
  obtain ⟨A, n, cap, i, h, h1, _, _, _, h2⟩ := h
  exact h2
theorem CurAt.below {w w' : World} {B p : Nat} (h : CurAt w B p) (hb : Below w.heap.size w w') : CurAt w' B p := by
  have hl := h.lt
  obtain ⟨A, n, cap, i, x, h1, h2, h3, h4, h5⟩ := h
  exact ⟨A, n, cap, i, x, h1.below hb h1.lt, h2, h3, h4.below (hb.mono (by omega)), h5⟩

theorem and255 (x : Int) : 0 ≤ bits .and .i64 x 255 ∧ bits .and .i64 x 255 ≤ 255 := by
  have h : ((BitVec.ofInt 64 x) &&& (BitVec.ofInt 64 255)).toNat ≤ 255 := by
    rw [BitVec.toNat_and]
    exact Nat.and_le_right
  show 0 ≤ IntKind.i64.wrap (((BitVec.ofInt 64 x) &&& (BitVec.ofInt 64 255)).toNat : Int) ∧ IntKind.i64.wrap (((BitVec.ofInt 64 x) &&& (BitVec.ofInt 64 255)).toNat : Int) ≤ 255
  rw [IntKind.wrap_i64]
  omega

/-- A number from 0 to m is handed back; only the cursor has turned. -/
def Drawn (w : World) (B p : Nat) (m : Int) (e : Ending) (w' : World) : Prop :=
  (∃ x : Int, e = .returned (.int .i64 x) ∧ 0 ≤ x ∧ x ≤ m) ∧ CurAt w' B p ∧ w.grownBy w' (some p)

set_option maxHeartbeats 1000000 in
theorem l1Byte_any (p B : Nat) (w : World) (hc : CurAt w B p) :
    Calls Tryz.prog 60 #[.pointer (some ⟨p, 0, none⟩)] w (Drawn w B p 255) := by
  obtain ⟨A, n, cap, i, h, hw, hi, hn, hby, hB⟩ := hc
  have c0 : w.cell? ⟨p, 0, none⟩ = some (.slice A n cap) := hw.cell 0
  have c1 : w.cell? ⟨p, 1, none⟩ = some (.int .i64 (i : Int)) := hw.cell 1
  have c2 : w.cell? ⟨p, 2, none⟩ = some (.int .i64 h) := hw.cell 2
  have f2 : w.frozen? ⟨p, 2, none⟩ = false := hw.free 2
  have f1 : w.frozen? ⟨p, 1, none⟩ = false := hw.free 1
  unfold maxLen at hn
  by_cases hlt : i < n
  · obtain ⟨b, off, x, rfl, hb, hx, hx0, hx1⟩ := hby i hlt
    have hcb : ∀ v, (w.setCell ⟨p, 2, none⟩ v).cell? ⟨b, off + i, none⟩ = some (.int .u8 x) := fun v => (World.cell?_setCell_other w ⟨p, 2, none⟩ ⟨b, off + i, none⟩ v (fun e => by injection e with e; omega)).trans hx
    have hltI : (i : Int) < (n : Int) := by omega
    have HW := Lib.hid hw
    have HY := Lib.hid hby
    clear hw hby hx
    go_enter Tryz.func60, Tryz.ntmps60
    go_wp2
    go_quiet (fail)
    go_wp2
    go_quiet (fail)
    go_wp2
    go_quiet (fail)
    go_wp2
    go_ret
    refine ⟨⟨_, rfl, (and255 _).1, (and255 _).2⟩, ⟨some ⟨b, off, none⟩, n, cap, i + 1, _, ((HW.out.set 2 _).drewN _).set 1 _, by omega, by unfold maxLen; omega, HY.out.keep fun q hq => ?_, hB⟩, only_set (only_drewN (only_set (only_refl _ _) 2 _) _) 1 _⟩
    have e2 : (⟨p, 2, none⟩ : Addr) ≠ q := fun e => by subst e; simp at hq; omega
    have e1 : (⟨p, 1, none⟩ : Addr) ≠ q := fun e => by subst e; simp at hq; omega
    exact (World.cell?_setCell_other _ ⟨p, 1, none⟩ q _ e1).trans (World.cell?_setCell_other w ⟨p, 2, none⟩ q _ e2)
  · have hltI : ¬ (i : Int) < (n : Int) := by omega
    have HW := Lib.hid hw
    have HY := Lib.hid hby
    clear hw hby
    go_enter Tryz.func60, Tryz.ntmps60
    go_wp2
    go_quiet (fail)
    go_wp2
    go_quiet (fail)
    go_wp2
    go_ret
    refine ⟨⟨_, rfl, (and255 _).1, (and255 _).2⟩, ⟨A, n, cap, i, _, ((HW.out.set 2 _).drewN _).drewN _, hi, by unfold maxLen; omega, HY.out.keep fun q hq => World.cell?_setCell_other w ⟨p, 2, none⟩ q _ (fun e => by subst e; simp at hq; omega), hB⟩, only_drewN (only_drewN (only_set (only_refl _ _) 2 _) _) _⟩

theorem mod_bounds (x n : Int) (hn : 0 < n) : 0 ≤ x % n ∧ x % n ≤ n - 1 := by
  have h1 := Int.emod_nonneg x (show n ≠ 0 by omega)
  have h2 := Int.emod_lt_of_pos x hn
  omega

set_option maxHeartbeats 1000000 in
theorem l1Below_any (p B : Nat) (n : Int) (w : World) (hc : CurAt w B p) (hn : 1 ≤ n) (hn2 : n ≤ 2 ^ 40) :
    Calls Tryz.prog 29 #[.pointer (some ⟨p, 0, none⟩), .int .i64 n] w (Drawn w B p (n - 1)) := by
  have hn0 : ¬ n ≤ 0 := by omega
  by_cases h256 : n ≤ 256
  · have h1 := Lib.hid (l1Byte_any p B w hc)
    clear hc
    go_enter Tryz.func29, Tryz.ntmps29
    go_wp2_with fail
    refine h1.out.mono ?_
    rintro e w1 ⟨⟨x, rfl, hx0, hx1⟩, hc1, ho1⟩
    have hm := mod_bounds x n (by omega)
    have hnz : (n == 0) = false := by rw [beq_eq_false_iff_ne]; omega
    go_wp2
    go_ret
    exact ⟨⟨_, rfl, hm.1, hm.2⟩, hc1, ho1⟩
  · have h1 := Lib.hid (fun W h => l1Byte_any p B W h)
    go_enter Tryz.func29, Tryz.ntmps29
    go_wp2_with fail
    refine (h1.out w hc).mono ?_
    rintro e w1 ⟨⟨x, rfl, hx0, hx1⟩, hc1, ho1⟩
    go_wp2_with fail
    refine (h1.out w1 hc1).mono ?_
    rintro e w2 ⟨⟨y, rfl, hy0, hy1⟩, hc2, ho2⟩
    go_wp2_with fail
    refine (h1.out w2 hc2).mono ?_
    rintro e w3 ⟨⟨z, rfl, hz0, hz1⟩, hc3, ho3⟩
    go_wp2_with fail
    refine (h1.out w3 hc3).mono ?_
    rintro e w4 ⟨⟨u, rfl, hu0, hu1⟩, hc4, ho4⟩
    have hm := mod_bounds (x * 16777216 + y * 65536 + z * 256 + u) n (by omega)
    have hnz : (n == 0) = false := by rw [beq_eq_false_iff_ne]; omega
    go_wp2
    go_ret
    exact ⟨⟨_, rfl, hm.1, hm.2⟩, hc4, only_trans (only_trans (only_trans ho1 ho2) ho3) ho4⟩

/-- Below 0 nothing is drawn. -/
theorem l1Below_none (p : Nat) (n : Int) (w : World) (hn : n ≤ 0) :
    Calls Tryz.prog 29 #[.pointer (some ⟨p, 0, none⟩), .int .i64 n] w fun e w' => e = .returned (.int .i64 0) ∧ w = w' := by
  go_enter Tryz.func29, Tryz.ntmps29
  go_wp2
  go_ret
  exact ⟨rfl, rfl⟩

/-- One of the strings is handed back; only the cursor has turned. -/
def DrawnStr (w : World) (B p : Nat) (ss : List ByteArray) (e : Ending) (w' : World) : Prop :=
  (∃ x : ByteArray, e = .returned (.string x) ∧ x ∈ ss) ∧ CurAt w' B p ∧ w.grownBy w' (some p)

set_option maxHeartbeats 1000000 in
theorem l1Pick_any (p B D c : Nat) (A : Option Addr) (ss : List ByteArray) (w : World) (hc : CurAt w B p) (hA : StrsAt w D A ss) (hne : ∀ q b off, A = some ⟨b, off, q⟩ → b ≠ p) (h0 : 0 < ss.length) (h1 : ss.length ≤ 1000000) :
    Calls Tryz.prog 31 #[.pointer (some ⟨p, 0, none⟩), .slice A ss.length c] w (DrawnStr w B p ss) := by
  have hd := Lib.hid (l1Below_any p B ss.length w hc (by omega) (by omega))
  have hpl := hc.lt
  clear hc
  go_enter Tryz.func31, Tryz.ntmps31
  go_wp2_with fail
  refine hd.out.mono ?_
  rintro e w1 ⟨⟨x, rfl, hx0, hx1⟩, hc1, ho1⟩
  obtain ⟨k, rfl⟩ : ∃ k : Nat, x = k := ⟨x.toNat, by omega⟩
  have hk : k < ss.length := by omega
  obtain ⟨b, off, rfl, _, hcell⟩ := hA k hk
  have hbp := hne none b off rfl
  have hbl : b < w.heap.size := block_lt_of_cell hcell
  have hcell1 : w1.cell? ⟨b, off + k, none⟩ = some (.string ss[k]) := (World.cell?_of_block (w := w) (ho1.block b hbl (fun e => hbp (by injection e)))).trans hcell
  have hkI : (k : Int) < ss.length := by omega
  clear hcell hne
  go_wp2
  go_ret
  exact ⟨⟨_, rfl, List.getElem_mem hk⟩, hc1, ho1⟩

/-- A new cursor. -/
def NewCur (w : World) (e : Ending) (w' : World) : Prop :=
  ∃ p, e = .returned (.pointer (some ⟨p, 0, none⟩)) ∧ CurAt w' w.heap.size p ∧ Below w.heap.size w w'

set_option maxHeartbeats 1000000 in
theorem l1New_any (A : Option Addr) (n cap : Nat) (w : World) (hA : BytesAt w w.heap.size A n) (hn : n ≤ 2 ^ 47) :
    Calls Tryz.prog 14 #[.slice A n cap] w (NewCur w) := by
  go_enter Tryz.func14, Tryz.ntmps14
  go_wp2
  go_loop [3, 4] (fun h i => ∃ (k : Nat) (x : Int), k ≤ n ∧ i = .int .i64 k ∧ h = .int .i64 x) (fun _ i => n - (intOf i).toNat)
  case atStart => exact ⟨0, _, Nat.zero_le _, rfl, rfl⟩
  case round =>
    obtain ⟨k, x, hk, rfl, rfl⟩ := hrel
    by_cases hlt : k < n
    · by_cases h4 : k < 4000
      · obtain ⟨b, off, y, rfl, hb, hy, hy0, hy1⟩ := hA k hlt
        have HA := Lib.hid hA
        clear hA
        have hltI : (k : Int) < (n : Int) := by omega
        have h4I : (k : Int) < 4000 := by omega
        go_wp2
        go_round
        case rel => exact ⟨k + 1, _, by omega, by go_num, rfl⟩
        case measure => simp [intOf]; omega
      · have hltI : (k : Int) < (n : Int) := by omega
        have h4I : ¬ (k : Int) < 4000 := by omega
        go_wp2
        go_ret
        exact ⟨w.heap.size, rfl, ⟨A, n, cap, 0, x, Whole1.new _ _ _, Nat.zero_le _, by unfold maxLen; omega, hA.below ((Below.refl _ _).alloc (Nat.le_refl _) _), Nat.le_refl _⟩, (Below.refl _ _).alloc (Nat.le_refl _) _⟩
    · have hltI : ¬ (k : Int) < (n : Int) := by omega
      go_wp2
      go_ret
      exact ⟨w.heap.size, rfl, ⟨A, n, cap, 0, x, Whole1.new _ _ _, Nat.zero_le _, by unfold maxLen; omega, hA.below ((Below.refl _ _).alloc (Nat.le_refl _) _), Nat.le_refl _⟩, (Below.refl _ _).alloc (Nat.le_refl _) _⟩

end Go.Proofs.YtlmbnefoobameaaGreatDoor
end

section
namespace Go.Proofs.YtlmbnefoobameaaGreatDoor
open Go.ChangeShapes Go.WideShapes Go.ChangeAt Go.RowKit

theorem open_bytes_arg {H : Type} {enc : TypeId × Value → H} {P : Program} {W : World} {base : Nat} {t e : TypeId} {v : Value} {d : DataW H} {p : List MemPlace} (ht : P.underlying t = some (.slice e)) (he : P.underlying e = some (.int .u8)) (hc : P.cellsOf e = 1)
    (hv : Value.okWide P W .any base t v) (h : DataW.Trod enc P W 0 (fun _ => true) true t v d p) (hlt : ∀ x ∈ p, x.block < W.heap.size) :
    ∃ A n c, v = .slice A n c ∧ BytesAt W W.heap.size A n ∧ n ≤ maxLen := by
  obtain ⟨a0, len, cap, rfl⟩ := okWide_slice ht hv
  obtain ⟨fuel, hf⟩ := h
  rcases open_ints ht he hc hf with ⟨hcs, hx⟩ | ⟨a, len', cap', zs, hcs, _, hl, hm, hz, hx, hcell, hwz⟩
  · simp [Value.cells] at hcs
    obtain ⟨rfl, rfl, rfl⟩ := hcs
    exact ⟨none, 0, 0, rfl, fun i hi => absurd hi (by omega), Nat.zero_le _⟩
  · simp [Value.cells] at hcs
    obtain ⟨rfl, rfl, rfl⟩ := hcs
    simp only [if_true] at hz
    simp only [Prod.mk.injEq] at hx
    obtain ⟨rfl, rfl⟩ := hx
    refine ⟨some a, len, cap, rfl, fun i hi => ?_, by omega⟩
    obtain ⟨b, off, spot⟩ := a
    have hspot : spot = none := by simpa [Addr.add] using World.cell?_spot (hcell 0 (by omega))
    subst hspot
    have hc0 := hcell i (by omega)
    rw [add_plain] at hc0
    have hb := bounds_byte (hwz (zs.getD i 0) (by
      have : zs.getD i 0 = zs[i]'(by omega) := by simp [show i < zs.length by omega]
      rw [this]
      exact List.getElem_mem _))
    exact ⟨b, off, _, rfl, hlt (.cell b off) (MemPlace.mem_row.2 ⟨0, by omega, by simp⟩), hc0, hb.1, hb.2⟩

end Go.Proofs.YtlmbnefoobameaaGreatDoor
end

section
namespace Go.Proofs.YtlmbnefoobameaaGreatDoor
open Go.RowKit

/-- The value v owns a row of k elements, the aggregates vs, whose cells are xs; each reads as its tree, in blocks of its own. -/
structure OGatherAt (w : World) (base : Nat) (v : Value) (k : Nat) (ts : List Ot) (xs : List Value) (vs : Nat → Value) (lo hi : Nat → Nat) : Prop where
  own : w.ownsRow base 26 4 v k xs
  cells : ∀ i, i < k → ∀ j, j < 4 → (partAt (vs i) j).isSome = true ∧ xs[i * 4 + j]? = partAt (vs i) j
  low : ∀ i, i < k → base ≤ lo i ∧ hi i ≤ w.heap.size
  apart : ∀ i j, i < j → j < k → hi i ≤ lo j
  free : ∀ i, i < k → ∀ g, v.ownBlock = some g → ¬ Span (lo i) (hi i) g
  kids : ∀ i, (h : i < ts.length) → i < k → OtIn w (Span (lo i) (hi i)) (vs i) ts[i]
def OGather (w : World) (base : Nat) (v : Value) (k : Nat) (ts : List Ot) : Prop := ∃ xs vs lo hi, OGatherAt w base v k ts xs vs lo hi

theorem OGather.start (w : World) (base : Nat) (ts : List Ot) : OGather w base (.slice none 0 0) 0 ts :=
  ⟨[], fun _ => .bool false, fun _ => 0, fun _ => 0, World.ownsRow_nil w base _ 4, fun _ h => absurd h (Nat.not_lt_zero _), fun _ h => absurd h (Nat.not_lt_zero _), fun _ _ _ h => absurd h (Nat.not_lt_zero _), fun _ h => absurd h (Nat.not_lt_zero _), fun _ _ h => absurd h (Nat.not_lt_zero _)⟩

theorem own_keep4o {w w' : World} {base k : Nat} {e : TypeId} {v : Value} {xs : List Value} (h : w.ownsRow base e 4 v k xs) (hk : ∀ g, v.ownBlock = some g → w'.heap[g]? = w.heap[g]?) : w'.ownsRow base e 4 v k xs := by
  refine ⟨h.1, ?_⟩
  rcases h.2 with h2 | ⟨g, cap, cur, h1, h2, h3, h4⟩
  · exact .inl h2
  · exact .inr ⟨g, cap, cur, h1, h2, (hk g (by rw [h1]; rfl)).trans h3, h4⟩

/-- Where the blocks from base on stand, but for one outside, all stands. -/
theorem OGatherAt.keep {w w' : World} {base k : Nat} {v : Value} {ts : List Ot} {xs : List Value} {vs : Nat → Value} {lo hi : Nat → Nat} (h : OGatherAt w base v k ts xs vs lo hi) (hs : w.heap.size ≤ w'.heap.size) (hk : ∀ g, base ≤ g → g < w.heap.size → w'.heap[g]? = w.heap[g]?) : OGatherAt w' base v k ts xs vs lo hi :=
  ⟨own_keep4o h.own fun g hg => hk g (h.own.lt g hg).1 (h.own.lt g hg).2, h.cells, fun i hi' => ⟨(h.low i hi').1, Nat.le_trans (h.low i hi').2 hs⟩, h.apart, h.free,
    fun i hi' hik => (h.kids i hi' hik).keep fun b hb hbl => hk b (Nat.le_trans (h.low i hik).1 hb.1) hbl⟩
theorem OGather.keep {w w' : World} {base k : Nat} {v : Value} {ts : List Ot} (h : OGather w base v k ts) (hs : w.heap.size ≤ w'.heap.size) (hk : ∀ g, base ≤ g → g < w.heap.size → w'.heap[g]? = w.heap[g]?) : OGather w' base v k ts := by
  obtain ⟨xs, vs, lo, hi, h⟩ := h
  exact ⟨xs, vs, lo, hi, h.keep hs hk⟩
theorem OGather.below {w w' : World} {base k : Nat} {v : Value} {ts : List Ot} (h : OGather w base v k ts) (hb : Below w.heap.size w w') : OGather w' base v k ts := h.keep hb.size fun g _ hg => hb.block g hg
theorem OGather.set {w : World} {base k p o : Nat} {v u : Value} {ts : List Ot} (h : OGather w base v k ts) (hp : p < base) : OGather (w.setCell ⟨p, o, none⟩ u) base v k ts :=
  h.keep (by simp [World.setCell]) fun g hg _ => Below.heap_setCell _ _ _ _ (by show g ≠ p; omega)

/-- One more tree is appended. -/
theorem OGatherAt.step {w w1 w3 : World} {base k g cap : Nat} {v a b c d : Value} {ts : List Ot} {xs : List Value} {vs : Nat → Value} {lo hi : Nat → Nat} (h : OGatherAt w base v k ts xs vs lo hi) (hb : Below w.heap.size w w1) (hbase : base ≤ w.heap.size) (hk : k < ts.length)
    (ht : OtIn w1 (Span w.heap.size w1.heap.size) (.agg #[a, b, c, d]) ts[k]) (hown : w3.ownsRow base 26 4 (.slice (some ⟨g, 0, none⟩) (k + 1) cap) (k + 1) (xs ++ [a, b, c, d]))
    (hg : (w1.alloc (.cells #[a, b, c, d] 26)).grownBy w3 v.ownBlock) (hat : v.ownBlock = some g ∨ g = w1.heap.size + 1) : OGather w3 base (.slice (some ⟨g, 0, none⟩) (k + 1) cap) (k + 1) ts := by
  have hs1 := hb.size
  have hs3 : w1.heap.size + 1 ≤ w3.heap.size := by have := hg.size; simp at this; exact this
  have hxl : xs.length = k * 4 := h.own.1
  have hkeep : ∀ q, q < w1.heap.size → v.ownBlock ≠ some q → w3.heap[q]? = w1.heap[q]? := fun q hq hne =>
    (hg.block q (by simp; omega) (fun e => hne e.symm)).trans (Below.heap_alloc _ _ _ hq)
  refine ⟨xs ++ [a, b, c, d], fun i => if i = k then .agg #[a, b, c, d] else vs i, fun i => if i = k then w.heap.size else lo i, fun i => if i = k then w1.heap.size else hi i, hown, fun i hi' j hj => ?_, fun i hi' => ?_, fun i j hij hj => ?_, fun i hi' q hq => ?_, fun i hi' hik => ?_⟩
  · by_cases ek : i = k
    · subst ek
      rw [if_pos rfl, List.getElem?_append_right (by omega), hxl]
      have : j = 0 ∨ j = 1 ∨ j = 2 ∨ j = 3 := by omega
      rcases this with rfl | rfl | rfl | rfl
      · simp [partAt]
      · simp [partAt]
      · simp [partAt]
      · simp [partAt]
    · rw [if_neg ek, List.getElem?_append_left (by omega)]
      exact h.cells i (by omega) j hj
  · by_cases ek : i = k
    · rw [if_pos ek, if_pos ek]
      omega
    · rw [if_neg ek, if_neg ek]
      have := h.low i (by omega)
      omega
  · rw [if_neg (show i ≠ k by omega)]
    by_cases ek : j = k
    · rw [if_pos ek]
      exact (h.low i (by omega)).2
    · rw [if_neg ek]
      exact h.apart i j hij (by omega)
  · have hqg : q = g := (Option.some.inj hq).symm
    subst hqg
    by_cases ek : i = k
    · rw [if_pos ek, if_pos ek]
      intro hs
      have a1 := hs.1
      have a2 := hs.2
      rcases hat with hat | hat
      · have := (h.own.lt q hat).2
        omega
      · omega
    · rw [if_neg ek, if_neg ek]
      rcases hat with hat | hat
      · exact h.free i (by omega) q hat
      · intro hs
        have := hs.2
        have := (h.low i (by omega)).2
        omega
  · by_cases ek : i = k
    · subst ek
      rw [if_pos rfl, if_pos rfl, if_pos rfl]
      refine ht.keep fun q hq _ => hkeep q hq.2 fun hv => ?_
      have := (h.own.lt q hv).2
      have := hq.1
      omega
    · rw [if_neg ek, if_neg ek, if_neg ek]
      refine (h.kids i hi' (by omega)).keep fun q hq hql => ?_
      rw [hkeep q (by omega) fun hv => h.free i (by omega) q hv hq]
      exact hb.block q hql

theorem OGather.done {w : World} {base c : Nat} {A : Option Addr} {ts : List Ot} (h : OGather w base (.slice A ts.length c) ts.length ts) (hm : ts.length ≤ maxLen) : OtsIn w (Span base w.heap.size) A ts := by
  obtain ⟨xs, vs, lo, hi, h⟩ := h
  have hdis : ∀ i j, i < ts.length → j < ts.length → i ≠ j → ∀ b, Span (lo i) (hi i) b → ¬ Span (lo j) (hi j) b := fun i j hi' hj hne b hb hb' => by
    have := hb.1
    have := hb.2
    have := hb'.1
    have := hb'.2
    rcases Nat.lt_or_gt_of_ne hne with hlt | hlt
    · have := h.apart i j hlt hj
      omega
    · have := h.apart j i hlt hi'
      omega
  rcases h.own.2 with ⟨_, h2⟩ | ⟨g, cap, cur, h1, h2, h3, h4, h5, h6, h7⟩
  · have : ts = [] := List.length_eq_zero_iff.1 h2
    subst this
    exact ⟨hm, 0, vs, fun _ _ => False, .inl rfl, fun i hi => absurd hi (by simp), fun i _ hi => absurd hi (by simp), fun i hi => absurd hi (by simp)⟩
  · injection h1 with h1 _ _
    subst h1
    have hgl := (h.own.lt g rfl).2
    refine ⟨hm, g, vs, fun i => Span (lo i) (hi i), .inr ⟨rfl, ⟨h2, hgl⟩, cur, h3, fun i hi' j hj => ?_⟩, fun i hi' b hb => ⟨⟨?_, ?_⟩, fun e => h.free i hi' g rfl (by rw [← e]; exact hb)⟩, hdis, fun i hi' => h.kids i hi' hi'⟩
    · have hc := h.cells i hi' j hj
      refine ⟨hc.1, ?_⟩
      rw [← hc.2, ← h7, List.getElem?_take, if_pos (by omega)]
      simp
    · have := (h.low i hi').1
      have := hb.1
      omega
    · have := (h.low i hi').2
      have := hb.2
      omega


end Go.Proofs.YtlmbnefoobameaaGreatDoor
end

section
namespace Go.Proofs.YtlmbnefoobameaaGreatDoor
open Go.RowKit

/-- A bool is handed back; only the cursor has turned. -/
def DrawnBool (w : World) (B p : Nat) (e : Ending) (w' : World) : Prop :=
  (∃ x : Bool, e = .returned (.bool x)) ∧ CurAt w' B p ∧ w.grownBy w' (some p)

theorem l1Once_any (p B : Nat) (n : Int) (w : World) (hc : CurAt w B p) (hn : 1 ≤ n) (hn2 : n ≤ 2 ^ 40) :
    Calls Tryz.prog 58 #[.pointer (some ⟨p, 0, none⟩), .int .i64 n] w (DrawnBool w B p) := by
  have h1 := Lib.hid (l1Below_any p B n w hc hn hn2)
  clear hc
  go_enter Tryz.func58, Tryz.ntmps58
  go_wp2_with fail
  refine h1.out.mono ?_
  rintro e w1 ⟨⟨x, rfl, hx0, hx1⟩, hc1, ho1⟩
  go_wp2
  go_ret
  exact ⟨⟨_, rfl⟩, hc1, ho1⟩

end Go.Proofs.YtlmbnefoobameaaGreatDoor

namespace Go.Proofs.YtlmbnefoobameaaGreatDoor
open Go.RowKit

/-- The slice of address A holds the numbers zs. -/
def IntsAt (w : World) (A : Option Addr) (zs : List Int) : Prop :=
  ∀ i, (h : i < zs.length) → ∃ b off, A = some ⟨b, off, none⟩ ∧ w.cell? ⟨b, off + i, none⟩ = some (.int .i64 zs[i])
def DrawnOf (w : World) (B p : Nat) (zs : List Int) (e : Ending) (w' : World) : Prop :=
  (∃ x : Int, e = .returned (.int .i64 x) ∧ x ∈ zs) ∧ CurAt w' B p ∧ w.grownBy w' (some p)

set_option maxHeartbeats 1000000 in
theorem l1PickInt_any (p B c : Nat) (A : Option Addr) (zs : List Int) (w : World) (hc : CurAt w B p) (hA : IntsAt w A zs) (hne : ∀ q b off, A = some ⟨b, off, q⟩ → b ≠ p) (h0 : 0 < zs.length) (h1 : zs.length ≤ 1000000) :
    Calls Tryz.prog 30 #[.pointer (some ⟨p, 0, none⟩), .slice A zs.length c] w (DrawnOf w B p zs) := by
  have hd := Lib.hid (l1Below_any p B zs.length w hc (by omega) (by omega))
  have hpl := hc.lt
  clear hc
  go_enter Tryz.func30, Tryz.ntmps30
  go_wp2_with fail
  refine hd.out.mono ?_
  rintro e w1 ⟨⟨x, rfl, hx0, hx1⟩, hc1, ho1⟩
  obtain ⟨k, rfl⟩ : ∃ k : Nat, x = k := ⟨x.toNat, by omega⟩
  have hk : k < zs.length := by omega
  obtain ⟨b, off, rfl, hcell⟩ := hA k hk
  have hbp := hne none b off rfl
  have hbl : b < w.heap.size := block_lt_of_cell hcell
  have hcell1 : w1.cell? ⟨b, off + k, none⟩ = some (.int .i64 zs[k]) := (World.cell?_of_block (w := w) (ho1.block b hbl (fun e => hbp (by injection e)))).trans hcell
  have hkI : (k : Int) < zs.length := by omega
  clear hcell hne
  go_wp2
  go_ret
  exact ⟨⟨_, rfl, List.getElem_mem hk⟩, hc1, ho1⟩

end Go.Proofs.YtlmbnefoobameaaGreatDoor
end

section
namespace Go.Proofs.YtlmbnefoobameaaGreatDoor
open Go.RowKit

/-- May the byte c stand at place k of a name? -/
def nameAt (k : Nat) (c : UInt8) : Bool := (decide (97 ≤ c.toNat) && decide (c.toNat ≤ 122)) || (decide (0 < k) && decide (48 ≤ c.toNat) && decide (c.toNat ≤ 57))
/-- Is it a name? -/
def isNameB (s : ByteArray) : Bool := (List.range s.size).all (fun k => nameAt k (s.data.getD k 0)) && decide (1 ≤ s.size) && decide (s.size ≤ 4)

theorem isNameB_no (s : ByteArray) (k : Nat) (h : k < s.size) (hn : nameAt k (s.data.getD k 0) = false) : isNameB s = false := by
  unfold isNameB
  have : (List.range s.size).all (fun k => nameAt k (s.data.getD k 0)) = false := by
    rw [List.all_eq_false]
    exact ⟨k, List.mem_range.2 h, by rw [hn]; simp⟩
  rw [this]
  rfl
theorem isNameB_all (s : ByteArray) (h : ∀ k, k < s.size → nameAt k (s.data.getD k 0) = true) : isNameB s = (decide (1 ≤ s.size) && decide (s.size ≤ 4)) := by
  unfold isNameB
  have : (List.range s.size).all (fun k => nameAt k (s.data.getD k 0)) = true := by
    rw [List.all_eq_true]
    exact fun k hk => h k (List.mem_range.1 hk)
  rw [this]
  rfl

set_option maxHeartbeats 1000000 in
theorem specIsName_any (s : ByteArray) (w : World) (hs : s.size ≤ maxLen) :
    Calls Tryz.prog 48 #[.string s] w fun e w' => e = .returned (.bool (isNameB s)) ∧ w = w' := by
  unfold maxLen at hs
  go_enter Tryz.func48, Tryz.ntmps48
  go_wp2
  go_loop [3] (fun i => ∃ k : Nat, k ≤ s.size ∧ i = .int .i64 k ∧ ∀ j, j < k → nameAt j (s.data.getD j 0) = true) (fun i => s.size - (intOf i).toNat)
  case atStart => exact ⟨0, Nat.zero_le _, rfl, fun j h => absurd h (by omega)⟩
  case round =>
    obtain ⟨k, hk, rfl, hall⟩ := hrel
    have HA := Lib.hid hall
    clear hall
    by_cases hlt : k < s.size
    · have hltI : (k : Int) < (s.size : Int) := by omega
      have hget := Lib.hid (show s.data.getD k 0 = s[k] by
        rw [Array.getD_eq_getD_getElem?, Array.getElem?_eq_getElem hlt]; rfl)
      by_cases h97 : 97 ≤ s[k].toNat
      · by_cases h122 : s[k].toNat ≤ 122
        · have i1 : (97 : Int) ≤ s[k].toNat := by omega
          have i2 : (s[k].toNat : Int) ≤ 122 := by omega
          go_wp2
          go_round
          case rel =>
            refine ⟨k + 1, by omega, by go_num, fun j hj => ?_⟩
            by_cases e : j = k
            · subst e
              rw [hget.out]
              simp [nameAt, h97, h122]
            · exact HA.out j (by omega)
          case measure => simp [intOf]; omega
        · have i1 : (97 : Int) ≤ s[k].toNat := by omega
          have i2 : ¬ (s[k].toNat : Int) ≤ 122 := by omega
          have i3 : ¬ (s[k].toNat : Int) < 48 := by omega
          have i4 : (57 : Int) < s[k].toNat := by omega
          have hno := Lib.hid (isNameB_no s k hlt (by rw [hget.out]; simp [nameAt, h122, show ¬ s[k].toNat ≤ 57 by omega]))
          go_wp2
          all_goals
            go_ret
            refine ⟨?_, rfl⟩
            rw [hno.out]
            rfl
      · by_cases hk0 : 0 < k
        · by_cases h48 : s[k].toNat < 48
          · have i1 : ¬ (97 : Int) ≤ s[k].toNat := by omega
            have i0 : ((k : Int) == 0) = false := by rw [beq_eq_false_iff_ne]; omega
            have i3 : (s[k].toNat : Int) < 48 := by omega
            have hno := Lib.hid (isNameB_no s k hlt (by rw [hget.out]; simp [nameAt, h97, show ¬ 48 ≤ s[k].toNat by omega]))
            go_wp2
            all_goals
              go_ret
              refine ⟨?_, rfl⟩
              rw [hno.out]
              rfl
          · by_cases h57 : s[k].toNat ≤ 57
            · have i1 : ¬ (97 : Int) ≤ s[k].toNat := by omega
              have i0 : ((k : Int) == 0) = false := by rw [beq_eq_false_iff_ne]; omega
              have i3 : ¬ (s[k].toNat : Int) < 48 := by omega
              have i4 : ¬ (57 : Int) < s[k].toNat := by omega
              go_wp2
              go_round
              case rel =>
                refine ⟨k + 1, by omega, by go_num, fun j hj => ?_⟩
                by_cases e : j = k
                · subst e
                  rw [hget.out]
                  simp [nameAt, hk0, h57, show 48 ≤ s[j].toNat by omega]
                · exact HA.out j (by omega)
              case measure => simp [intOf]; omega
            · have i1 : ¬ (97 : Int) ≤ s[k].toNat := by omega
              have i0 : ((k : Int) == 0) = false := by rw [beq_eq_false_iff_ne]; omega
              have i3 : ¬ (s[k].toNat : Int) < 48 := by omega
              have i4 : (57 : Int) < s[k].toNat := by omega
              have hno := Lib.hid (isNameB_no s k hlt (by rw [hget.out]; simp [nameAt, h97, h57]))
              go_wp2
              all_goals
                go_ret
                refine ⟨?_, rfl⟩
                rw [hno.out]
                rfl
        · have i1 : ¬ (97 : Int) ≤ s[k].toNat := by omega
          have i0 : ((k : Int) == 0) = true := by rw [beq_iff_eq]; omega
          have hno := Lib.hid (isNameB_no s k hlt (by rw [hget.out]; simp [nameAt, h97, hk0]))
          go_wp2
          all_goals
            go_ret
            refine ⟨?_, rfl⟩
            rw [hno.out]
            rfl
    · have hltI : ¬ (k : Int) < (s.size : Int) := by omega
      have hke : k = s.size := by omega
      have hB := Lib.hid (isNameB_all s (fun j hj => HA.out j (by omega)))
      clear hke
      by_cases h1 : 1 ≤ s.size
      · by_cases h4 : s.size ≤ 4
        · have i1 : (1 : Int) ≤ s.size := by omega
          have i4 : (s.size : Int) ≤ 4 := by omega
          go_wp2
          go_ret
          refine ⟨?_, rfl⟩
          rw [hB.out]
          simp [h1, h4]
        · have i1 : (1 : Int) ≤ s.size := by omega
          have i4 : ¬ (s.size : Int) ≤ 4 := by omega
          go_wp2
          go_ret
          refine ⟨?_, rfl⟩
          rw [hB.out]
          simp [h4]
      · have i1 : ¬ (1 : Int) ≤ s.size := by omega
        go_wp2
        go_ret
        refine ⟨?_, rfl⟩
        rw [hB.out]
        simp [h1]

end Go.Proofs.YtlmbnefoobameaaGreatDoor

namespace Go.Proofs.YtlmbnefoobameaaGreatDoor
open Go.RowKit

/-- The first place of s. -/
def idxOf (ss : List ByteArray) (s : ByteArray) : Int :=
  match (List.range ss.length).find? (fun k => (ss.getD k ⟨#[]⟩).data.toList == s.data.toList) with
  | some k => (k : Int)
  | none => -1
theorem idxOf_at (ss : List ByteArray) (s : ByteArray) (k : Nat) (h : k < ss.length) (he : ss[k].data.toList = s.data.toList) (hn : ∀ j, (hj : j < ss.length) → j < k → ss[j].data.toList ≠ s.data.toList) : idxOf ss s = k := by
  unfold idxOf
  have : (List.range ss.length).find? (fun k => (ss.getD k ⟨#[]⟩).data.toList == s.data.toList) = some k := by
    rw [List.find?_range_eq_some]
    refine ⟨?_, List.mem_range.2 h, fun j hj => ?_⟩
    · simp [h, he]
    · have hl : j < ss.length := by omega
      simp [hl]
      exact fun e => hn j hl hj (by rw [e])
  rw [this]
theorem idxOf_none (ss : List ByteArray) (s : ByteArray) (hn : ∀ j, (hj : j < ss.length) → ss[j].data.toList ≠ s.data.toList) : idxOf ss s = -1 := by
  unfold idxOf
  have : (List.range ss.length).find? (fun k => (ss.getD k ⟨#[]⟩).data.toList == s.data.toList) = none := by
    rw [List.find?_eq_none]
    intro j hj
    have hl := List.mem_range.1 hj
    simp [hl]
    exact fun e => hn j hl (by rw [e])
  rw [this]

/-- s before t, byte by byte. -/
def lessB (s t : ByteArray) : Bool := Op.bytesLess s.data.toList t.data.toList
/-- Each before the next. -/
def ascB (ss : List ByteArray) : Bool := (List.range (ss.length - 1)).all fun k => lessB (ss.getD k ⟨#[]⟩) (ss.getD (k + 1) ⟨#[]⟩)
theorem ascB_no (ss : List ByteArray) (k : Nat) (h1 : 1 ≤ k) (h : k < ss.length) (hn : lessB (ss[k - 1]'(by omega)) ss[k] = false) : ascB ss = false := by
  unfold ascB
  rw [List.all_eq_false]
  refine ⟨k - 1, List.mem_range.2 (by omega), ?_⟩
  have e : k - 1 + 1 = k := by omega
  rw [e]
  simp [h, show k - 1 < ss.length by omega, hn]
theorem ascB_yes (ss : List ByteArray) (h : ∀ k, (hk : k < ss.length) → 1 ≤ k → lessB (ss[k - 1]'(by omega)) ss[k] = true) : ascB ss = true := by
  unfold ascB
  rw [List.all_eq_true]
  intro k hk
  have hl := List.mem_range.1 hk
  have := h (k + 1) (by omega) (by omega)
  simp only [Nat.add_sub_cancel] at this
  simp [show k < ss.length by omega, show k + 1 < ss.length by omega, this]

/-- A bool is handed back; the world only drew. -/
def BoolDrew (b : Bool) (w : World) (e : Ending) (w' : World) : Prop := e = .returned (.bool b) ∧ ∃ n, w' = w.drewN n

end Go.Proofs.YtlmbnefoobameaaGreatDoor
end
