/- Lemmas: RPos, ShelfAtoi, Atoi, IntW. -/
import Derived.Shelf.Strings.Prefix
import Derived.Shelf.GgClosure.StringsRunes
import Derived.Test.YtceclhndagoddaaGreatDoorProg
import Derived.OrdersHeld
import Derived.RegionTactic
import Derived.Lib.Hide
import Derived.Test.YtceclhndagoddaaGreatDoorLawFnValueText_14
import Derived.Test.YtceclhndagoddaaGreatDoorLawFnValueText_17
import Derived.Test.YtceclhndagoddaaGreatDoorLawFnValueText_27
import Derived.Test.YtceclhndagoddaaGreatDoorLawFnValueText_3
import Derived.Deep.RegionHeld3
import Derived.Deep.DeepCutAuto
import Derived.Deep.AppendLies
import Derived.Laws.EntriesVeiled
import Derived.Shelf.Strings.Builder1
import Derived.Shelf.Strings.BuilderF
import Derived.Shelf.Strings.BuilderK
import Derived.Shelf.Strconv.Atoi
import Derived.Shelf.Strconv.Itoa0
import Derived.Shelf.Strconv.Itoa1
import Derived.Shelf.LaysM
import Derived.Shelf.Strconv.Itoa2
import Derived.Shelf.Strconv.Itoa3
import Derived.Shelf.Strconv.AtoiErrFast
import Derived.Shelf.Strconv.ParseIntEmpty
import Derived.Shelf.Strconv.AtoiFail
import Derived.Shelf.Strconv.Clone
import Derived.Shelf.Strconv.SyntaxError
import Derived.Shelf.LaysC
import Derived.Shelf.Strconv.ToError
import Derived.Shelf.Strconv.Lower
import Derived.Shelf.Strconv.ParseUint10
import Derived.Shelf.Strconv.ParseUint10Empty
import Derived.Shelf.Strconv.ParseUint10Any
import Derived.Shelf.Strconv.ParseInt10
import Derived.Shelf.Strconv.AtoiLong
import Derived.Shelf.Strconv.AtoiInnerAll
import Derived.Shelf.Strconv.RangeError
import Derived.Shelf.Strconv.ToErrorRange
import Derived.Shelf.Strconv.AtoiAll
import Derived.Shelf.Strconv.ErrVarAll
import Derived.Shelf.Strconv.ParseUintEmpty
import Derived.Shelf.Strconv.ParseUint10b64
import Derived.Shelf.Strconv.ParseUint10b32
import Derived.Shelf.Strconv.ParseUint10b16
import Derived.Shelf.Strconv.ParseUint10b8
import Derived.Shelf.Strconv.ParseUint10At
import Derived.Shelf.GgClosure.StringsIndexFunc
import Derived.Shelf.GgClosure.StringsTrimFunc
import Derived.Shelf.Strings.BuilderCap
import Derived.Shelf.Slices.Equal
import Derived.Shelf.Slices.Empties2
import Derived.Test.YtceclhndagoddaaGreatDoorLawFnValueText_13
import Derived.Below
import Derived.Test.YtceclhndagoddaaGreatDoorLawFnValueText_15
import Derived.WalkKit
import Derived.BigGuard
import Derived.WalkLawsBesides
import Derived.Lib.IfaceNeq

section
namespace Go.Proofs
open Go.Shelf
def Tryz.laysPrefix_ren : Go.Shelf.Ren := ⟨fun | 99 => 38 | 206 => 71 | n => n, fun | 9 => 9 | 3 => 3 | 4 => 4 | n => n, fun | n => n⟩
theorem Tryz.laysPrefix : Go.Proofs.Lays.n99 Tryz.prog Tryz.laysPrefix_ren := {
  mixed := by kernel_rfl
  f99 := Tryz.func38.trans (congrArg some (by kernel_rfl))
  f206 := Tryz.func71.trans (congrArg some (by kernel_rfl))
  t3 := Tryz.underlying3
  a3 := Tryz.isAgg3
  z3 := Tryz.sizeOf3
  v3 := Tryz.zeroValue3
  t4 := Tryz.underlying4
  a4 := Tryz.isAgg4
  z4 := Tryz.sizeOf4
  v4 := Tryz.zeroValue4
  t9 := Tryz.underlying9
  a9 := Tryz.isAgg9
  z9 := Tryz.sizeOf9
  v9 := Tryz.zeroValue9 }
def Tryz.laysTrimL_ren : Go.Shelf.Ren := ⟨fun | 272 => 40 | 315 => 72 | n => n, fun | 9 => 9 | 3 => 3 | 4 => 4 | 0 => 0 | 21 => 21 | 40 => 69 | n => n, fun | n => n⟩
theorem Tryz.laysTrimL : Go.Proofs.Lays.n272 Tryz.prog Tryz.laysTrimL_ren := {
  mixed := by kernel_rfl
  f272 := Tryz.func40.trans (congrArg some (by kernel_rfl))
  f315 := Tryz.func72.trans (congrArg some (by kernel_rfl))
  t0 := Tryz.underlying0
  a0 := Tryz.isAgg0
  z0 := Tryz.sizeOf0
  v0 := Tryz.zeroValue0
  t3 := Tryz.underlying3
  a3 := Tryz.isAgg3
  z3 := Tryz.sizeOf3
  v3 := Tryz.zeroValue3
  t4 := Tryz.underlying4
  a4 := Tryz.isAgg4
  z4 := Tryz.sizeOf4
  v4 := Tryz.zeroValue4
  t9 := Tryz.underlying9
  a9 := Tryz.isAgg9
  z9 := Tryz.sizeOf9
  v9 := Tryz.zeroValue9
  t21 := Tryz.underlying21
  a21 := Tryz.isAgg21
  z21 := Tryz.sizeOf21
  v21 := Tryz.zeroValue21
  t40 := Tryz.underlying69
  a40 := Tryz.isAgg69
  z40 := Tryz.sizeOf69
  v40 := Tryz.zeroValue69 }
end Go.Proofs

namespace Go.Proofs.YtceclhndagoddaaGreatDoor
open Go.RowKit

/-- The reader's variables: the text in block ps, the place in block pa. -/
structure RAt (w : World) (ps pa : Nat) (s : ByteArray) (i : Nat) : Prop where
  str : Whole1 w ps 9 #[.string s]
  place : Whole1 w pa 3 #[.int .i64 (i : Int)]
  ne : ps ≠ pa
  le : i ≤ s.size
theorem RAt.lts {w : World} {ps pa i : Nat} {s : ByteArray} (h : RAt w ps pa s i) : ps < w.heap.size := Whole1.lt h.str
theorem RAt.lta {w : World} {ps pa i : Nat} {s : ByteArray} (h : RAt w ps pa s i) : pa < w.heap.size := Whole1.lt h.place
theorem RAt.below {w w' : World} {ps pa i B : Nat} {s : ByteArray} (h : RAt w ps pa s i) (hb : Below B w w') (hs : ps < B) (ha : pa < B) : RAt w' ps pa s i := ⟨h.str.below hb hs, h.place.below hb ha, h.ne, h.le⟩
theorem RAt.drewN {w : World} {ps pa i : Nat} {s : ByteArray} (h : RAt w ps pa s i) (n : Nat) : RAt (w.drewN n) ps pa s i := ⟨h.str, h.place, h.ne, h.le⟩
theorem RAt.seti {w : World} {ps pa i : Nat} {s : ByteArray} (h : RAt w ps pa s i) (j : Nat) (hj : j ≤ s.size) : RAt (w.setCell ⟨pa, 0, none⟩ (.int .i64 (j : Int))) ps pa s j :=
  ⟨(Below.heap_setCell _ _ _ _ h.ne).trans h.str, Whole1.set h.place 0 _, h.ne, hj⟩
/-- The place of the reader. -/
def placeAt (w : World) (pa : Nat) : Nat := match w.cell? ⟨pa, 0, none⟩ with | some v => (intOf v).toNat | none => 0
theorem RAt.where {w : World} {ps pa i : Nat} {s : ByteArray} (h : RAt w ps pa s i) : placeAt w pa = i := by
  have c1 : w.cell? ⟨pa, 0, none⟩ = some (.int .i64 (i : Int)) := Whole1.cell h.place 0
  unfold placeAt
  rw [c1]
  simp [intOf]

/-- The reader: three function values. -/
abbrev rdAcc (ps pa : Nat) : Value := .func (.func 37) #[] #[.pointer (some ⟨ps, 0, none⟩), .pointer (some ⟨pa, 0, none⟩)]
abbrev rdTak (ps pa : Nat) : Value := .func (.func 39) #[] #[.pointer (some ⟨pa, 0, none⟩), .pointer (some ⟨ps, 0, none⟩)]
abbrev rdEnd (ps pa : Nat) : Value := .func (.func 42) #[] #[.pointer (some ⟨pa, 0, none⟩), .pointer (some ⟨ps, 0, none⟩)]

theorem rest_extract (s : ByteArray) (i : Nat) : (s.extract i s.size).data.toList = restOf s i := by
  unfold restOf
  rw [ByteArray.data_extract, Array.toList_extract, List.extract_eq_take_drop]
  exact List.take_of_length_le (by simp)
/-- The answer v; the place is j. -/
def ReadR (w : World) (ps pa : Nat) (s : ByteArray) (v : Value) (j : Nat) (e : Ending) (w' : World) : Prop := e = .returned v ∧ RAt w' ps pa s j ∧ w.grownBy w' (some pa)

theorem prefix_eats (p l : List UInt8) : Lib.hasPrefix l p = (eats p l).isSome := by
  unfold Lib.hasPrefix eats
  cases h : p.isPrefixOf l <;> rfl
theorem eats_rest {p : ByteArray} {s : ByteArray} {i : Nat} {r : List UInt8} (hi : i ≤ s.size) (h : eats p.data.toList (restOf s i) = some r) : i + p.size ≤ s.size ∧ r = restOf s (i + p.size) := by
  have e := eats_some h
  have hl := congrArg List.length e
  have h1 : (restOf s i).length = s.size - i := by unfold restOf; simp
  have h2 : p.data.toList.length = p.size := by simp
  rw [h1, List.length_append, h2] at hl
  refine ⟨by omega, ?_⟩
  have e2 := congrArg (List.drop p.size) e
  rw [List.drop_left' h2] at e2
  rw [← e2]
  unfold restOf
  rw [List.drop_drop]

set_option maxHeartbeats 1000000 in
theorem accE_yes (ps pa i : Nat) (s p : ByteArray) (r : List UInt8) (w : World) (h : RAt w ps pa s i) (hs : s.size ≤ 1048576) (hp : eats p.data.toList (restOf s i) = some r) :
    Calls Tryz.prog 37 #[.string p, .pointer (some ⟨ps, 0, none⟩), .pointer (some ⟨pa, 0, none⟩)] w (ReadR w ps pa s (.bool true) (i + p.size)) := by
  have c0 : w.cell? ⟨ps, 0, none⟩ = some (.string s) := Whole1.cell h.str 0
  have c1 : w.cell? ⟨pa, 0, none⟩ = some (.int .i64 (i : Int)) := Whole1.cell h.place 0
  have f1 : w.frozen? ⟨pa, 0, none⟩ = false := Whole1.free h.place 0
  obtain ⟨hle, _⟩ := eats_rest h.le hp
  have hwr : IntKind.i64.wrap ((i : Int) + (p.size : Int)) = ((i + p.size : Nat) : Int) := by rw [IntKind.wrap_i64]; omega
  have hl1 : (0 : Int) ≤ (i : Int) := by omega
  have hl2 : (i : Int) ≤ (s.size : Int) := by have := h.le; omega
  have HP := Any.strings_HasPrefix Tryz.laysPrefix (s.extract i s.size) p w
  rw [rest_extract, prefix_eats, hp] at HP
  have HP := Lib.hid HP
  have HH := Lib.hid (h.seti (i + p.size) hle)
  have HO := Lib.hid (only_set (only_refl w (some pa)) 0 (.int .i64 ((i + p.size : Nat) : Int)))
  clear h hp
  go_enter Tryz.func37, Tryz.ntmps37
  go_wp2_with fail
  refine HP.out.mono ?_
  rintro e w1 ⟨rfl, rfl⟩
  go_wp2
  go_ret
  exact ⟨rfl, HH.out, HO.out⟩

set_option maxHeartbeats 1000000 in
theorem accE_no (ps pa i : Nat) (s p : ByteArray) (w : World) (h : RAt w ps pa s i) (hp : eats p.data.toList (restOf s i) = none) :
    Calls Tryz.prog 37 #[.string p, .pointer (some ⟨ps, 0, none⟩), .pointer (some ⟨pa, 0, none⟩)] w (ReadR w ps pa s (.bool false) i) := by
  have c0 : w.cell? ⟨ps, 0, none⟩ = some (.string s) := Whole1.cell h.str 0
  have c1 : w.cell? ⟨pa, 0, none⟩ = some (.int .i64 (i : Int)) := Whole1.cell h.place 0
  have hl1 : (0 : Int) ≤ (i : Int) := by omega
  have hl2 : (i : Int) ≤ (s.size : Int) := by have := h.le; omega
  have HP := Any.strings_HasPrefix Tryz.laysPrefix (s.extract i s.size) p w
  rw [rest_extract, prefix_eats, hp] at HP
  have HP := Lib.hid HP
  have HH := Lib.hid h
  clear h hp
  go_enter Tryz.func37, Tryz.ntmps37
  go_wp2_with fail
  refine HP.out.mono ?_
  rintro e w1 ⟨rfl, rfl⟩
  go_wp2
  go_ret
  exact ⟨rfl, HH.out, only_refl _ _⟩

set_option maxHeartbeats 1000000 in
theorem end_any (ps pa i : Nat) (s : ByteArray) (w : World) (h : RAt w ps pa s i) :
    Calls Tryz.prog 42 #[.pointer (some ⟨pa, 0, none⟩), .pointer (some ⟨ps, 0, none⟩)] w fun e w' => e = .returned (.bool (decide (i = s.size))) ∧ w = w' := by
  have c0 : w.cell? ⟨ps, 0, none⟩ = some (.string s) := Whole1.cell h.str 0
  have c1 : w.cell? ⟨pa, 0, none⟩ = some (.int .i64 (i : Int)) := Whole1.cell h.place 0
  by_cases he : i = s.size
  · have hq : ((i : Int) == (s.size : Int)) = true := by simp [he]
    have hd := Lib.hid (decide_eq_true he)
    clear h he
    go_enter Tryz.func42, Tryz.ntmps42
    go_wp2
    go_ret
    exact ⟨by rw [hd.out]; rfl, rfl⟩
  · have hq : ((i : Int) == (s.size : Int)) = false := by rw [beq_eq_false_iff_ne]; omega
    have hd := Lib.hid (decide_eq_false he)
    clear h he
    go_enter Tryz.func42, Tryz.ntmps42
    go_wp2
    go_ret
    exact ⟨by rw [hd.out]; rfl, rfl⟩

/-- A rune of names. -/
def nameR (r : Nat) : Bool := (decide (48 ≤ r) && decide (r ≤ 57)) || (decide (97 ≤ r) && decide (r ≤ 122))

set_option maxHeartbeats 1000000 in
theorem nameRune_any (r : Nat) (w : World) :
    Calls Tryz.prog 76 #[.int .i32 (r : Int)] w fun e w' => e = .returned (.bool (nameR r)) ∧ w = w' := by
  by_cases h1 : 97 ≤ r ∧ r ≤ 122
  · have HL := Lib.hid (letter_yes (r : Int) w (by omega) (by omega))
    have hn : Hid (nameR r = true) := Lib.hid (by unfold nameR; simp [h1])
    clear h1
    go_enter Tryz.func76, Tryz.ntmps76
    go_wp2_with fail
    refine HL.out.mono ?_
    rintro e w1 ⟨rfl, rfl⟩
    go_wp2
    go_ret
    exact ⟨by rw [hn.out]; rfl, rfl⟩
  · have HL := Lib.hid (letter_no (r : Int) w (by omega))
    by_cases h2 : 48 ≤ r ∧ r ≤ 57
    · have HD := Lib.hid (digit_yes (r : Int) w (by omega) (by omega))
      have hn : Hid (nameR r = true) := Lib.hid (by unfold nameR; simp [h2])
      clear h1 h2
      go_enter Tryz.func76, Tryz.ntmps76
      go_wp2_with fail
      refine HL.out.mono ?_
      rintro e w1 ⟨rfl, rfl⟩
      go_wp2_with fail
      refine HD.out.mono ?_
      rintro e w1 ⟨rfl, rfl⟩
      go_wp2
      go_ret
      exact ⟨by rw [hn.out]; rfl, rfl⟩
    · have HD := Lib.hid (digit_no (r : Int) w (by omega))
      have hn : Hid (nameR r = false) := Lib.hid (by unfold nameR; simp; omega)
      clear h1 h2
      go_enter Tryz.func76, Tryz.ntmps76
      go_wp2_with fail
      refine HL.out.mono ?_
      rintro e w1 ⟨rfl, rfl⟩
      go_wp2_with fail
      refine HD.out.mono ?_
      rintro e w1 ⟨rfl, rfl⟩
      go_wp2
      go_ret
      exact ⟨by rw [hn.out]; rfl, rfl⟩

theorem nameR_byte (c : UInt8) : nameR c.toNat = wordC c := rfl
theorem nameR_high (r : Nat) (h : 128 ≤ r) : nameR r = false := by
  unfold nameR
  simp
  omega
theorem wordC_high (c : UInt8) (h : 128 ≤ c.toNat) : wordC c = false := by
  rw [← nameR_byte]
  exact nameR_high _ h

/-- A rune of numbers. -/
def intR (r : Nat) : Bool := decide (r = 45) || (decide (48 ≤ r) && decide (r ≤ 57))

set_option maxHeartbeats 1000000 in
theorem intRune_any (r : Nat) (w : World) :
    Calls Tryz.prog 47 #[.int .i32 (r : Int)] w fun e w' => e = .returned (.bool (intR r)) ∧ w = w' := by
  by_cases h1 : r = 45
  · have hq : ((r : Int) == (45 : Int)) = true := by simp [h1]
    have hn : Hid (intR r = true) := Lib.hid (by unfold intR; simp [h1])
    clear h1
    go_enter Tryz.func47, Tryz.ntmps47
    go_wp2
    go_ret
    exact ⟨by rw [hn.out]; rfl, rfl⟩
  · have hq : ((r : Int) == (45 : Int)) = false := by rw [beq_eq_false_iff_ne]; omega
    by_cases h2 : 48 ≤ r ∧ r ≤ 57
    · have HD := Lib.hid (digit_yes (r : Int) w (by omega) (by omega))
      have hn : Hid (intR r = true) := Lib.hid (by unfold intR; simp [h2])
      clear h1 h2
      go_enter Tryz.func47, Tryz.ntmps47
      go_wp2_with fail
      refine HD.out.mono ?_
      rintro e w1 ⟨rfl, rfl⟩
      go_wp2
      go_ret
      exact ⟨by rw [hn.out]; rfl, rfl⟩
    · have HD := Lib.hid (digit_no (r : Int) w (by omega))
      have hn : Hid (intR r = false) := Lib.hid (by unfold intR; simp; omega)
      clear h1 h2
      go_enter Tryz.func47, Tryz.ntmps47
      go_wp2_with fail
      refine HD.out.mono ?_
      rintro e w1 ⟨rfl, rfl⟩
      go_wp2
      go_ret
      exact ⟨by rw [hn.out]; rfl, rfl⟩
theorem intR_byte (c : UInt8) : intR c.toNat = intC c := by
  unfold intR intC digC
  congr 1
  rw [Bool.eq_iff_iff]
  simp only [decide_eq_true_eq, beq_iff_eq]
  constructor
  · intro h
    exact UInt8.toNat_inj.1 (by rw [h]; rfl)
  · rintro rfl
    rfl
theorem intR_high (r : Nat) (h : 128 ≤ r) : intR r = false := by
  unfold intR
  simp
  omega
theorem pred_int (w : World) : PredAtRunes Tryz.prog 47 #[] intR w := fun W x _ _ =>
  (intRune_any x W).mono fun _ _ ⟨h1, h2⟩ => ⟨h1, 0, h2.symm⟩
theorem enters_int : ∀ args w, (callFunc 47 args).run Tryz.prog w = .ok (.enter 47 args) w := enters_of Tryz.func47 (by kernel_rfl) rfl

theorem run_end (C : UInt8 → Bool) (s : ByteArray) (k : Nat) (hk : k ≤ s.size) (hstop : ∀ h : k < s.size, C s[k] = false) : ∀ (d i : Nat), i + d = k → (∀ m, (h : m < k) → i ≤ m → C (s[m]'(by omega)) = true) →
    (restOf s i).dropWhile C = restOf s k ∧ (⟨((restOf s i).takeWhile C).toArray⟩ : ByteArray) = s.extract i k := by
  intro d
  induction d with
  | zero =>
    intro i hi _
    obtain rfl : i = k := by omega
    have e0 : s.extract i i = ⟨#[]⟩ := by
      apply ByteArray.ext
      rw [ByteArray.data_extract]
      simp
      omega
    rw [e0]
    by_cases h : i < s.size
    · rw [restOf_get s i h, List.dropWhile_cons_of_neg (by rw [hstop h]; simp), List.takeWhile_cons_of_neg (by rw [hstop h]; simp)]
      exact ⟨rfl, rfl⟩
    · rw [restOf_end s i (by omega)]
      exact ⟨rfl, rfl⟩
  | succ d ih =>
    intro i hi hall
    have h : i < s.size := by omega
    obtain ⟨h1, h2⟩ := ih (i + 1) (by omega) fun m hm him => hall m hm (by omega)
    have h3 := hall i (by omega) (Nat.le_refl _)
    rw [restOf_get s i h, List.dropWhile_cons_of_pos h3, List.takeWhile_cons_of_pos h3]
    refine ⟨h1, ?_⟩
    apply ByteArray.ext
    have h4 := congrArg (fun b : ByteArray => b.data.toList) h2
    simp only [ByteArray.data_extract, Array.toList_extract, List.extract_eq_take_drop] at h4
    apply Array.toList_inj.1
    simp only [ByteArray.data_extract, Array.toList_extract, List.extract_eq_take_drop]
    rw [List.drop_eq_getElem_cons (show i < s.data.toList.length by simpa using h), show k - i = (k - (i + 1)) + 1 by omega, List.take_succ_cons, ← h4, Array.getElem_toList]
    rfl

/-- The first byte that ends the run. -/
theorem idx_run (R : Nat → Bool) (C : UInt8 → Bool) (hC : ∀ c, R c.toNat = C c) (hH : ∀ r, 128 ≤ r → R r = false) (u : ByteArray) : ∀ (f pos : Nat), u.size ≤ pos + f → pos ≤ u.size → ∃ k, pos ≤ k ∧ k ≤ u.size ∧ (∀ m, (h : m < u.size) → pos ≤ m → m < k → C u[m] = true) ∧ (∀ h : k < u.size, C u[k] = false) ∧
    Lib.idxFuncFrom R false u f pos = if k < u.size then (k : Int) else -1 := by
  intro f
  induction f with
  | zero =>
    intro pos h1 h2
    obtain rfl : pos = u.size := by omega
    exact ⟨u.size, Nat.le_refl _, Nat.le_refl _, fun m h a b => absurd h (by omega), fun h => absurd h (Nat.lt_irrefl _), by rw [if_neg (Nat.lt_irrefl _)]; rfl⟩
  | succ f ih =>
    intro pos h1 h2
    by_cases hlt : pos < u.size
    · obtain ⟨r, wd, hd, h3, h4, h5, _⟩ := decode_cases u pos hlt
      have stop : R r = false → C u[pos] = false → ∃ k, pos ≤ k ∧ k ≤ u.size ∧ (∀ m, (h : m < u.size) → pos ≤ m → m < k → C u[m] = true) ∧ (∀ h : k < u.size, C u[k] = false) ∧
          Lib.idxFuncFrom R false u (f + 1) pos = if k < u.size then (k : Int) else -1 := fun hr hw =>
        ⟨pos, Nat.le_refl _, h2, fun m _ a b => absurd b (by omega), fun _ => hw, by rw [Lib.idxFuncFrom, if_pos hlt, if_pos hlt, hd, if_pos hr]⟩
      by_cases hr : r < 128
      · obtain ⟨rfl, rfl⟩ := h4 hr
        cases hw : C u[pos] with
        | false => exact stop (by rw [hC]; exact hw) hw
        | true =>
          obtain ⟨k, g1, g2, g3, g4, g5⟩ := ih (pos + 1) (by omega) (by omega)
          refine ⟨k, by omega, g2, fun m hm a b => ?_, g4, ?_⟩
          · by_cases e : m = pos
            · subst e
              exact hw
            · exact g3 m hm (by omega) b
          · rw [Lib.idxFuncFrom, if_pos hlt, hd, if_neg (by rw [hC, hw]; simp)]
            exact g5
      · exact stop (hH r (by omega)) (by rw [← hC]; exact hH _ (h5 (by omega)))
    · obtain rfl : pos = u.size := by omega
      exact ⟨u.size, Nat.le_refl _, Nat.le_refl _, fun m h a b => absurd h (by omega), fun h => absurd h (Nat.lt_irrefl _), by rw [Lib.idxFuncFrom_end _ _ _ _ _ hlt, if_neg hlt]⟩

theorem trim_run (R : Nat → Bool) (C : UInt8 → Bool) (hC : ∀ c, R c.toNat = C c) (hH : ∀ r, 128 ≤ r → R r = false) (s : ByteArray) (i : Nat) (hi : i ≤ s.size) : ∃ k, i ≤ k ∧ k ≤ s.size ∧ (Lib.trimLeftF R (s.extract i s.size)).size = s.size - k ∧ (restOf s i).dropWhile C = restOf s k ∧ (⟨((restOf s i).takeWhile C).toArray⟩ : ByteArray) = s.extract i k := by
  have hus : (s.extract i s.size).size = s.size - i := by rw [ByteArray.size_extract]; omega
  obtain ⟨k, _, h2, h3, h4, h5⟩ := idx_run R C hC hH (s.extract i s.size) (s.extract i s.size).size 0 (by omega) (by omega)
  have hget : ∀ m, (h : m < (s.extract i s.size).size) → (s.extract i s.size)[m] = s[i + m]'(by omega) := fun m h => by
    rw [ByteArray.getElem_extract]
  refine ⟨i + k, by omega, by omega, ?_, run_end C s (i + k) (by omega) (fun h => ?_) k i rfl (fun m h a => ?_)⟩
  · unfold Lib.trimLeftF Lib.idxFunc
    rw [h5]
    by_cases hk : k < (s.extract i s.size).size
    · rw [if_pos hk, if_neg (by omega), ByteArray.size_extract]
      omega
    · rw [if_neg hk, if_pos rfl]
      show 0 = _
      omega
  · have := h4 (by omega)
    rw [hget] at this
    exact this
  · have := h3 (m - i) (by omega) (Nat.zero_le _) (by omega)
    rw [hget] at this
    have e : i + (m - i) = m := by omega
    simp only [e] at this
    exact this

theorem rd_below {w w' : World} (h : Below w.drew.heap.size w.drew w') : Below w.heap.size w w' := (Below.refl w.heap.size w).drew.trans h
theorem RAt.wgrown {w w' : World} {ps pa i : Nat} {s : ByteArray} (_ : RAt w ps pa s i) (hb : Below w.heap.size w w') : w.grownBy w' (some pa) := only_below (only_refl w (some pa)) hb
theorem pred_name (w : World) : PredAtRunes Tryz.prog 76 #[] nameR w := fun W x _ _ =>
  (nameRune_any x W).mono fun _ _ ⟨h1, h2⟩ => ⟨h1, 0, h2.symm⟩
theorem enters_name : ∀ args w, (callFunc 76 args).run Tryz.prog w = .ok (.enter 76 args) w := enters_of Tryz.func76 (by kernel_rfl) rfl

/-- The word from i on is handed back; the reader stands behind it. -/
def RunR (C : UInt8 → Bool) (w : World) (ps pa : Nat) (s : ByteArray) (i : Nat) (e : Ending) (w' : World) : Prop :=
  ∃ k, i ≤ k ∧ ReadR w ps pa s (.string (s.extract i k)) k e w' ∧ (restOf s i).dropWhile C = restOf s k ∧ (⟨((restOf s i).takeWhile C).toArray⟩ : ByteArray) = s.extract i k

set_option maxHeartbeats 4000000 in
theorem takeRun_any (f : Nat) (ent : ∀ args w, (callFunc f args).run Tryz.prog w = .ok (.enter f args) w) (R : Nat → Bool) (C : UInt8 → Bool) (hC : ∀ c, R c.toNat = C c) (hH : ∀ r, 128 ≤ r → R r = false) (hPr : ∀ w, PredAtRunes Tryz.prog f #[] R w) (ps pa i : Nat) (s : ByteArray) (w : World) (h : RAt w ps pa s i) (hs : s.size ≤ 1048576) :
    Calls Tryz.prog 39 #[.func (.func f) #[] #[], .pointer (some ⟨pa, 0, none⟩), .pointer (some ⟨ps, 0, none⟩)] w (RunR C w ps pa s i) := by
  have c0 : w.cell? ⟨ps, 0, none⟩ = some (.string s) := Whole1.cell h.str 0
  have c1 : w.cell? ⟨pa, 0, none⟩ = some (.int .i64 (i : Int)) := Whole1.cell h.place 0
  obtain ⟨k, hik, hks, htr, hdrop, htake⟩ := trim_run R C hC hH s i h.le
  have hl1 : (0 : Int) ≤ (i : Int) := by omega
  have hl2 : (i : Int) ≤ (s.size : Int) := by have := h.le; omega
  have hl3 : (i : Int) ≤ (k : Int) := by omega
  have hl4 : (k : Int) ≤ (s.size : Int) := by omega
  have hlk : (0 : Int) ≤ (k : Int) := by omega
  have hT : Calls Tryz.prog 40 #[.string (s.extract i s.size), .func (.func f) #[] #[]] w.drew fun e w' => e = .returned (.string (Lib.trimLeftF R (s.extract i s.size))) ∧ Below w.drew.heap.size w.drew w' :=
    Any.strings_TrimLeftFunc_runes Tryz.laysTrimL f #[] ent R (s.extract i s.size) w.drew (hPr _)
  generalize Lib.trimLeftF R (s.extract i s.size) = tr at *
  have hwr : IntKind.i64.wrap ((s.size : Int) - (tr.size : Int)) = (k : Int) := by rw [IntKind.wrap_i64, htr]; omega
  have HT := Lib.hid hT
  have HD := Lib.hid (And.intro hdrop htake)
  have HH := Lib.hid h
  have hps := h.lts
  have hpa := h.lta
  clear h hT hdrop htake htr
  go_enter Tryz.func39, Tryz.ntmps39
  go_upto_region 2 with fail
  go_region_held3 (fun x : World => x.cell? ⟨ps, 0, none⟩ = some (.string s)) (first | assumption | go_keep)
    (first
      | (go_simp; go_at_call 40; (with_reducible refine HT.out.mono ?_); rintro e w1 ⟨rfl, hb'⟩; have hb := rd_below hb'; have hR := HH.out.below hb hps hpa; have d0 : w1.cell? ⟨ps, 0, none⟩ = some (.string s) := Whole1.cell hR.str 0; have d1 : w1.cell? ⟨pa, 0, none⟩ = some (.int .i64 (i : Int)) := Whole1.cell hR.place 0; have g1 : w1.frozen? ⟨pa, 0, none⟩ = false := Whole1.free hR.place 0; have HR := Lib.hid (hR.seti k hks); have HG := Lib.hid (only_set (HH.out.wgrown hb) 0 (.int .i64 (k : Int))); have x0 : (w1.setCell ⟨pa, 0, none⟩ (.int .i64 (k : Int))).cell? ⟨ps, 0, none⟩ = some (.string s) := Whole1.cell HR.out.str 0; clear hR hb hb'))
  have x1 : (w1.setCell ⟨pa, 0, none⟩ (.int .i64 (k : Int))).cell? ⟨pa, 0, none⟩ = some (.int .i64 (k : Int)) := Whole1.cell HR.out.place 0
  clear d0 d1 g1
  generalize w1.setCell ⟨pa, 0, none⟩ (.int .i64 (k : Int)) = w2 at *
  have HC := Lib.hid (clone_any (s.extract i k) w2 (by rw [ByteArray.size_extract]; omega))
  go_wp2_with fail
  refine HC.out.mono ?_
  rintro e w3 ⟨rfl, hb3⟩
  go_wp2
  go_ret
  exact ⟨k, hik, ⟨rfl, HR.out.below hb3 HR.out.lts HR.out.lta, only_below HG.out hb3⟩, HD.out⟩

theorem set3_kept (w : World) (r : Nat) (a b c : Value) (g : Nat) (hg : g ≠ r) : (((w.setCell ⟨r, 0, none⟩ a).setCell ⟨r, 1, none⟩ b).setCell ⟨r, 2, none⟩ c).heap[g]? = w.heap[g]? := by
  rw [Below.heap_setCell _ _ _ _ hg, Below.heap_setCell _ _ _ _ hg, Below.heap_setCell _ _ _ _ hg]
theorem RAt.set3 {w : World} {ps pa i r : Nat} {s : ByteArray} (h : RAt w ps pa s i) (hs : ps ≠ r) (ha : pa ≠ r) (a b c : Value) : RAt (((w.setCell ⟨r, 0, none⟩ a).setCell ⟨r, 1, none⟩ b).setCell ⟨r, 2, none⟩ c) ps pa s i :=
  ⟨(set3_kept _ _ _ _ _ _ hs).trans h.str, (set3_kept _ _ _ _ _ _ ha).trans h.place, h.ne, h.le⟩
set_option maxHeartbeats 1000000 in
theorem readerOf_any (s : ByteArray) (w : World) : Calls Tryz.prog 17 #[.string s] w fun e w' =>
    ∃ ps pa, e = .returned (.agg #[rdAcc ps pa, rdTak ps pa, rdEnd ps pa]) ∧ RAt w' ps pa s 0 ∧ Below w.heap.size w w' ∧ w.heap.size ≤ ps ∧ w.heap.size ≤ pa := by
  obtain ⟨hb0, p0, q0, r0, hs0⟩ := boxes3 w 9 42 3 #[.string s] #[.nilFunc, .nilFunc, .nilFunc] #[.int .i64 0]
  have d0 : (((w.alloc (.cells #[.string s] 9)).alloc (.cells #[.nilFunc, .nilFunc, .nilFunc] 42)).alloc (.cells #[.int .i64 0] 3)).cell? ⟨w.heap.size + 1, 0, none⟩ = some .nilFunc := q0.cell 0
  have d1 : (((w.alloc (.cells #[.string s] 9)).alloc (.cells #[.nilFunc, .nilFunc, .nilFunc] 42)).alloc (.cells #[.int .i64 0] 3)).cell? ⟨w.heap.size + 1, 1, none⟩ = some .nilFunc := q0.cell 1
  have d2 : (((w.alloc (.cells #[.string s] 9)).alloc (.cells #[.nilFunc, .nilFunc, .nilFunc] 42)).alloc (.cells #[.int .i64 0] 3)).cell? ⟨w.heap.size + 1, 2, none⟩ = some .nilFunc := q0.cell 2
  have f0 : (((w.alloc (.cells #[.string s] 9)).alloc (.cells #[.nilFunc, .nilFunc, .nilFunc] 42)).alloc (.cells #[.int .i64 0] 3)).frozen? ⟨w.heap.size + 1, 0, none⟩ = false := q0.free 0
  have f1 : (((w.alloc (.cells #[.string s] 9)).alloc (.cells #[.nilFunc, .nilFunc, .nilFunc] 42)).alloc (.cells #[.int .i64 0] 3)).frozen? ⟨w.heap.size + 1, 1, none⟩ = false := q0.free 1
  have f2 : (((w.alloc (.cells #[.string s] 9)).alloc (.cells #[.nilFunc, .nilFunc, .nilFunc] 42)).alloc (.cells #[.int .i64 0] 3)).frozen? ⟨w.heap.size + 1, 2, none⟩ = false := q0.free 2
  have hmf : ∀ (fn : Fn) (first cap : Array Value) (w : World), (Instr.makeFunc fn first cap).run Tryz.prog w = .ok (.func fn first cap) w := fun _ _ _ _ => rfl
  have HR := Lib.hid (⟨p0, r0, by omega, Nat.zero_le _⟩ : RAt _ w.heap.size (w.heap.size + 1 + 1) s 0)
  have HB := Lib.hid hb0
  clear p0 q0 r0 hb0 hs0
  go_enter Tryz.func17, Tryz.ntmps17
  go_upto_region 2 with fail
  generalize ((w.alloc (.cells #[.string s] 9)).alloc (.cells #[.nilFunc, .nilFunc, .nilFunc] 42)).alloc (.cells #[.int .i64 0] 3) = w1 at *
  go_wp2
  exact bodyPost_ret (v := .agg #[rdAcc w.heap.size (w.heap.size + 1 + 1), rdTak w.heap.size (w.heap.size + 1 + 1), rdEnd w.heap.size (w.heap.size + 1 + 1)]) (by simp [results, Tryz.results17, go_sem, d0, d1, d2]) rfl ⟨_, _, rfl, HR.out.set3 (by omega) (by omega) _ _ _, ((HB.out.setCell (by show w.heap.size ≤ w.heap.size + 1; omega) _).setCell (by show w.heap.size ≤ w.heap.size + 1; omega) _).setCell (by show w.heap.size ≤ w.heap.size + 1; omega) _, Nat.le_refl _, by omega⟩


end Go.Proofs.YtceclhndagoddaaGreatDoor
end

section
namespace Go.Proofs
open Go.Shelf
def Tryz.laysC172_ren : Go.Shelf.Ren := ⟨fun | 172 => 94 | 244 => 100 | 245 => 101 | 247 => 108 | 279 => 109 | 280 => 110 | 281 => 111 | 282 => 112 | 287 => 118 | 316 => 73 | 171 => 67 | 205 => 119 | 321 => 122 | 322 => 123 | 243 => 87 | 246 => 98 | 283 => 103 | 284 => 104 | 285 => 105 | 286 => 106 | 129 => 114 | 317 => 113 | 318 => 115 | 319 => 116 | 320 => 117 | 337 => 120 | 338 => 121 | n => n, fun | 9 => 9 | 3 => 3 | 75 => 117 | 76 => 118 | 4 => 4 | 5 => 5 | 167 => 136 | 37 => 22 | 0 => 0 | 85 => 137 | 2 => 2 | 168 => 139 | 53 => 129 | 175 => 148 | 46 => 109 | 210 => 151 | 127 => 122 | 145 => 157 | 143 => 155 | 21 => 21 | 171 => 128 | 173 => 132 | 212 => 143 | 51 => 144 | 20 => 20 | 213 => 145 | 232 => 158 | 233 => 159 | 80 => 120 | n => n, fun | 15 => 2 | 16 => 3 | 17 => 1 | 18 => 4 | 19 => 5 | n => n⟩
theorem Tryz.laysC172 : Go.Proofs.LaysC.n172 Tryz.prog Tryz.laysC172_ren := {
  mixed := by kernel_rfl
  f129 := Tryz.func114.trans (congrArg some (by kernel_rfl))
  f171 := Tryz.func67.trans (congrArg some (by kernel_rfl))
  f172 := Tryz.func94.trans (congrArg some (by kernel_rfl))
  f205 := Tryz.func119.trans (congrArg some (by kernel_rfl))
  f243 := Tryz.func87.trans (congrArg some (by kernel_rfl))
  f244 := Tryz.func100.trans (congrArg some (by kernel_rfl))
  f245 := Tryz.func101.trans (congrArg some (by kernel_rfl))
  f246 := Tryz.func98.trans (congrArg some (by kernel_rfl))
  f247 := Tryz.func108.trans (congrArg some (by kernel_rfl))
  f279 := Tryz.func109.trans (congrArg some (by kernel_rfl))
  f280 := Tryz.func110.trans (congrArg some (by kernel_rfl))
  f281 := Tryz.func111.trans (congrArg some (by kernel_rfl))
  f282 := Tryz.func112.trans (congrArg some (by kernel_rfl))
  f283 := Tryz.func103.trans (congrArg some (by kernel_rfl))
  f284 := Tryz.func104.trans (congrArg some (by kernel_rfl))
  f285 := Tryz.func105.trans (congrArg some (by kernel_rfl))
  f286 := Tryz.func106.trans (congrArg some (by kernel_rfl))
  f287 := Tryz.func118.trans (congrArg some (by kernel_rfl))
  f316 := Tryz.func73.trans (congrArg some (by kernel_rfl))
  f317 := Tryz.func113.trans (congrArg some (by kernel_rfl))
  f318 := Tryz.func115.trans (congrArg some (by kernel_rfl))
  f319 := Tryz.func116.trans (congrArg some (by kernel_rfl))
  f320 := Tryz.func117.trans (congrArg some (by kernel_rfl))
  f321 := Tryz.func122.trans (congrArg some (by kernel_rfl))
  f322 := Tryz.func123.trans (congrArg some (by kernel_rfl))
  f337 := Tryz.func120.trans (congrArg some (by kernel_rfl))
  f338 := Tryz.func121.trans (congrArg some (by kernel_rfl))
  t0 := Tryz.underlying0
  a0 := Tryz.isAgg0
  z0 := Tryz.sizeOf0
  v0 := Tryz.zeroValue0
  t2 := Tryz.underlying2
  a2 := Tryz.isAgg2
  z2 := Tryz.sizeOf2
  v2 := Tryz.zeroValue2
  t3 := Tryz.underlying3
  a3 := Tryz.isAgg3
  z3 := Tryz.sizeOf3
  v3 := Tryz.zeroValue3
  t4 := Tryz.underlying4
  a4 := Tryz.isAgg4
  z4 := Tryz.sizeOf4
  v4 := Tryz.zeroValue4
  t5 := Tryz.underlying5
  a5 := Tryz.isAgg5
  z5 := Tryz.sizeOf5
  v5 := Tryz.zeroValue5
  t9 := Tryz.underlying9
  a9 := Tryz.isAgg9
  z9 := Tryz.sizeOf9
  v9 := Tryz.zeroValue9
  t20 := Tryz.underlying20
  a20 := Tryz.isAgg20
  z20 := Tryz.sizeOf20
  v20 := Tryz.zeroValue20
  t21 := Tryz.underlying21
  a21 := Tryz.isAgg21
  z21 := Tryz.sizeOf21
  v21 := Tryz.zeroValue21
  t37 := Tryz.underlying22
  a37 := Tryz.isAgg22
  z37 := Tryz.sizeOf22
  v37 := Tryz.zeroValue22
  t46 := Tryz.underlying109
  a46 := Tryz.isAgg109
  z46 := Tryz.sizeOf109
  v46 := Tryz.zeroValue109
  t51 := Tryz.underlying144
  a51 := Tryz.isAgg144
  z51 := Tryz.sizeOf144
  v51 := Tryz.zeroValue144
  t53 := Tryz.underlying129
  a53 := Tryz.isAgg129
  z53 := Tryz.sizeOf129
  v53 := Tryz.zeroValue129
  t75 := Tryz.underlying117
  a75 := Tryz.isAgg117
  z75 := Tryz.sizeOf117
  v75 := Tryz.zeroValue117
  t76 := Tryz.underlying118
  a76 := Tryz.isAgg118
  z76 := Tryz.sizeOf118
  v76 := Tryz.zeroValue118
  t85 := Tryz.underlying137
  a85 := Tryz.isAgg137
  z85 := Tryz.sizeOf137
  v85 := Tryz.zeroValue137
  t127 := Tryz.underlying122
  a127 := Tryz.isAgg122
  z127 := Tryz.sizeOf122
  v127 := Tryz.zeroValue122
  t143 := Tryz.underlying155
  a143 := Tryz.isAgg155
  z143 := Tryz.sizeOf155
  v143 := Tryz.zeroValue155
  t145 := Tryz.underlying157
  a145 := Tryz.isAgg157
  z145 := Tryz.sizeOf157
  v145 := Tryz.zeroValue157
  t167 := Tryz.underlying136
  a167 := Tryz.isAgg136
  z167 := Tryz.sizeOf136
  v167 := Tryz.zeroValue136
  t168 := Tryz.underlying139
  a168 := Tryz.isAgg139
  z168 := Tryz.sizeOf139
  v168 := Tryz.zeroValue139
  t171 := Tryz.underlying128
  a171 := Tryz.isAgg128
  z171 := Tryz.sizeOf128
  v171 := Tryz.zeroValue128
  t173 := Tryz.underlying132
  a173 := Tryz.isAgg132
  z173 := Tryz.sizeOf132
  v173 := Tryz.zeroValue132
  t175 := Tryz.underlying148
  a175 := Tryz.isAgg148
  z175 := Tryz.sizeOf148
  v175 := Tryz.zeroValue148
  t210 := Tryz.underlying151
  a210 := Tryz.isAgg151
  z210 := Tryz.sizeOf151
  v210 := Tryz.zeroValue151
  t212 := Tryz.underlying143
  a212 := Tryz.isAgg143
  z212 := Tryz.sizeOf143
  v212 := Tryz.zeroValue143
  t213 := Tryz.underlying145
  a213 := Tryz.isAgg145
  z213 := Tryz.sizeOf145
  t232 := Tryz.underlying158
  a232 := Tryz.isAgg158
  z232 := Tryz.sizeOf158
  v232 := Tryz.zeroValue158
  t233 := Tryz.underlying159
  a233 := Tryz.isAgg159
  z233 := Tryz.sizeOf159
  v233 := Tryz.zeroValue159
  g15 := by kernel_rfl
  g16 := by kernel_rfl
  g17 := by kernel_rfl
  g18 := by kernel_rfl
  g19 := by kernel_rfl
  t80 := Tryz.underlying120
  a80 := Tryz.isAgg120
  z80 := Tryz.sizeOf120
  v80 := Tryz.zeroValue120
  i0 := by kernel_rfl
  i2 := by kernel_rfl
  i3 := by kernel_rfl
  i4 := by kernel_rfl
  i5 := by kernel_rfl
  i9 := by kernel_rfl
  i20 := by kernel_rfl
  i21 := by kernel_rfl
  i37 := by kernel_rfl
  i46 := by kernel_rfl
  i51 := by kernel_rfl
  i53 := by kernel_rfl
  i75 := by kernel_rfl
  i76 := by kernel_rfl
  i80 := by kernel_rfl
  i85 := by kernel_rfl
  i127 := by kernel_rfl
  i143 := by kernel_rfl
  i145 := by kernel_rfl
  i167 := by kernel_rfl
  i168 := by kernel_rfl
  i171 := by kernel_rfl
  i173 := by kernel_rfl
  i175 := by kernel_rfl
  i210 := by kernel_rfl
  i212 := by kernel_rfl
  i232 := by kernel_rfl
  i233 := by kernel_rfl
  m15 := by kernel_rfl
  m16 := by kernel_rfl
  m17 := by kernel_rfl
  m18 := by kernel_rfl
  m19 := by kernel_rfl
  c0 := by kernel_rfl
  c2 := by kernel_rfl
  c3 := by kernel_rfl
  c4 := by kernel_rfl
  c5 := by kernel_rfl
  c9 := by kernel_rfl
  c20 := by kernel_rfl
  c21 := by kernel_rfl
  c37 := by kernel_rfl
  c46 := by kernel_rfl
  c51 := by kernel_rfl
  c53 := by kernel_rfl
  c75 := by kernel_rfl
  c76 := by kernel_rfl
  c80 := by kernel_rfl
  c85 := by kernel_rfl
  c127 := by kernel_rfl
  c143 := by kernel_rfl
  c145 := by kernel_rfl
  c167 := by kernel_rfl
  c168 := by kernel_rfl
  c171 := by kernel_rfl
  c173 := by kernel_rfl
  c175 := by kernel_rfl
  c210 := by kernel_rfl
  c212 := by kernel_rfl
  c213 := by kernel_rfl
  c232 := by kernel_rfl
  c233 := by kernel_rfl }
end Go.Proofs
end

section
namespace Go.Proofs.YtceclhndagoddaaGreatDoor
open Go.RowKit Go.Shelf

/-- The two sentinels of strconv hold values that are not nil. -/
def ErrsAt (w : World) : Prop := (∃ t p, w.var? Tryz.prog "strconv.ErrSyntax" = some #[.iface t p]) ∧ ∃ t p, w.var? Tryz.prog "strconv.ErrRange" = some #[.iface t p]

theorem var_below {w w' : World} {B : Nat} {n : String} {g : Nat} (hb : Below B w w') (hg : Tryz.prog.globalNamed n = some g) (hB : g < B) : w'.var? Tryz.prog n = w.var? Tryz.prog n := by
  unfold World.var?
  rw [hg, Option.bind_some, Option.bind_some, hb.block _ hB]

theorem var_lt {w : World} {n : String} {g : Nat} {cs : Array Value} (hg : Tryz.prog.globalNamed n = some g) (h : w.var? Tryz.prog n = some cs) : g < w.heap.size := by
  unfold World.var? at h
  rw [hg, Option.bind_some] at h
  by_cases hlt : g < w.heap.size
  · exact hlt
  · rw [Array.getElem?_eq_none (by omega)] at h
    cases h

theorem ErrsAt.below {w w' : World} {B : Nat} (h : ErrsAt w) (hb : Below B w w') (hB : 2 < B ∧ 3 < B) : ErrsAt w' := by
  obtain ⟨⟨t, p, h1⟩, ⟨t', p', h2⟩⟩ := h
  exact ⟨⟨t, p, (var_below hb (by kernel_rfl) hB.1).trans h1⟩, ⟨t', p', (var_below hb (by kernel_rfl) hB.2).trans h2⟩⟩

theorem atoi_ok (s : ByteArray) (w : World) (hs : s.size ≤ 1048576) (v : Int) (h : Lib.atoiAll s.data.toList = .ok v) :
    Calls Tryz.prog 94 #[.string s] w fun e w' => e = .returned (.tuple #[.int .i64 v, .nilIface]) ∧ Below w.heap.size w w' := by
  refine (Any.strconv_Atoi_ok Tryz.laysC172 s (by omega) v h w).mono fun e w' ⟨he, hw⟩ => ⟨he, ?_⟩
  rcases hw with rfl | ⟨t, rfl⟩
  · exact Below.refl _ _
  · exact Lib.bytesWorld_below _ _ _

/-- An error comes back. -/
def AtoiErr (w : World) (e : Ending) (w' : World) : Prop := ∃ n t p, e = .returned (.tuple #[.int .i64 n, .iface t (.pointer (some p))]) ∧ Below w.heap.size w w'

theorem atoi_err (s : ByteArray) (w : World) (hs : s.size ≤ 1048576) (hE : ErrsAt w) (h : ∀ v, Lib.atoiAll s.data.toList ≠ .ok v) :
    Calls Tryz.prog 94 #[.string s] w (AtoiErr w) := by
  obtain ⟨⟨t, p, h1⟩, ⟨t', p', h2⟩⟩ := hE
  rcases h0 : Lib.atoiAll s.data.toList with v | _ | _
  · exact absurd h0 (h v)
  · exact (Any.strconv_Atoi_syntax_var Tryz.laysC172 s (by omega) h0 t p w h1).mono fun e w' ⟨N, he, _, _, hb⟩ => ⟨_, _, _, he, hb⟩
  · exact (Any.strconv_Atoi_range_var Tryz.laysC172 s (by omega) h0 t' p' w h2).mono fun e w' ⟨N, he, _, _, hb⟩ => ⟨_, _, _, he, hb⟩

end Go.Proofs.YtceclhndagoddaaGreatDoor
end

section
namespace Go.Proofs.YtceclhndagoddaaGreatDoor
open Go.RowKit

/-- A panic. -/
def Panics (w : World) (e : Ending) (w' : World) : Prop := (∃ t v, e = .panicked [{ v := .iface t v, recovered := false }]) ∧ Below w.heap.size w w'

theorem str_of_list {s : ByteArray} {l : List UInt8} (h : s.data.toList = l) : s = ⟨l.toArray⟩ := by
  cases s
  simp at h
  subst h
  simp

set_option maxHeartbeats 400000 in
theorem within_yes (s : ByteArray) (lo hi n : Int) (w : World) (hs : s.size ≤ 1048576) (h0 : lo ≤ n) (h1 : n ≤ hi) (hlo : -(2 ^ 63) ≤ lo) (hhi : hi ≤ 2 ^ 63 - 1) (hn : s.data.toList = Lib.itoa n) (ht : Pow10At w) (hsz : 1 < w.heap.size) :
    Calls Tryz.prog 79 #[.string s, .int .i64 lo, .int .i64 hi] w fun e w' => e = .returned (.int .i64 n) ∧ Below w.heap.size w w' := by
  have ha := Lib.hid (atoi_ok s w hs n (by rw [hn]; exact atoi_itoa n (by omega) (by omega)))
  obtain rfl := str_of_list hn
  clear hn
  have hl1 : ¬ n < lo := by omega
  have hl2 : ¬ hi < n := by omega
  go_enter Tryz.func79, Tryz.ntmps79
  go_wp2_with fail
  refine ha.out.mono ?_
  rintro e w1 ⟨rfl, hb1⟩
  have ht1 := Lib.hid (implFormatInt_any n w1 (by omega) (by omega) (ht.below hb1 hsz))
  clear ht ha
  go_wp2_with fail
  refine ht1.out.mono ?_
  rintro e w2 ⟨rfl, hb2⟩
  go_wp2
  go_ret
  exact ⟨rfl, hb1.trans (hb2.mono hb1.size)⟩

set_option maxHeartbeats 400000 in
theorem within_no (s : ByteArray) (lo hi : Int) (w : World) (hs : s.size ≤ 1048576) (hlo : -(2 ^ 63) ≤ lo) (hhi : hi ≤ 2 ^ 63 - 1) (hn : ∀ n, lo ≤ n → n ≤ hi → s.data.toList ≠ Lib.itoa n) (ht : Pow10At w) (hE : ErrsAt w) (hsz : 1 < w.heap.size) :
    Calls Tryz.prog 79 #[.string s, .int .i64 lo, .int .i64 hi] w (Panics w) := by
  have hN := Lib.hid hn
  clear hn
  by_cases hok : ∃ v, Lib.atoiAll s.data.toList = .ok v
  · obtain ⟨v, hv⟩ := hok
    have ha := Lib.hid (atoi_ok s w hs v hv)
    clear hv
    by_cases hl1 : v < lo
    · clear ht hE
      go_enter Tryz.func79, Tryz.ntmps79
      go_wp2_with fail
      refine ha.out.mono ?_
      rintro e w1 ⟨rfl, hb1⟩
      go_wp2
      exact ⟨rfl, ⟨_, _, rfl⟩, hb1⟩
    · by_cases hl2 : hi < v
      · clear ht hE
        go_enter Tryz.func79, Tryz.ntmps79
        go_wp2_with fail
        refine ha.out.mono ?_
        rintro e w1 ⟨rfl, hb1⟩
        go_wp2
        exact ⟨rfl, ⟨_, _, rfl⟩, hb1⟩
      · have hne : (Lib.itoa v == s.toList) = false := by
          rw [beq_eq_false_iff_ne, ByteArray.toList_eq]
          intro e
          exact hN.out v (by omega) (by omega) e.symm
        clear hE
        go_enter Tryz.func79, Tryz.ntmps79
        go_wp2_with fail
        refine ha.out.mono ?_
        rintro e w1 ⟨rfl, hb1⟩
        have ht1 := Lib.hid (implFormatInt_any v w1 (by omega) (by omega) (ht.below hb1 hsz))
        clear ht ha
        go_wp2_with fail
        refine ht1.out.mono ?_
        rintro e w2 ⟨rfl, hb2⟩
        go_wp2
        exact ⟨rfl, ⟨_, _, rfl⟩, hb1.trans (hb2.mono hb1.size)⟩
  · have ha := Lib.hid (atoi_err s w hs hE (fun v hv => hok ⟨v, hv⟩))
    clear ht hE
    go_enter Tryz.func79, Tryz.ntmps79
    go_wp2_with fail
    refine ha.out.mono ?_
    rintro e w1 ⟨n, t, p, rfl, hb1⟩
    go_wp2
    exact ⟨rfl, ⟨_, _, rfl⟩, hb1⟩

end Go.Proofs.YtceclhndagoddaaGreatDoor
end
