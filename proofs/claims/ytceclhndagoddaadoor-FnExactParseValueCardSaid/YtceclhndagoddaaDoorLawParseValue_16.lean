/- Lemmas: RPos, RFun, ShelfAtoi, Atoi, IntW, ImplParse. -/
import Derived.Shelf.Strings.Prefix
import Derived.Shelf.GgClosure.StringsRunes
import Derived.Test.YtceclhndagoddaaDoorProg
import Derived.OrdersHeld
import Derived.RegionTactic
import Derived.Lib.Hide
import Derived.Test.YtceclhndagoddaaDoorLawParseValue_9
import Derived.Test.YtceclhndagoddaaDoorLawParseValue_7
import Derived.Test.YtceclhndagoddaaDoorLawParseValue_15
import Derived.Test.YtceclhndagoddaaDoorLawParseValue_2
import Derived.Deep.RegionHeld3
import Derived.Deep.DeepCutAuto
import Derived.Deep.AppendLies
import Derived.Laws.EntriesVeiled
import Derived.RangeFuncNested
import Derived.RangeFuncBox
import Derived.Shelf.Strconv.Atoi
import Derived.Shelf.Strconv.Itoa0
import Derived.Shelf.Strconv.Itoa1
import Derived.Shelf.LaysM
import Derived.Shelf.Strconv.Itoa2
import Derived.Shelf.Strconv.Itoa3
import Derived.Shelf.Strconv.AtoiErrFast
import Derived.Shelf.Strconv.ParseIntEmpty
import Derived.Shelf.Strconv.AtoiFail
import Derived.Shelf.Strconv.Clone
import Derived.Shelf.Strconv.SyntaxError
import Derived.Shelf.LaysC
import Derived.Shelf.Strconv.ToError
import Derived.Shelf.Strconv.Lower
import Derived.Shelf.Strconv.ParseUint10
import Derived.Shelf.Strconv.ParseUint10Empty
import Derived.Shelf.Strconv.ParseUint10Any
import Derived.Shelf.Strconv.ParseInt10
import Derived.Shelf.Strconv.AtoiLong
import Derived.Shelf.Strconv.AtoiInnerAll
import Derived.Shelf.Strconv.RangeError
import Derived.Shelf.Strconv.ToErrorRange
import Derived.Shelf.Strconv.AtoiAll
import Derived.Shelf.Strconv.ErrVarAll
import Derived.Shelf.GgClosure.StringsIndexFunc
import Derived.Shelf.GgClosure.StringsTrimFunc
import Derived.Test.YtceclhndagoddaaDoorLawParseValue_8
import Derived.Below
import Derived.Test.YtceclhndagoddaaDoorLawParseValue_12
import Derived.WalkKit
import Derived.BigGuard
import Derived.WalkLawsBesides
import Derived.Lib.IfaceNeq
import Derived.Defers
import Derived.Recover

section
namespace Go.Proofs
open Go.Shelf
def Tryd.laysPrefix_ren : Go.Shelf.Ren := ⟨fun | 99 => 69 | 206 => 108 | n => n, fun | 9 => 9 | 3 => 3 | 4 => 4 | n => n, fun | n => n⟩
theorem Tryd.laysPrefix : Go.Proofs.Lays.n99 Tryd.prog Tryd.laysPrefix_ren := {
  mixed := by kernel_rfl
  f99 := Tryd.func69.trans (congrArg some (by kernel_rfl))
  f206 := Tryd.func108.trans (congrArg some (by kernel_rfl))
  t3 := Tryd.underlying3
  a3 := Tryd.isAgg3
  z3 := Tryd.sizeOf3
  v3 := Tryd.zeroValue3
  t4 := Tryd.underlying4
  a4 := Tryd.isAgg4
  z4 := Tryd.sizeOf4
  v4 := Tryd.zeroValue4
  t9 := Tryd.underlying9
  a9 := Tryd.isAgg9
  z9 := Tryd.sizeOf9
  v9 := Tryd.zeroValue9 }
def Tryd.laysTrimL_ren : Go.Shelf.Ren := ⟨fun | 272 => 71 | 315 => 109 | n => n, fun | 9 => 9 | 3 => 3 | 4 => 4 | 0 => 0 | 21 => 21 | 40 => 86 | n => n, fun | n => n⟩
theorem Tryd.laysTrimL : Go.Proofs.Lays.n272 Tryd.prog Tryd.laysTrimL_ren := {
  mixed := by kernel_rfl
  f272 := Tryd.func71.trans (congrArg some (by kernel_rfl))
  f315 := Tryd.func109.trans (congrArg some (by kernel_rfl))
  t0 := Tryd.underlying0
  a0 := Tryd.isAgg0
  z0 := Tryd.sizeOf0
  v0 := Tryd.zeroValue0
  t3 := Tryd.underlying3
  a3 := Tryd.isAgg3
  z3 := Tryd.sizeOf3
  v3 := Tryd.zeroValue3
  t4 := Tryd.underlying4
  a4 := Tryd.isAgg4
  z4 := Tryd.sizeOf4
  v4 := Tryd.zeroValue4
  t9 := Tryd.underlying9
  a9 := Tryd.isAgg9
  z9 := Tryd.sizeOf9
  v9 := Tryd.zeroValue9
  t21 := Tryd.underlying21
  a21 := Tryd.isAgg21
  z21 := Tryd.sizeOf21
  v21 := Tryd.zeroValue21
  t40 := Tryd.underlying86
  a40 := Tryd.isAgg86
  z40 := Tryd.sizeOf86
  v40 := Tryd.zeroValue86 }
end Go.Proofs

namespace Go.Proofs.YtceclhndagoddaaDoor
open Go.RowKit

/-- The reader's variables: the text in block ps, the place in block pa. -/
structure RAt (w : World) (ps pa : Nat) (s : ByteArray) (i : Nat) : Prop where
  str : Whole1 w ps 9 #[.string s]
  place : Whole1 w pa 3 #[.int .i64 (i : Int)]
  ne : ps ≠ pa
  le : i ≤ s.size
theorem RAt.lts {w : World} {ps pa i : Nat} {s : ByteArray} (h : RAt w ps pa s i) : ps < w.heap.size := Whole1.lt h.str
theorem RAt.lta {w : World} {ps pa i : Nat} {s : ByteArray} (h : RAt w ps pa s i) : pa < w.heap.size := Whole1.lt h.place
theorem RAt.below {w w' : World} {ps pa i B : Nat} {s : ByteArray} (h : RAt w ps pa s i) (hb : Below B w w') (hs : ps < B) (ha : pa < B) : RAt w' ps pa s i := ⟨h.str.below hb hs, h.place.below hb ha, h.ne, h.le⟩
theorem RAt.drewN {w : World} {ps pa i : Nat} {s : ByteArray} (h : RAt w ps pa s i) (n : Nat) : RAt (w.drewN n) ps pa s i := ⟨h.str, h.place, h.ne, h.le⟩
theorem RAt.seti {w : World} {ps pa i : Nat} {s : ByteArray} (h : RAt w ps pa s i) (j : Nat) (hj : j ≤ s.size) : RAt (w.setCell ⟨pa, 0, none⟩ (.int .i64 (j : Int))) ps pa s j :=
  ⟨(Below.heap_setCell _ _ _ _ h.ne).trans h.str, Whole1.set h.place 0 _, h.ne, hj⟩
/-- The place of the reader. -/
def placeAt (w : World) (pa : Nat) : Nat := match w.cell? ⟨pa, 0, none⟩ with | some v => (intOf v).toNat | none => 0
theorem RAt.where {w : World} {ps pa i : Nat} {s : ByteArray} (h : RAt w ps pa s i) : placeAt w pa = i := by
  have c1 : w.cell? ⟨pa, 0, none⟩ = some (.int .i64 (i : Int)) := Whole1.cell h.place 0
  unfold placeAt
  rw [c1]
  simp [intOf]

/-- The reader: three function values. -/
abbrev rdAcc (ps pa : Nat) : Value := .func (.func 68) #[] #[.pointer (some ⟨ps, 0, none⟩), .pointer (some ⟨pa, 0, none⟩)]
abbrev rdTak (ps pa : Nat) : Value := .func (.func 70) #[] #[.pointer (some ⟨pa, 0, none⟩), .pointer (some ⟨ps, 0, none⟩)]
abbrev rdEnd (ps pa : Nat) : Value := .func (.func 73) #[] #[.pointer (some ⟨pa, 0, none⟩), .pointer (some ⟨ps, 0, none⟩)]

theorem rest_extract (s : ByteArray) (i : Nat) : (s.extract i s.size).data.toList = restOf s i := by
  unfold restOf
  rw [ByteArray.data_extract, Array.toList_extract, List.extract_eq_take_drop]
  exact List.take_of_length_le (by simp)
/-- The answer v; the place is j. -/
def ReadR (w : World) (ps pa : Nat) (s : ByteArray) (v : Value) (j : Nat) (e : Ending) (w' : World) : Prop := e = .returned v ∧ RAt w' ps pa s j ∧ w.grownBy w' (some pa)

theorem prefix_eats (p l : List UInt8) : Lib.hasPrefix l p = (eats p l).isSome := by
  unfold Lib.hasPrefix eats
  cases h : p.isPrefixOf l <;> rfl
theorem eats_rest {p : ByteArray} {s : ByteArray} {i : Nat} {r : List UInt8} (hi : i ≤ s.size) (h : eats p.data.toList (restOf s i) = some r) : i + p.size ≤ s.size ∧ r = restOf s (i + p.size) := by
  have e := eats_some h
  have hl := congrArg List.length e
  have h1 : (restOf s i).length = s.size - i := by unfold restOf; simp
  have h2 : p.data.toList.length = p.size := by simp
  rw [h1, List.length_append, h2] at hl
  refine ⟨by omega, ?_⟩
  have e2 := congrArg (List.drop p.size) e
  rw [List.drop_left' h2] at e2
  rw [← e2]
  unfold restOf
  rw [List.drop_drop]

set_option maxHeartbeats 1000000 in
theorem accE_yes (ps pa i : Nat) (s p : ByteArray) (r : List UInt8) (w : World) (h : RAt w ps pa s i) (hs : s.size ≤ 1048576) (hp : eats p.data.toList (restOf s i) = some r) :
    Calls Tryd.prog 68 #[.string p, .pointer (some ⟨ps, 0, none⟩), .pointer (some ⟨pa, 0, none⟩)] w (ReadR w ps pa s (.bool true) (i + p.size)) := by
  have c0 : w.cell? ⟨ps, 0, none⟩ = some (.string s) := Whole1.cell h.str 0
  have c1 : w.cell? ⟨pa, 0, none⟩ = some (.int .i64 (i : Int)) := Whole1.cell h.place 0
  have f1 : w.frozen? ⟨pa, 0, none⟩ = false := Whole1.free h.place 0
  obtain ⟨hle, _⟩ := eats_rest h.le hp
  have hwr : IntKind.i64.wrap ((i : Int) + (p.size : Int)) = ((i + p.size : Nat) : Int) := by rw [IntKind.wrap_i64]; omega
  have hl1 : (0 : Int) ≤ (i : Int) := by omega
  have hl2 : (i : Int) ≤ (s.size : Int) := by have := h.le; omega
  have HP := Any.strings_HasPrefix Tryd.laysPrefix (s.extract i s.size) p w
  rw [rest_extract, prefix_eats, hp] at HP
  have HP := Lib.hid HP
  have HH := Lib.hid (h.seti (i + p.size) hle)
  have HO := Lib.hid (only_set (only_refl w (some pa)) 0 (.int .i64 ((i + p.size : Nat) : Int)))
  clear h hp
  go_enter Tryd.func68, Tryd.ntmps68
  go_wp2_with fail
  refine HP.out.mono ?_
  rintro e w1 ⟨rfl, rfl⟩
  go_wp2
  go_ret
  exact ⟨rfl, HH.out, HO.out⟩

set_option maxHeartbeats 1000000 in
theorem accE_no (ps pa i : Nat) (s p : ByteArray) (w : World) (h : RAt w ps pa s i) (hp : eats p.data.toList (restOf s i) = none) :
    Calls Tryd.prog 68 #[.string p, .pointer (some ⟨ps, 0, none⟩), .pointer (some ⟨pa, 0, none⟩)] w (ReadR w ps pa s (.bool false) i) := by
  have c0 : w.cell? ⟨ps, 0, none⟩ = some (.string s) := Whole1.cell h.str 0
  have c1 : w.cell? ⟨pa, 0, none⟩ = some (.int .i64 (i : Int)) := Whole1.cell h.place 0
  have hl1 : (0 : Int) ≤ (i : Int) := by omega
  have hl2 : (i : Int) ≤ (s.size : Int) := by have := h.le; omega
  have HP := Any.strings_HasPrefix Tryd.laysPrefix (s.extract i s.size) p w
  rw [rest_extract, prefix_eats, hp] at HP
  have HP := Lib.hid HP
  have HH := Lib.hid h
  clear h hp
  go_enter Tryd.func68, Tryd.ntmps68
  go_wp2_with fail
  refine HP.out.mono ?_
  rintro e w1 ⟨rfl, rfl⟩
  go_wp2
  go_ret
  exact ⟨rfl, HH.out, only_refl _ _⟩

set_option maxHeartbeats 1000000 in
theorem end_any (ps pa i : Nat) (s : ByteArray) (w : World) (h : RAt w ps pa s i) :
    Calls Tryd.prog 73 #[.pointer (some ⟨pa, 0, none⟩), .pointer (some ⟨ps, 0, none⟩)] w fun e w' => e = .returned (.bool (decide (i = s.size))) ∧ w = w' := by
  have c0 : w.cell? ⟨ps, 0, none⟩ = some (.string s) := Whole1.cell h.str 0
  have c1 : w.cell? ⟨pa, 0, none⟩ = some (.int .i64 (i : Int)) := Whole1.cell h.place 0
  by_cases he : i = s.size
  · have hq : ((i : Int) == (s.size : Int)) = true := by simp [he]
    have hd := Lib.hid (decide_eq_true he)
    clear h he
    go_enter Tryd.func73, Tryd.ntmps73
    go_wp2
    go_ret
    exact ⟨by rw [hd.out]; rfl, rfl⟩
  · have hq : ((i : Int) == (s.size : Int)) = false := by rw [beq_eq_false_iff_ne]; omega
    have hd := Lib.hid (decide_eq_false he)
    clear h he
    go_enter Tryd.func73, Tryd.ntmps73
    go_wp2
    go_ret
    exact ⟨by rw [hd.out]; rfl, rfl⟩

/-- A rune of names. -/
def nameR (r : Nat) : Bool := (decide (48 ≤ r) && decide (r ≤ 57)) || (decide (97 ≤ r) && decide (r ≤ 122))

set_option maxHeartbeats 1000000 in
theorem nameRune_any (r : Nat) (w : World) :
    Calls Tryd.prog 113 #[.int .i32 (r : Int)] w fun e w' => e = .returned (.bool (nameR r)) ∧ w = w' := by
  by_cases h1 : 97 ≤ r ∧ r ≤ 122
  · have HL := Lib.hid (letter_yes (r : Int) w (by omega) (by omega))
    have hn : Hid (nameR r = true) := Lib.hid (by unfold nameR; simp [h1])
    clear h1
    go_enter Tryd.func113, Tryd.ntmps113
    go_wp2_with fail
    refine HL.out.mono ?_
    rintro e w1 ⟨rfl, rfl⟩
    go_wp2
    go_ret
    exact ⟨by rw [hn.out]; rfl, rfl⟩
  · have HL := Lib.hid (letter_no (r : Int) w (by omega))
    by_cases h2 : 48 ≤ r ∧ r ≤ 57
    · have HD := Lib.hid (digit_yes (r : Int) w (by omega) (by omega))
      have hn : Hid (nameR r = true) := Lib.hid (by unfold nameR; simp [h2])
      clear h1 h2
      go_enter Tryd.func113, Tryd.ntmps113
      go_wp2_with fail
      refine HL.out.mono ?_
      rintro e w1 ⟨rfl, rfl⟩
      go_wp2_with fail
      refine HD.out.mono ?_
      rintro e w1 ⟨rfl, rfl⟩
      go_wp2
      go_ret
      exact ⟨by rw [hn.out]; rfl, rfl⟩
    · have HD := Lib.hid (digit_no (r : Int) w (by omega))
      have hn : Hid (nameR r = false) := Lib.hid (by unfold nameR; simp; omega)
      clear h1 h2
      go_enter Tryd.func113, Tryd.ntmps113
      go_wp2_with fail
      refine HL.out.mono ?_
      rintro e w1 ⟨rfl, rfl⟩
      go_wp2_with fail
      refine HD.out.mono ?_
      rintro e w1 ⟨rfl, rfl⟩
      go_wp2
      go_ret
      exact ⟨by rw [hn.out]; rfl, rfl⟩

theorem nameR_byte (c : UInt8) : nameR c.toNat = wordC c := rfl
theorem nameR_high (r : Nat) (h : 128 ≤ r) : nameR r = false := by
  unfold nameR
  simp
  omega
theorem wordC_high (c : UInt8) (h : 128 ≤ c.toNat) : wordC c = false := by
  rw [← nameR_byte]
  exact nameR_high _ h

/-- A rune of numbers. -/
def intR (r : Nat) : Bool := decide (r = 45) || (decide (48 ≤ r) && decide (r ≤ 57))

set_option maxHeartbeats 1000000 in
theorem intRune_any (r : Nat) (w : World) :
    Calls Tryd.prog 78 #[.int .i32 (r : Int)] w fun e w' => e = .returned (.bool (intR r)) ∧ w = w' := by
  by_cases h1 : r = 45
  · have hq : ((r : Int) == (45 : Int)) = true := by simp [h1]
    have hn : Hid (intR r = true) := Lib.hid (by unfold intR; simp [h1])
    clear h1
    go_enter Tryd.func78, Tryd.ntmps78
    go_wp2
    go_ret
    exact ⟨by rw [hn.out]; rfl, rfl⟩
  · have hq : ((r : Int) == (45 : Int)) = false := by rw [beq_eq_false_iff_ne]; omega
    by_cases h2 : 48 ≤ r ∧ r ≤ 57
    · have HD := Lib.hid (digit_yes (r : Int) w (by omega) (by omega))
      have hn : Hid (intR r = true) := Lib.hid (by unfold intR; simp [h2])
      clear h1 h2
      go_enter Tryd.func78, Tryd.ntmps78
      go_wp2_with fail
      refine HD.out.mono ?_
      rintro e w1 ⟨rfl, rfl⟩
      go_wp2
      go_ret
      exact ⟨by rw [hn.out]; rfl, rfl⟩
    · have HD := Lib.hid (digit_no (r : Int) w (by omega))
      have hn : Hid (intR r = false) := Lib.hid (by unfold intR; simp; omega)
      clear h1 h2
      go_enter Tryd.func78, Tryd.ntmps78
      go_wp2_with fail
      refine HD.out.mono ?_
      rintro e w1 ⟨rfl, rfl⟩
      go_wp2
      go_ret
      exact ⟨by rw [hn.out]; rfl, rfl⟩
theorem intR_byte (c : UInt8) : intR c.toNat = intC c := by
  unfold intR intC digC
  congr 1
  rw [Bool.eq_iff_iff]
  simp only [decide_eq_true_eq, beq_iff_eq]
  constructor
  · intro h
    exact UInt8.toNat_inj.1 (by rw [h]; rfl)
  · rintro rfl
    rfl
theorem intR_high (r : Nat) (h : 128 ≤ r) : intR r = false := by
  unfold intR
  simp
  omega
theorem pred_int (w : World) : PredAtRunes Tryd.prog 78 #[] intR w := fun W x _ _ =>
  (intRune_any x W).mono fun _ _ ⟨h1, h2⟩ => ⟨h1, 0, h2.symm⟩
theorem enters_int : ∀ args w, (callFunc 78 args).run Tryd.prog w = .ok (.enter 78 args) w := enters_of Tryd.func78 (by kernel_rfl) rfl

theorem run_end (C : UInt8 → Bool) (s : ByteArray) (k : Nat) (hk : k ≤ s.size) (hstop : ∀ h : k < s.size, C s[k] = false) : ∀ (d i : Nat), i + d = k → (∀ m, (h : m < k) → i ≤ m → C (s[m]'(by omega)) = true) →
    (restOf s i).dropWhile C = restOf s k ∧ (⟨((restOf s i).takeWhile C).toArray⟩ : ByteArray) = s.extract i k := by
  intro d
  induction d with
  | zero =>
    intro i hi _
    obtain rfl : i = k := by omega
    have e0 : s.extract i i = ⟨#[]⟩ := by
      apply ByteArray.ext
      rw [ByteArray.data_extract]
      simp
      omega
    rw [e0]
    by_cases h : i < s.size
    · rw [restOf_get s i h, List.dropWhile_cons_of_neg (by rw [hstop h]; simp), List.takeWhile_cons_of_neg (by rw [hstop h]; simp)]
      exact ⟨rfl, rfl⟩
    · rw [restOf_end s i (by omega)]
      exact ⟨rfl, rfl⟩
  | succ d ih =>
    intro i hi hall
    have h : i < s.size := by omega
    obtain ⟨h1, h2⟩ := ih (i + 1) (by omega) fun m hm him => hall m hm (by omega)
    have h3 := hall i (by omega) (Nat.le_refl _)
    rw [restOf_get s i h, List.dropWhile_cons_of_pos h3, List.takeWhile_cons_of_pos h3]
    refine ⟨h1, ?_⟩
    apply ByteArray.ext
    have h4 := congrArg (fun b : ByteArray => b.data.toList) h2
    simp only [ByteArray.data_extract, Array.toList_extract, List.extract_eq_take_drop] at h4
    apply Array.toList_inj.1
    simp only [ByteArray.data_extract, Array.toList_extract, List.extract_eq_take_drop]
    rw [List.drop_eq_getElem_cons (show i < s.data.toList.length by simpa using h), show k - i = (k - (i + 1)) + 1 by omega, List.take_succ_cons, ← h4, Array.getElem_toList]
    rfl

/-- The first byte that ends the run. -/
theorem idx_run (R : Nat → Bool) (C : UInt8 → Bool) (hC : ∀ c, R c.toNat = C c) (hH : ∀ r, 128 ≤ r → R r = false) (u : ByteArray) : ∀ (f pos : Nat), u.size ≤ pos + f → pos ≤ u.size → ∃ k, pos ≤ k ∧ k ≤ u.size ∧ (∀ m, (h : m < u.size) → pos ≤ m → m < k → C u[m] = true) ∧ (∀ h : k < u.size, C u[k] = false) ∧
    Lib.idxFuncFrom R false u f pos = if k < u.size then (k : Int) else -1 := by
  intro f
  induction f with
  | zero =>
    intro pos h1 h2
    obtain rfl : pos = u.size := by omega
    exact ⟨u.size, Nat.le_refl _, Nat.le_refl _, fun m h a b => absurd h (by omega), fun h => absurd h (Nat.lt_irrefl _), by rw [if_neg (Nat.lt_irrefl _)]; rfl⟩
  | succ f ih =>
    intro pos h1 h2
    by_cases hlt : pos < u.size
    · obtain ⟨r, wd, hd, h3, h4, h5, _⟩ := decode_cases u pos hlt
      have stop : R r = false → C u[pos] = false → ∃ k, pos ≤ k ∧ k ≤ u.size ∧ (∀ m, (h : m < u.size) → pos ≤ m → m < k → C u[m] = true) ∧ (∀ h : k < u.size, C u[k] = false) ∧
          Lib.idxFuncFrom R false u (f + 1) pos = if k < u.size then (k : Int) else -1 := fun hr hw =>
        ⟨pos, Nat.le_refl _, h2, fun m _ a b => absurd b (by omega), fun _ => hw, by rw [Lib.idxFuncFrom, if_pos hlt, if_pos hlt, hd, if_pos hr]⟩
      by_cases hr : r < 128
      · obtain ⟨rfl, rfl⟩ := h4 hr
        cases hw : C u[pos] with
        | false => exact stop (by rw [hC]; exact hw) hw
        | true =>
          obtain ⟨k, g1, g2, g3, g4, g5⟩ := ih (pos + 1) (by omega) (by omega)
          refine ⟨k, by omega, g2, fun m hm a b => ?_, g4, ?_⟩
          · by_cases e : m = pos
            · subst e
              exact hw
            · exact g3 m hm (by omega) b
          · rw [Lib.idxFuncFrom, if_pos hlt, hd, if_neg (by rw [hC, hw]; simp)]
            exact g5
      · exact stop (hH r (by omega)) (by rw [← hC]; exact hH _ (h5 (by omega)))
    · obtain rfl : pos = u.size := by omega
      exact ⟨u.size, Nat.le_refl _, Nat.le_refl _, fun m h a b => absurd h (by omega), fun h => absurd h (Nat.lt_irrefl _), by rw [Lib.idxFuncFrom_end _ _ _ _ _ hlt, if_neg hlt]⟩

theorem trim_run (R : Nat → Bool) (C : UInt8 → Bool) (hC : ∀ c, R c.toNat = C c) (hH : ∀ r, 128 ≤ r → R r = false) (s : ByteArray) (i : Nat) (hi : i ≤ s.size) : ∃ k, i ≤ k ∧ k ≤ s.size ∧ (Lib.trimLeftF R (s.extract i s.size)).size = s.size - k ∧ (restOf s i).dropWhile C = restOf s k ∧ (⟨((restOf s i).takeWhile C).toArray⟩ : ByteArray) = s.extract i k := by
  have hus : (s.extract i s.size).size = s.size - i := by rw [ByteArray.size_extract]; omega
  obtain ⟨k, _, h2, h3, h4, h5⟩ := idx_run R C hC hH (s.extract i s.size) (s.extract i s.size).size 0 (by omega) (by omega)
  have hget : ∀ m, (h : m < (s.extract i s.size).size) → (s.extract i s.size)[m] = s[i + m]'(by omega) := fun m h => by
    rw [ByteArray.getElem_extract]
  refine ⟨i + k, by omega, by omega, ?_, run_end C s (i + k) (by omega) (fun h => ?_) k i rfl (fun m h a => ?_)⟩
  · unfold Lib.trimLeftF Lib.idxFunc
    rw [h5]
    by_cases hk : k < (s.extract i s.size).size
    · rw [if_pos hk, if_neg (by omega), ByteArray.size_extract]
      omega
    · rw [if_neg hk, if_pos rfl]
      show 0 = _
      omega
  · have := h4 (by omega)
    rw [hget] at this
    exact this
  · have := h3 (m - i) (by omega) (Nat.zero_le _) (by omega)
    rw [hget] at this
    have e : i + (m - i) = m := by omega
    simp only [e] at this
    exact this

theorem rd_below {w w' : World} (h : Below w.drew.heap.size w.drew w') : Below w.heap.size w w' := (Below.refl w.heap.size w).drew.trans h
theorem RAt.wgrown {w w' : World} {ps pa i : Nat} {s : ByteArray} (_ : RAt w ps pa s i) (hb : Below w.heap.size w w') : w.grownBy w' (some pa) := only_below (only_refl w (some pa)) hb
theorem pred_name (w : World) : PredAtRunes Tryd.prog 113 #[] nameR w := fun W x _ _ =>
  (nameRune_any x W).mono fun _ _ ⟨h1, h2⟩ => ⟨h1, 0, h2.symm⟩
theorem enters_name : ∀ args w, (callFunc 113 args).run Tryd.prog w = .ok (.enter 113 args) w := enters_of Tryd.func113 (by kernel_rfl) rfl

/-- The word from i on is handed back; the reader stands behind it. -/
def RunR (C : UInt8 → Bool) (w : World) (ps pa : Nat) (s : ByteArray) (i : Nat) (e : Ending) (w' : World) : Prop :=
  ∃ k, i ≤ k ∧ ReadR w ps pa s (.string (s.extract i k)) k e w' ∧ (restOf s i).dropWhile C = restOf s k ∧ (⟨((restOf s i).takeWhile C).toArray⟩ : ByteArray) = s.extract i k

set_option maxHeartbeats 4000000 in
theorem takeRun_any (f : Nat) (ent : ∀ args w, (callFunc f args).run Tryd.prog w = .ok (.enter f args) w) (R : Nat → Bool) (C : UInt8 → Bool) (hC : ∀ c, R c.toNat = C c) (hH : ∀ r, 128 ≤ r → R r = false) (hPr : ∀ w, PredAtRunes Tryd.prog f #[] R w) (ps pa i : Nat) (s : ByteArray) (w : World) (h : RAt w ps pa s i) (hs : s.size ≤ 1048576) :
    Calls Tryd.prog 70 #[.func (.func f) #[] #[], .pointer (some ⟨pa, 0, none⟩), .pointer (some ⟨ps, 0, none⟩)] w (RunR C w ps pa s i) := by
  have c0 : w.cell? ⟨ps, 0, none⟩ = some (.string s) := Whole1.cell h.str 0
  have c1 : w.cell? ⟨pa, 0, none⟩ = some (.int .i64 (i : Int)) := Whole1.cell h.place 0
  obtain ⟨k, hik, hks, htr, hdrop, htake⟩ := trim_run R C hC hH s i h.le
  have hl1 : (0 : Int) ≤ (i : Int) := by omega
  have hl2 : (i : Int) ≤ (s.size : Int) := by have := h.le; omega
  have hl3 : (i : Int) ≤ (k : Int) := by omega
  have hl4 : (k : Int) ≤ (s.size : Int) := by omega
  have hlk : (0 : Int) ≤ (k : Int) := by omega
  have hT : Calls Tryd.prog 71 #[.string (s.extract i s.size), .func (.func f) #[] #[]] w.drew fun e w' => e = .returned (.string (Lib.trimLeftF R (s.extract i s.size))) ∧ Below w.drew.heap.size w.drew w' :=
    Any.strings_TrimLeftFunc_runes Tryd.laysTrimL f #[] ent R (s.extract i s.size) w.drew (hPr _)
  generalize Lib.trimLeftF R (s.extract i s.size) = tr at *
  have hwr : IntKind.i64.wrap ((s.size : Int) - (tr.size : Int)) = (k : Int) := by rw [IntKind.wrap_i64, htr]; omega
  have HT := Lib.hid hT
  have HD := Lib.hid (And.intro hdrop htake)
  have HH := Lib.hid h
  have hps := h.lts
  have hpa := h.lta
  clear h hT hdrop htake htr
  go_enter Tryd.func70, Tryd.ntmps70
  go_upto_region 2 with fail
  go_region_held3 (fun x : World => x.cell? ⟨ps, 0, none⟩ = some (.string s)) (first | assumption | go_keep)
    (first
      | (go_simp; go_at_call 71; (with_reducible refine HT.out.mono ?_); rintro e w1 ⟨rfl, hb'⟩; have hb := rd_below hb'; have hR := HH.out.below hb hps hpa; have d0 : w1.cell? ⟨ps, 0, none⟩ = some (.string s) := Whole1.cell hR.str 0; have d1 : w1.cell? ⟨pa, 0, none⟩ = some (.int .i64 (i : Int)) := Whole1.cell hR.place 0; have g1 : w1.frozen? ⟨pa, 0, none⟩ = false := Whole1.free hR.place 0; have HR := Lib.hid (hR.seti k hks); have HG := Lib.hid (only_set (HH.out.wgrown hb) 0 (.int .i64 (k : Int))); have x0 : (w1.setCell ⟨pa, 0, none⟩ (.int .i64 (k : Int))).cell? ⟨ps, 0, none⟩ = some (.string s) := Whole1.cell HR.out.str 0; clear hR hb hb'))
  have x1 : (w1.setCell ⟨pa, 0, none⟩ (.int .i64 (k : Int))).cell? ⟨pa, 0, none⟩ = some (.int .i64 (k : Int)) := Whole1.cell HR.out.place 0
  clear d0 d1 g1
  generalize w1.setCell ⟨pa, 0, none⟩ (.int .i64 (k : Int)) = w2 at *
  have HC := Lib.hid (clone_any (s.extract i k) w2 (by rw [ByteArray.size_extract]; omega))
  go_wp2_with fail
  refine HC.out.mono ?_
  rintro e w3 ⟨rfl, hb3⟩
  go_wp2
  go_ret
  exact ⟨k, hik, ⟨rfl, HR.out.below hb3 HR.out.lts HR.out.lta, only_below HG.out hb3⟩, HD.out⟩

theorem set3_kept (w : World) (r : Nat) (a b c : Value) (g : Nat) (hg : g ≠ r) : (((w.setCell ⟨r, 0, none⟩ a).setCell ⟨r, 1, none⟩ b).setCell ⟨r, 2, none⟩ c).heap[g]? = w.heap[g]? := by
  rw [Below.heap_setCell _ _ _ _ hg, Below.heap_setCell _ _ _ _ hg, Below.heap_setCell _ _ _ _ hg]
theorem RAt.set3 {w : World} {ps pa i r : Nat} {s : ByteArray} (h : RAt w ps pa s i) (hs : ps ≠ r) (ha : pa ≠ r) (a b c : Value) : RAt (((w.setCell ⟨r, 0, none⟩ a).setCell ⟨r, 1, none⟩ b).setCell ⟨r, 2, none⟩ c) ps pa s i :=
  ⟨(set3_kept _ _ _ _ _ _ hs).trans h.str, (set3_kept _ _ _ _ _ _ ha).trans h.place, h.ne, h.le⟩
set_option maxHeartbeats 1000000 in
theorem readerOf_any (s : ByteArray) (w : World) : Calls Tryd.prog 28 #[.string s] w fun e w' =>
    ∃ ps pa, e = .returned (.agg #[rdAcc ps pa, rdTak ps pa, rdEnd ps pa]) ∧ RAt w' ps pa s 0 ∧ Below w.heap.size w w' ∧ w.heap.size ≤ ps ∧ w.heap.size ≤ pa := by
  obtain ⟨hb0, p0, q0, r0, hs0⟩ := boxes3 w 9 55 3 #[.string s] #[.nilFunc, .nilFunc, .nilFunc] #[.int .i64 0]
  have d0 : (((w.alloc (.cells #[.string s] 9)).alloc (.cells #[.nilFunc, .nilFunc, .nilFunc] 55)).alloc (.cells #[.int .i64 0] 3)).cell? ⟨w.heap.size + 1, 0, none⟩ = some .nilFunc := q0.cell 0
  have d1 : (((w.alloc (.cells #[.string s] 9)).alloc (.cells #[.nilFunc, .nilFunc, .nilFunc] 55)).alloc (.cells #[.int .i64 0] 3)).cell? ⟨w.heap.size + 1, 1, none⟩ = some .nilFunc := q0.cell 1
  have d2 : (((w.alloc (.cells #[.string s] 9)).alloc (.cells #[.nilFunc, .nilFunc, .nilFunc] 55)).alloc (.cells #[.int .i64 0] 3)).cell? ⟨w.heap.size + 1, 2, none⟩ = some .nilFunc := q0.cell 2
  have f0 : (((w.alloc (.cells #[.string s] 9)).alloc (.cells #[.nilFunc, .nilFunc, .nilFunc] 55)).alloc (.cells #[.int .i64 0] 3)).frozen? ⟨w.heap.size + 1, 0, none⟩ = false := q0.free 0
  have f1 : (((w.alloc (.cells #[.string s] 9)).alloc (.cells #[.nilFunc, .nilFunc, .nilFunc] 55)).alloc (.cells #[.int .i64 0] 3)).frozen? ⟨w.heap.size + 1, 1, none⟩ = false := q0.free 1
  have f2 : (((w.alloc (.cells #[.string s] 9)).alloc (.cells #[.nilFunc, .nilFunc, .nilFunc] 55)).alloc (.cells #[.int .i64 0] 3)).frozen? ⟨w.heap.size + 1, 2, none⟩ = false := q0.free 2
  have hmf : ∀ (fn : Fn) (first cap : Array Value) (w : World), (Instr.makeFunc fn first cap).run Tryd.prog w = .ok (.func fn first cap) w := fun _ _ _ _ => rfl
  have HR := Lib.hid (⟨p0, r0, by omega, Nat.zero_le _⟩ : RAt _ w.heap.size (w.heap.size + 1 + 1) s 0)
  have HB := Lib.hid hb0
  clear p0 q0 r0 hb0 hs0
  go_enter Tryd.func28, Tryd.ntmps28
  go_upto_region 2 with fail
  generalize ((w.alloc (.cells #[.string s] 9)).alloc (.cells #[.nilFunc, .nilFunc, .nilFunc] 55)).alloc (.cells #[.int .i64 0] 3) = w1 at *
  go_wp2
  exact bodyPost_ret (v := .agg #[rdAcc w.heap.size (w.heap.size + 1 + 1), rdTak w.heap.size (w.heap.size + 1 + 1), rdEnd w.heap.size (w.heap.size + 1 + 1)]) (by simp [results, Tryd.results28, go_sem, d0, d1, d2]) rfl ⟨_, _, rfl, HR.out.set3 (by omega) (by omega) _ _ _, ((HB.out.setCell (by show w.heap.size ≤ w.heap.size + 1; omega) _).setCell (by show w.heap.size ≤ w.heap.size + 1; omega) _).setCell (by show w.heap.size ≤ w.heap.size + 1; omega) _, Nat.le_refl _, by omega⟩


end Go.Proofs.YtceclhndagoddaaDoor
end

section
namespace Go.Proofs.YtceclhndagoddaaDoor
open Go Go.RowKit

/-- Nothing has turned but blocks of X; there are new ones. -/
structure Turn (X : Nat → Prop) (w w' : World) : Prop where
  os : w'.os = w.os
  tape : w'.tape = w.tape
  output : w'.output = w.output
  size : w.heap.size ≤ w'.heap.size
  block : ∀ i, i < w.heap.size → ¬ X i → w'.heap[i]? = w.heap[i]?
theorem Turn.refl (X : Nat → Prop) (w : World) : Turn X w w := ⟨rfl, rfl, rfl, Nat.le_refl _, fun _ _ _ => rfl⟩
theorem Turn.trans {X : Nat → Prop} {a b c : World} (h : Turn X a b) (k : Turn X b c) : Turn X a c :=
  ⟨k.os.trans h.os, k.tape.trans h.tape, k.output.trans h.output, Nat.le_trans h.size k.size, fun i hi hx => (k.block i (Nat.lt_of_lt_of_le hi h.size) hx).trans (h.block i hi hx)⟩
theorem Turn.of_below {X : Nat → Prop} {w w' : World} (h : Below w.heap.size w w') : Turn X w w' := ⟨h.os, h.tape, h.output, h.size, fun i hi _ => h.block i hi⟩
theorem Turn.of_grown {X : Nat → Prop} {w w' : World} {p : Nat} (h : w.grownBy w' (some p)) (hp : X p) : Turn X w w' :=
  ⟨h.os, h.tape, h.output, h.size, fun i hi hx => h.block i hi (fun e => hx (by cases e; exact hp))⟩
theorem Turn.drew {X : Nat → Prop} {a w : World} (h : Turn X a w) : Turn X a w.drew := ⟨h.os, h.tape, h.output, h.size, h.block⟩
theorem Turn.from_drew {X : Nat → Prop} {w w' : World} (h : Turn X w.drew w') : Turn X w w' := ⟨h.os, h.tape, h.output, h.size, h.block⟩
/-- Behind a step that keeps all below B, where what it may turn is new. -/
theorem Turn.below {X : Nat → Prop} {a b c : World} {B : Nat} (h : Turn X a b) (k : Below B b c) (hB : a.heap.size ≤ B) : Turn X a c :=
  ⟨k.os.trans h.os, k.tape.trans h.tape, k.output.trans h.output, Nat.le_trans h.size k.size, fun i hi hx => (k.block i (Nat.lt_of_lt_of_le hi hB)).trans (h.block i hi hx)⟩
theorem Turn.set {X : Nat → Prop} {a b : World} (h : Turn X a b) {p : Addr} (hp : a.heap.size ≤ p.block ∨ X p.block) (v : Value) : Turn X a (b.setCell p v) :=
  ⟨h.os, h.tape, h.output, by simpa [World.setCell] using h.size, fun i hi hx => (Below.heap_setCell _ _ _ _ (fun e => by
    subst e
    rcases hp with hp | hp
    · omega
    · exact hx hp)).trans (h.block i hi hx)⟩
theorem Turn.alloc {X : Nat → Prop} {a b : World} (h : Turn X a b) (o : Obj) : Turn X a (b.alloc o) :=
  ⟨h.os, h.tape, h.output, Nat.le_trans h.size (by simp), fun i hi hx => (Below.heap_alloc _ _ _ (Nat.lt_of_lt_of_le hi h.size)).trans (h.block i hi hx)⟩

/-- Only block l has turned; it may have. -/
def SameBut (l : Nat) (w w' : World) : Prop := w.grownBy w' (some l) ∧ w'.heap.size = w.heap.size
theorem SameBut.block {l i : Nat} {w w' : World} (h : SameBut l w w') (hi : i < w.heap.size) (hne : i ≠ l) : w'.heap[i]? = w.heap[i]? := h.1.block i hi (fun e => hne (by cases e; rfl))
theorem sameBut_put (w : World) (l : Nat) (o : Obj) : SameBut l w (w.putObj l o) := ⟨grownBy_putObj' w l o, by simp⟩
theorem SameBut.below {l B : Nat} {w w' : World} (h : SameBut l w w') (hB : B ≤ l) (hw : B ≤ w.heap.size) : Below B w w' :=
  ⟨h.1.os, h.1.tape, h.1.output, h.1.size, fun k hk => h.block (Nat.lt_of_lt_of_le hk hw) (by omega)⟩

/-- What the body's walk keeps. -/
structure Kept (n0 D l : Nat) (B C : World) : Prop where
  defers : C.heap[D]? = B.heap[D]?
  loop : C.heap[l]? = B.heap[l]?
  below : Below n0 B C
theorem Kept.refl (n0 D l : Nat) (B : World) : Kept n0 D l B B := ⟨rfl, rfl, Below.refl _ _⟩
theorem Kept.trans {n0 D l : Nat} {a b c : World} (h : Kept n0 D l a b) (k : Kept n0 D l b c) : Kept n0 D l a c := ⟨k.defers.trans h.defers, k.loop.trans h.loop, h.below.trans k.below⟩
/-- How the body of a round may be left: off its end, or by a return. -/
def roundLeft (n0 D l : Nat) (B : World) (G Gx : World → Prop) : Exit → Act → World → Prop
  | .normal, _, C => Kept n0 D l B C ∧ G C
  | .ret, _, C => Kept n0 D l B C ∧ Gx C
  | _, _, _ => False

variable {F : Fence} {n : Nat} {P : Program} {α : Type}
/-- The contract of an iterator that turns blocks of X alone; Px: what it says of what it hands over; S, Sp: what stands in the end. -/
def SeqTurn (F : Fence) (n : Nat) (P : Program) (gf : Nat) (lb : Array Value) (encs : α → Array Value) (X : Nat → Prop) (Px : List α → World → α → World → Prop) (S Sp : List α → World → Prop) (w : World) : Prop :=
  ∀ (l : Nat) (J Jx : List α → World → Prop) (W : World), Below w.heap.size w W →
    (∀ pre x A B, J pre A → Turn X A B → Px pre A x B → YieldAt F (n - 1) P l (encs x) B fun e C =>
      (e = .returned (.bool true) ∧ J (pre ++ [x]) C ∧ Below w.heap.size B C) ∨ (e = .returned (.bool false) ∧ Jx (pre ++ [x]) C ∧ Below w.heap.size B C)) →
    J [] W →
    CallsIn F n P gf (#[.func (.yield l) #[] #[]] ++ lb) W fun e C => (∃ v, e = .returned v) ∧ ((∃ xs A, J xs A ∧ Turn X A C ∧ S xs C) ∨ (∃ pre A, Jx pre A ∧ Turn X A C ∧ Sp pre C))

theorem rangeFunc_turn {g : Operand} {ps : Array Tmp} {assign body : Code} {Q : Exit → Act → World → Prop} {a : Act} {w : World}
    (hro : F.round = none) (h1 : 1 ≤ n) {gf : Nat} {lb : Array Value} (hg : a.eval g = .func (.func gf) #[] lb) (hFg : F.fn gf) (eg : ∀ args w, (callFunc gf args).run P w = .ok (.enter gf args) w)
    {encs : α → Array Value} (hps : ∀ x, (encs x).size = ps.size) {X : Nat → Prop} (hX : ∀ i, X i → i < w.heap.size) {Px : List α → World → α → World → Prop} {S Sp : List α → World → Prop} {w0 : World} (hw0 : Below w0.heap.size w0 w)
    (hseq : SeqTurn F (n - 1) P gf lb encs X Px S Sp w0) (I Ix : List α → World → Prop)
    (hI : ∀ pre A C, I pre A → SameBut (w.heap.size + 1) A C → I pre C) (hIx : ∀ pre A C, Ix pre A → SameBut (w.heap.size + 1) A C → Ix pre C)
    (h0 : ∀ W, Below w.heap.size w W → W.heap.size = w.heap.size + 2 → I [] W)
    (hround : ∀ pre x A B, I pre A → Turn X A B → Px pre A x B → w.heap.size + 2 ≤ A.heap.size →
      assign.wpIn (F.inRound (w.heap.size + 1)) (n - 1 - 1) P (Exit.then (fun a₁ B2 => Kept w0.heap.size w.heap.size (w.heap.size + 1) B B2 ∧ ∀ B3, SameBut (w.heap.size + 1) B2 B3 →
        body.wpIn (F.inRound (w.heap.size + 1)) (n - 1 - 1) P (roundLeft w0.heap.size w.heap.size (w.heap.size + 1) B3 (I (pre ++ [x])) (Ix (pre ++ [x]))) a₁ B3) (fun _ _ _ => False))
        { tmps := (ps.zip (encs x)).foldl (fun t (p, v) => t.setIfInBounds p v) a.tmps, defers := [] } B)
    (hdone : ∀ xs A C C', I xs A → Turn X A C → S xs C → SameBut (w.heap.size + 1) C C' → w.heap.size + 2 ≤ A.heap.size → C'.heap[w.heap.size]? = some (.deferred (some [])) → Q .normal { a with defers := { target := .collected w.heap.size, args := #[] } :: a.defers } C')
    (hstop : ∀ pre A C C', Ix pre A → Turn X A C → Sp pre C → SameBut (w.heap.size + 1) C C' → w.heap.size + 2 ≤ A.heap.size → C'.heap[w.heap.size]? = some (.deferred (some [])) → Code.ret.wpIn F n P Q { a with defers := { target := .collected w.heap.size, args := #[] } :: a.defers } C') :
    (Code.rangeFunc g ps assign body).wpIn F n P Q a w := by
  refine wpIn_rangeFunc ?_
  intro fn hfn
  rw [hro]
  obtain ⟨D, hD⟩ : ∃ D, D = w.heap.size := ⟨_, rfl⟩
  obtain ⟨rec, hrec⟩ : ∃ rec : LoopState → Option Code → Loop, rec = fun st pe => { state := st, pending := pe, fn, tmps := a.tmps, params := ps, assign, body, defers := D } := ⟨_, rfl⟩
  obtain ⟨W1, hW1⟩ : ∃ W1, (w.alloc (.deferred (some []))).alloc (.loop (rec .ready none)) = W1 := ⟨_, rfl⟩
  have hs1 : W1.heap.size = D + 2 := by rw [← hW1, hD]; simp
  have hL1 : W1.heap[D + 1]? = some (.loop (rec .ready none)) := by
    have h := World.alloc_heap_new (w.alloc (.deferred (some []))) (.loop (rec .ready none))
    rw [World.size_alloc, hW1] at h
    rw [hD]
    exact h
  have hK1 : W1.heap[D]? = some (.deferred (some [])) := by
    rw [← hW1, hD]
    exact (Below.heap_alloc _ _ _ (by simp)).trans (World.alloc_heap_new w _)
  have hb1 : Below w.heap.size w W1 := by
    rw [← hW1]
    exact ((Below.refl _ w).alloc (Nat.le_refl _) _).alloc (by simp) _
  -- between two rounds
  refine ⟨D + 1, [{ target := .collected D, args := #[] }], W1, { target := .fn (.func gf) lb, args := #[.func (.yield (D + 1)) #[] #[]] }, W1, gf, #[.func (.yield (D + 1)) #[] #[]] ++ lb, W1, ?_, ?_, ?_, ?_, fun _ => h1, ?_⟩
  · rw [← hW1, hrec, hD]
    exact run_enterLoop_outer _ _ _ _ _
  · simp only [resolve, hg]
    simp [go_sem]
  · intro f' hf'
    simp [Target.leads] at hf'
    subst hf'
    exact hFg
  · simp [invoke, go_sem, eg]
  · refine (hseq (D + 1) (fun pre W => I pre W ∧ W.heap[D + 1]? = some (.loop (rec .ready none)) ∧ W.heap[D]? = some (.deferred (some [])) ∧ D + 2 ≤ W.heap.size)
      (fun pre W => Ix pre W ∧ W.heap[D + 1]? = some (.loop (rec .done (some .ret))) ∧ W.heap[D]? = some (.deferred (some [])) ∧ D + 2 ≤ W.heap.size)
      W1 (hw0.trans (hb1.mono hw0.size)) ?_ ⟨h0 W1 hb1 (by rw [hs1, hD]), hL1, hK1, by omega⟩).mono ?_
    · -- one round
      rintro pre x A B ⟨hi, hl, hk, hsz⟩ hT hP
      have hlB : B.heap[D + 1]? = some (.loop (rec .ready none)) := (hT.block _ (by omega) (fun hx => by have := hX _ hx; omega)).trans hl
      have hkB : B.heap[D]? = some (.deferred (some [])) := (hT.block _ (by omega) (fun hx => by have := hX _ hx; omega)).trans hk
      have hy := run_yield (P := P) (args := encs x) hlB (by rw [hrec]; exact hps x)
      rw [hrec] at hy
      have hr := hround pre x A B hi hT hP (by omega)
      rw [← hD] at hr
      refine ⟨fn, _, assign, body, hy, roundIn_of_wpIn hfn (wpIn_mono hr ?_)⟩
      rintro e a₁ B2 he
      cases e with
      | normal =>
        obtain ⟨hkept, hbody⟩ := he
        have hl2 := hkept.loop.trans hlB
        have hk2 := hkept.defers.trans hkB
        have hlt2 : D + 1 < B2.heap.size := (Array.getElem?_eq_some_iff.1 hl2).1
        refine ⟨_, run_beginRound hl2 (by rw [hrec]), ?_⟩
        have hb3 := hbody _ (sameBut_put B2 (D + 1) (.loop { rec .ready none with state := .busy }))
        have hl3 : (B2.putObj (D + 1) (.loop { rec .ready none with state := .busy })).heap[D + 1]? = some (.loop { rec .ready none with state := .busy }) := World.putObj_heap_same hlt2
        have hk3 : (B2.putObj (D + 1) (.loop { rec .ready none with state := .busy })).heap[D]? = some (.deferred (some [])) := (World.putObj_heap_other (by omega)).trans hk2
        have hw3 : Below w0.heap.size B2 (B2.putObj (D + 1) (.loop { rec .ready none with state := .busy })) := ((sameBut_put B2 (D + 1) _).below (B := D) (by omega) (by omega)).mono (by rw [hD]; exact hw0.size)
        refine wpIn_mono hb3 ?_
        rintro e a3 C hp
        have fin : ∀ (jump : Option Code), Kept w0.heap.size D (D + 1) (B2.putObj (D + 1) (.loop { rec .ready none with state := .busy })) C →
            (Instr.endRound (D + 1) jump).run P C = .ok (.bool jump.isNone) (C.putObj (D + 1) (.loop (rec (if jump.isNone then .ready else .done) jump))) ∧
            (C.putObj (D + 1) (.loop (rec (if jump.isNone then .ready else .done) jump))).heap[D + 1]? = some (.loop (rec (if jump.isNone then .ready else .done) jump)) ∧
            (C.putObj (D + 1) (.loop (rec (if jump.isNone then .ready else .done) jump))).heap[D]? = some (.deferred (some [])) ∧ D + 2 ≤ (C.putObj (D + 1) (.loop (rec (if jump.isNone then .ready else .done) jump))).heap.size ∧
            Below w0.heap.size B (C.putObj (D + 1) (.loop (rec (if jump.isNone then .ready else .done) jump))) := fun jump hkc => by
          have hlc := hkc.loop.trans hl3
          have hltc : D + 1 < C.heap.size := (Array.getElem?_eq_some_iff.1 hlc).1
          have hend := run_endRound (P := P) jump hlc
          rw [hrec] at hend
          refine ⟨?_, World.putObj_heap_same hltc, (World.putObj_heap_other (by omega)).trans (hkc.defers.trans hk3), by simp; omega, ?_⟩
          · rw [hrec]
            exact hend
          · have q0 : Below w0.heap.size B B2 := hkept.below
            have q1 : Below w0.heap.size (B2.putObj (D + 1) (.loop { rec .ready none with state := .busy })) C := hkc.below
            have q2 : Below w0.heap.size C (C.putObj (D + 1) (.loop (rec (if jump.isNone then .ready else .done) jump))) := ((sameBut_put C (D + 1) _).below (B := D) (by omega) (by omega)).mono (by rw [hD]; exact hw0.size)
            exact ((q0.trans hw3).trans q1).trans q2
        cases e with
        | normal =>
          obtain ⟨hkc, hic⟩ := hp
          obtain ⟨f1, f2, f3, f4, f5⟩ := fin none hkc
          exact ⟨_, _, f1, .inl ⟨rfl, ⟨hI _ _ _ hic (by rw [← hD]; exact sameBut_put _ _ _), f2, f3, f4⟩, f5⟩⟩
        | ret =>
          obtain ⟨hkc, hic⟩ := hp
          obtain ⟨f1, f2, f3, f4, f5⟩ := fin (some .ret) hkc
          exact ⟨_, _, f1, .inr ⟨rfl, ⟨hIx _ _ _ hic (by rw [← hD]; exact sameBut_put _ _ _), f2, f3, f4⟩, f5⟩⟩
        | exit id => exact hp.elim
        | goto t => exact hp.elim
        | panic ch => exact hp.elim
        | outgrown => exact hp.elim
      | exit id => exact he.elim
      | goto t => exact he.elim
      | ret => exact he.elim
      | panic ch => exact he.elim
      | outgrown => exact he.elim
    · -- behind the iterator
      rintro e C ⟨⟨v, rfl⟩, (⟨xs, A, ⟨hi, hl, hk, hsz⟩, hT, hS⟩ | ⟨pre, A, ⟨hi, hl, hk, hsz⟩, hT, hS⟩)⟩
      · have hlC : C.heap[D + 1]? = some (.loop (rec .ready none)) := (hT.block _ (by omega) (fun hx => by have := hX _ hx; omega)).trans hl
        have hkC : C.heap[D]? = some (.deferred (some [])) := (hT.block _ (by omega) (fun hx => by have := hX _ hx; omega)).trans hk
        have hend := run_endLoop (P := P) hlC (by rw [hrec]; simp)
        refine ⟨none, _, by rw [hrec] at hend; exact hend, ?_⟩
        have hq := hdone xs A C _ hi hT hS (by rw [← hD]; exact sameBut_put C (D + 1) (.loop { state := .exhausted, pending := none, fn, tmps := a.tmps, params := ps, assign, body, defers := D })) (by omega) (by rw [← hD]; exact (World.putObj_heap_other (by omega)).trans hkC)
        rw [← hD] at hq
        exact hq
      · have hlC : C.heap[D + 1]? = some (.loop (rec .done (some .ret))) := (hT.block _ (by omega) (fun hx => by have := hX _ hx; omega)).trans hl
        have hkC : C.heap[D]? = some (.deferred (some [])) := (hT.block _ (by omega) (fun hx => by have := hX _ hx; omega)).trans hk
        have hend := run_endLoop (P := P) hlC (by rw [hrec]; simp)
        refine ⟨some .ret, _, by rw [hrec] at hend; exact hend, ?_⟩
        have hq := hstop pre A C _ hi hT hS (by rw [← hD]; exact sameBut_put C (D + 1) (.loop { state := .exhausted, pending := some .ret, fn, tmps := a.tmps, params := ps, assign, body, defers := D })) (by omega) (by rw [← hD]; exact (World.putObj_heap_other (by omega)).trans hkC)
        rw [← hD] at hq
        exact hq

end Go.Proofs.YtceclhndagoddaaDoor
end

section
namespace Go.Proofs
open Go.Shelf
def Tryd.laysC172_ren : Go.Shelf.Ren := ⟨fun | 172 => 131 | 244 => 136 | 245 => 137 | 247 => 139 | 279 => 140 | 280 => 141 | 281 => 142 | 282 => 143 | 287 => 145 | 316 => 110 | 171 => 138 | 205 => 146 | 321 => 148 | 322 => 149 | 243 => 144 | 246 => 147 | 283 => 150 | 284 => 151 | 285 => 152 | 286 => 153 | 129 => 155 | 317 => 154 | 318 => 156 | 319 => 157 | 320 => 158 | 337 => 159 | 338 => 160 | n => n, fun | 9 => 9 | 3 => 3 | 75 => 161 | 76 => 162 | 4 => 4 | 5 => 5 | 167 => 174 | 37 => 31 | 0 => 0 | 85 => 175 | 2 => 2 | 168 => 177 | 53 => 180 | 175 => 181 | 46 => 147 | 210 => 184 | 127 => 157 | 145 => 190 | 143 => 188 | 21 => 21 | 171 => 191 | 173 => 194 | 212 => 197 | 51 => 198 | 20 => 20 | 213 => 199 | 232 => 203 | 233 => 204 | 80 => 205 | n => n, fun | 15 => 1 | 16 => 2 | 17 => 3 | 18 => 4 | 19 => 5 | n => n⟩
theorem Tryd.laysC172 : Go.Proofs.LaysC.n172 Tryd.prog Tryd.laysC172_ren := {
  mixed := by kernel_rfl
  f129 := Tryd.func155.trans (congrArg some (by kernel_rfl))
  f171 := Tryd.func138.trans (congrArg some (by kernel_rfl))
  f172 := Tryd.func131.trans (congrArg some (by kernel_rfl))
  f205 := Tryd.func146.trans (congrArg some (by kernel_rfl))
  f243 := Tryd.func144.trans (congrArg some (by kernel_rfl))
  f244 := Tryd.func136.trans (congrArg some (by kernel_rfl))
  f245 := Tryd.func137.trans (congrArg some (by kernel_rfl))
  f246 := Tryd.func147.trans (congrArg some (by kernel_rfl))
  f247 := Tryd.func139.trans (congrArg some (by kernel_rfl))
  f279 := Tryd.func140.trans (congrArg some (by kernel_rfl))
  f280 := Tryd.func141.trans (congrArg some (by kernel_rfl))
  f281 := Tryd.func142.trans (congrArg some (by kernel_rfl))
  f282 := Tryd.func143.trans (congrArg some (by kernel_rfl))
  f283 := Tryd.func150.trans (congrArg some (by kernel_rfl))
  f284 := Tryd.func151.trans (congrArg some (by kernel_rfl))
  f285 := Tryd.func152.trans (congrArg some (by kernel_rfl))
  f286 := Tryd.func153.trans (congrArg some (by kernel_rfl))
  f287 := Tryd.func145.trans (congrArg some (by kernel_rfl))
  f316 := Tryd.func110.trans (congrArg some (by kernel_rfl))
  f317 := Tryd.func154.trans (congrArg some (by kernel_rfl))
  f318 := Tryd.func156.trans (congrArg some (by kernel_rfl))
  f319 := Tryd.func157.trans (congrArg some (by kernel_rfl))
  f320 := Tryd.func158.trans (congrArg some (by kernel_rfl))
  f321 := Tryd.func148.trans (congrArg some (by kernel_rfl))
  f322 := Tryd.func149.trans (congrArg some (by kernel_rfl))
  f337 := Tryd.func159.trans (congrArg some (by kernel_rfl))
  f338 := Tryd.func160.trans (congrArg some (by kernel_rfl))
  t0 := Tryd.underlying0
  a0 := Tryd.isAgg0
  z0 := Tryd.sizeOf0
  v0 := Tryd.zeroValue0
  t2 := Tryd.underlying2
  a2 := Tryd.isAgg2
  z2 := Tryd.sizeOf2
  v2 := Tryd.zeroValue2
  t3 := Tryd.underlying3
  a3 := Tryd.isAgg3
  z3 := Tryd.sizeOf3
  v3 := Tryd.zeroValue3
  t4 := Tryd.underlying4
  a4 := Tryd.isAgg4
  z4 := Tryd.sizeOf4
  v4 := Tryd.zeroValue4
  t5 := Tryd.underlying5
  a5 := Tryd.isAgg5
  z5 := Tryd.sizeOf5
  v5 := Tryd.zeroValue5
  t9 := Tryd.underlying9
  a9 := Tryd.isAgg9
  z9 := Tryd.sizeOf9
  v9 := Tryd.zeroValue9
  t20 := Tryd.underlying20
  a20 := Tryd.isAgg20
  z20 := Tryd.sizeOf20
  v20 := Tryd.zeroValue20
  t21 := Tryd.underlying21
  a21 := Tryd.isAgg21
  z21 := Tryd.sizeOf21
  v21 := Tryd.zeroValue21
  t37 := Tryd.underlying31
  a37 := Tryd.isAgg31
  z37 := Tryd.sizeOf31
  v37 := Tryd.zeroValue31
  t46 := Tryd.underlying147
  a46 := Tryd.isAgg147
  z46 := Tryd.sizeOf147
  v46 := Tryd.zeroValue147
  t51 := Tryd.underlying198
  a51 := Tryd.isAgg198
  z51 := Tryd.sizeOf198
  v51 := Tryd.zeroValue198
  t53 := Tryd.underlying180
  a53 := Tryd.isAgg180
  z53 := Tryd.sizeOf180
  v53 := Tryd.zeroValue180
  t75 := Tryd.underlying161
  a75 := Tryd.isAgg161
  z75 := Tryd.sizeOf161
  v75 := Tryd.zeroValue161
  t76 := Tryd.underlying162
  a76 := Tryd.isAgg162
  z76 := Tryd.sizeOf162
  v76 := Tryd.zeroValue162
  t85 := Tryd.underlying175
  a85 := Tryd.isAgg175
  z85 := Tryd.sizeOf175
  v85 := Tryd.zeroValue175
  t127 := Tryd.underlying157
  a127 := Tryd.isAgg157
  z127 := Tryd.sizeOf157
  v127 := Tryd.zeroValue157
  t143 := Tryd.underlying188
  a143 := Tryd.isAgg188
  z143 := Tryd.sizeOf188
  v143 := Tryd.zeroValue188
  t145 := Tryd.underlying190
  a145 := Tryd.isAgg190
  z145 := Tryd.sizeOf190
  v145 := Tryd.zeroValue190
  t167 := Tryd.underlying174
  a167 := Tryd.isAgg174
  z167 := Tryd.sizeOf174
  v167 := Tryd.zeroValue174
  t168 := Tryd.underlying177
  a168 := Tryd.isAgg177
  z168 := Tryd.sizeOf177
  v168 := Tryd.zeroValue177
  t171 := Tryd.underlying191
  a171 := Tryd.isAgg191
  z171 := Tryd.sizeOf191
  v171 := Tryd.zeroValue191
  t173 := Tryd.underlying194
  a173 := Tryd.isAgg194
  z173 := Tryd.sizeOf194
  v173 := Tryd.zeroValue194
  t175 := Tryd.underlying181
  a175 := Tryd.isAgg181
  z175 := Tryd.sizeOf181
  v175 := Tryd.zeroValue181
  t210 := Tryd.underlying184
  a210 := Tryd.isAgg184
  z210 := Tryd.sizeOf184
  v210 := Tryd.zeroValue184
  t212 := Tryd.underlying197
  a212 := Tryd.isAgg197
  z212 := Tryd.sizeOf197
  v212 := Tryd.zeroValue197
  t213 := Tryd.underlying199
  a213 := Tryd.isAgg199
  z213 := Tryd.sizeOf199
  t232 := Tryd.underlying203
  a232 := Tryd.isAgg203
  z232 := Tryd.sizeOf203
  v232 := Tryd.zeroValue203
  t233 := Tryd.underlying204
  a233 := Tryd.isAgg204
  z233 := Tryd.sizeOf204
  v233 := Tryd.zeroValue204
  g15 := by kernel_rfl
  g16 := by kernel_rfl
  g17 := by kernel_rfl
  g18 := by kernel_rfl
  g19 := by kernel_rfl
  t80 := Tryd.underlying205
  a80 := Tryd.isAgg205
  z80 := Tryd.sizeOf205
  v80 := Tryd.zeroValue205
  i0 := by kernel_rfl
  i2 := by kernel_rfl
  i3 := by kernel_rfl
  i4 := by kernel_rfl
  i5 := by kernel_rfl
  i9 := by kernel_rfl
  i20 := by kernel_rfl
  i21 := by kernel_rfl
  i37 := by kernel_rfl
  i46 := by kernel_rfl
  i51 := by kernel_rfl
  i53 := by kernel_rfl
  i75 := by kernel_rfl
  i76 := by kernel_rfl
  i80 := by kernel_rfl
  i85 := by kernel_rfl
  i127 := by kernel_rfl
  i143 := by kernel_rfl
  i145 := by kernel_rfl
  i167 := by kernel_rfl
  i168 := by kernel_rfl
  i171 := by kernel_rfl
  i173 := by kernel_rfl
  i175 := by kernel_rfl
  i210 := by kernel_rfl
  i212 := by kernel_rfl
  i232 := by kernel_rfl
  i233 := by kernel_rfl
  m15 := by kernel_rfl
  m16 := by kernel_rfl
  m17 := by kernel_rfl
  m18 := by kernel_rfl
  m19 := by kernel_rfl
  c0 := by kernel_rfl
  c2 := by kernel_rfl
  c3 := by kernel_rfl
  c4 := by kernel_rfl
  c5 := by kernel_rfl
  c9 := by kernel_rfl
  c20 := by kernel_rfl
  c21 := by kernel_rfl
  c37 := by kernel_rfl
  c46 := by kernel_rfl
  c51 := by kernel_rfl
  c53 := by kernel_rfl
  c75 := by kernel_rfl
  c76 := by kernel_rfl
  c80 := by kernel_rfl
  c85 := by kernel_rfl
  c127 := by kernel_rfl
  c143 := by kernel_rfl
  c145 := by kernel_rfl
  c167 := by kernel_rfl
  c168 := by kernel_rfl
  c171 := by kernel_rfl
  c173 := by kernel_rfl
  c175 := by kernel_rfl
  c210 := by kernel_rfl
  c212 := by kernel_rfl
  c213 := by kernel_rfl
  c232 := by kernel_rfl
  c233 := by kernel_rfl }
end Go.Proofs
end

section
namespace Go.Proofs.YtceclhndagoddaaDoor
open Go.RowKit Go.Shelf

/-- The two sentinels of strconv hold values that are not nil. -/
def ErrsAt (w : World) : Prop := (∃ t p, w.var? Tryd.prog "strconv.ErrSyntax" = some #[.iface t p]) ∧ ∃ t p, w.var? Tryd.prog "strconv.ErrRange" = some #[.iface t p]

theorem var_below {w w' : World} {B : Nat} {n : String} {g : Nat} (hb : Below B w w') (hg : Tryd.prog.globalNamed n = some g) (hB : g < B) : w'.var? Tryd.prog n = w.var? Tryd.prog n := by
  unfold World.var?
  rw [hg, Option.bind_some, Option.bind_some, hb.block _ hB]

theorem var_lt {w : World} {n : String} {g : Nat} {cs : Array Value} (hg : Tryd.prog.globalNamed n = some g) (h : w.var? Tryd.prog n = some cs) : g < w.heap.size := by
  unfold World.var? at h
  rw [hg, Option.bind_some] at h
  by_cases hlt : g < w.heap.size
  · exact hlt
  · rw [Array.getElem?_eq_none (by omega)] at h
    cases h

theorem ErrsAt.below {w w' : World} {B : Nat} (h : ErrsAt w) (hb : Below B w w') (hB : 1 < B ∧ 2 < B) : ErrsAt w' := by
  obtain ⟨⟨t, p, h1⟩, ⟨t', p', h2⟩⟩ := h
  exact ⟨⟨t, p, (var_below hb (by kernel_rfl) hB.1).trans h1⟩, ⟨t', p', (var_below hb (by kernel_rfl) hB.2).trans h2⟩⟩

theorem atoi_ok (s : ByteArray) (w : World) (hs : s.size ≤ 1048576) (v : Int) (h : Lib.atoiAll s.data.toList = .ok v) :
    Calls Tryd.prog 131 #[.string s] w fun e w' => e = .returned (.tuple #[.int .i64 v, .nilIface]) ∧ Below w.heap.size w w' := by
  refine (Any.strconv_Atoi_ok Tryd.laysC172 s (by omega) v h w).mono fun e w' ⟨he, hw⟩ => ⟨he, ?_⟩
  rcases hw with rfl | ⟨t, rfl⟩
  · exact Below.refl _ _
  · exact Lib.bytesWorld_below _ _ _

/-- An error comes back. -/
def AtoiErr (w : World) (e : Ending) (w' : World) : Prop := ∃ n t p, e = .returned (.tuple #[.int .i64 n, .iface t (.pointer (some p))]) ∧ Below w.heap.size w w'

theorem atoi_err (s : ByteArray) (w : World) (hs : s.size ≤ 1048576) (hE : ErrsAt w) (h : ∀ v, Lib.atoiAll s.data.toList ≠ .ok v) :
    Calls Tryd.prog 131 #[.string s] w (AtoiErr w) := by
  obtain ⟨⟨t, p, h1⟩, ⟨t', p', h2⟩⟩ := hE
  rcases h0 : Lib.atoiAll s.data.toList with v | _ | _
  · exact absurd h0 (h v)
  · exact (Any.strconv_Atoi_syntax_var Tryd.laysC172 s (by omega) h0 t p w h1).mono fun e w' ⟨N, he, _, _, hb⟩ => ⟨_, _, _, he, hb⟩
  · exact (Any.strconv_Atoi_range_var Tryd.laysC172 s (by omega) h0 t' p' w h2).mono fun e w' ⟨N, he, _, _, hb⟩ => ⟨_, _, _, he, hb⟩

end Go.Proofs.YtceclhndagoddaaDoor
end

section
namespace Go.Proofs.YtceclhndagoddaaDoor
open Go.RowKit

/-- A panic. -/
def Panics (w : World) (e : Ending) (w' : World) : Prop := (∃ t v, e = .panicked [{ v := .iface t v, recovered := false }]) ∧ Below w.heap.size w w'

theorem str_of_list {s : ByteArray} {l : List UInt8} (h : s.data.toList = l) : s = ⟨l.toArray⟩ := by
  cases s
  simp at h
  subst h
  simp

set_option maxHeartbeats 400000 in
theorem within_yes (s : ByteArray) (lo hi n : Int) (w : World) (hs : s.size ≤ 1048576) (h0 : lo ≤ n) (h1 : n ≤ hi) (hlo : -(2 ^ 63) ≤ lo) (hhi : hi ≤ 2 ^ 63 - 1) (hn : s.data.toList = Lib.itoa n) (ht : Pow10At w) (hsz : 3 < w.heap.size) :
    Calls Tryd.prog 116 #[.string s, .int .i64 lo, .int .i64 hi] w fun e w' => e = .returned (.int .i64 n) ∧ Below w.heap.size w w' := by
  have ha := Lib.hid (atoi_ok s w hs n (by rw [hn]; exact atoi_itoa n (by omega) (by omega)))
  obtain rfl := str_of_list hn
  clear hn
  have hl1 : ¬ n < lo := by omega
  have hl2 : ¬ hi < n := by omega
  go_enter Tryd.func116, Tryd.ntmps116
  go_wp2_with fail
  refine ha.out.mono ?_
  rintro e w1 ⟨rfl, hb1⟩
  have ht1 := Lib.hid (implFormatInt_any n w1 (by omega) (by omega) (ht.below hb1 hsz))
  clear ht ha
  go_wp2_with fail
  refine ht1.out.mono ?_
  rintro e w2 ⟨rfl, hb2⟩
  go_wp2
  go_ret
  exact ⟨rfl, hb1.trans (hb2.mono hb1.size)⟩

set_option maxHeartbeats 400000 in
theorem within_no (s : ByteArray) (lo hi : Int) (w : World) (hs : s.size ≤ 1048576) (hlo : -(2 ^ 63) ≤ lo) (hhi : hi ≤ 2 ^ 63 - 1) (hn : ∀ n, lo ≤ n → n ≤ hi → s.data.toList ≠ Lib.itoa n) (ht : Pow10At w) (hE : ErrsAt w) (hsz : 3 < w.heap.size) :
    Calls Tryd.prog 116 #[.string s, .int .i64 lo, .int .i64 hi] w (Panics w) := by
  have hN := Lib.hid hn
  clear hn
  by_cases hok : ∃ v, Lib.atoiAll s.data.toList = .ok v
  · obtain ⟨v, hv⟩ := hok
    have ha := Lib.hid (atoi_ok s w hs v hv)
    clear hv
    by_cases hl1 : v < lo
    · clear ht hE
      go_enter Tryd.func116, Tryd.ntmps116
      go_wp2_with fail
      refine ha.out.mono ?_
      rintro e w1 ⟨rfl, hb1⟩
      go_wp2
      exact ⟨rfl, ⟨_, _, rfl⟩, hb1⟩
    · by_cases hl2 : hi < v
      · clear ht hE
        go_enter Tryd.func116, Tryd.ntmps116
        go_wp2_with fail
        refine ha.out.mono ?_
        rintro e w1 ⟨rfl, hb1⟩
        go_wp2
        exact ⟨rfl, ⟨_, _, rfl⟩, hb1⟩
      · have hne : (Lib.itoa v == s.toList) = false := by
          rw [beq_eq_false_iff_ne, ByteArray.toList_eq]
          intro e
          exact hN.out v (by omega) (by omega) e.symm
        clear hE
        go_enter Tryd.func116, Tryd.ntmps116
        go_wp2_with fail
        refine ha.out.mono ?_
        rintro e w1 ⟨rfl, hb1⟩
        have ht1 := Lib.hid (implFormatInt_any v w1 (by omega) (by omega) (ht.below hb1 hsz))
        clear ht ha
        go_wp2_with fail
        refine ht1.out.mono ?_
        rintro e w2 ⟨rfl, hb2⟩
        go_wp2
        exact ⟨rfl, ⟨_, _, rfl⟩, hb1.trans (hb2.mono hb1.size)⟩
  · have ha := Lib.hid (atoi_err s w hs hE (fun v hv => hok ⟨v, hv⟩))
    clear ht hE
    go_enter Tryd.func116, Tryd.ntmps116
    go_wp2_with fail
    refine ha.out.mono ?_
    rintro e w1 ⟨n, t, p, rfl, hb1⟩
    go_wp2
    exact ⟨rfl, ⟨_, _, rfl⟩, hb1⟩

end Go.Proofs.YtceclhndagoddaaDoor
end

section
namespace Go.Proofs.YtceclhndagoddaaDoor
open Go.RowKit

theorem catchI_panicking (u : TypeId) (pv : Value) (older : List PanicEntry) (w : World) :
    CallsD Tryd.prog 115 #[] (.panicking ({ v := .iface u pv, recovered := false } :: older)) w fun e u' w' =>
      e = .returned (.tuple #[]) ∧ u' = .panicking ({ v := .iface u pv, recovered := true } :: older) ∧ w' = w := by
  refine callsD_of_wpS Tryd.func115 rfl fun c₀ cs hu => ?_
  apply wpS_region
  simp [wpOpsS, go_sem, recoverD, hu, Tryd.ntmps115, bodyPostS, results, Tryd.results115]

theorem catchI_idle (w : World) :
    CallsD Tryd.prog 115 #[] .returning w fun e u' w' => e = .returned (.tuple #[]) ∧ u' = .returning ∧ w' = w := by
  refine callsD_of_wpS Tryd.func115 rfl fun c₀ cs hu => ?_
  apply wpS_region
  simp [wpOpsS, go_sem, recoverD, hu, Tryd.ntmps115, bodyPostS, results, Tryd.results115]
  cases c₀
  simp_all

set_option maxHeartbeats 400000 in
theorem implParseInt_yes (s : ByteArray) (n : Int) (w : World) (hs : s.size ≤ 1048576) (h0 : -999999999999 ≤ n) (h1 : n ≤ 999999999999) (hn : s.data.toList = Lib.itoa n) (ht : Pow10At w) (hsz : 3 < w.heap.size) :
    Calls Tryd.prog 77 #[.string s] w fun e w' => e = .returned (.tuple #[.int .i64 n, .bool true]) ∧ Below w.heap.size w w' := by
  have hw := Lib.hid (within_yes s (-999999999999) 999999999999 n w hs h0 h1 (by omega) (by omega) hn ht hsz)
  have hmf : ∀ (fn : Fn) (first cap : Array Value) (w : World), (Instr.makeFunc fn first cap).run Tryd.prog w = .ok (.func fn first cap) w := fun _ _ _ _ => rfl
  clear hn ht
  go_enter_defers Tryd.func77, Tryd.ntmps77
  go_wp2_with fail
  refine hw.out.mono ?_
  rintro e w1 ⟨rfl, hb1⟩
  go_wp2
  refine leaves_cons (f := 115) (args := #[]) (by simp) (by simp [go_sem]) ?_
  refine (catchI_idle _).mono ?_
  rintro e u' w'' ⟨rfl, rfl, rfl⟩
  simp [Leaves, settle, results, Tryd.results77, go_sem]
  exact hb1

set_option maxHeartbeats 400000 in
theorem implParseInt_no (s : ByteArray) (w : World) (hs : s.size ≤ 1048576) (hn : ∀ n, -999999999999 ≤ n → n ≤ 999999999999 → s.data.toList ≠ Lib.itoa n) (ht : Pow10At w) (hE : ErrsAt w) (hsz : 3 < w.heap.size) :
    Calls Tryd.prog 77 #[.string s] w fun e w' => e = .returned (.tuple #[.int .i64 0, .bool false]) ∧ Below w.heap.size w w' := by
  have hw := Lib.hid (within_no s (-999999999999) 999999999999 w hs (by omega) (by omega) hn ht hE hsz)
  have hmf : ∀ (fn : Fn) (first cap : Array Value) (w : World), (Instr.makeFunc fn first cap).run Tryd.prog w = .ok (.func fn first cap) w := fun _ _ _ _ => rfl
  clear hn ht hE
  go_enter_defers Tryd.func77, Tryd.ntmps77
  go_wp2_with fail
  refine hw.out.mono ?_
  rintro e w1 ⟨⟨t, v, rfl⟩, hb1⟩
  go_wp2
  refine leaves_cons (f := 115) (args := #[]) (by simp) (by simp [go_sem]) ?_
  refine (catchI_panicking _ _ [] _).mono ?_
  rintro e u' w'' ⟨rfl, rfl, rfl⟩
  simp [Leaves, settle, results, Tryd.results77, go_sem]
  exact hb1

end Go.Proofs.YtceclhndagoddaaDoor
end
