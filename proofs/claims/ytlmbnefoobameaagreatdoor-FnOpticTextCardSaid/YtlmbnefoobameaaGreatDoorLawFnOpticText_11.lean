/- Lemmas: RPos, ReadLab, ReadO, ReadO2. -/
import Derived.Shelf.Strings.Prefix
import Derived.Shelf.GgClosure.StringsRunes
import Derived.Test.YtlmbnefoobameaaGreatDoorProg
import Derived.OrdersHeld
import Derived.RegionTactic
import Derived.Lib.Hide
import Derived.Test.YtlmbnefoobameaaGreatDoorLawFnOpticText_8
import Derived.Test.YtlmbnefoobameaaGreatDoorLawFnOpticText_9
import Derived.Test.YtlmbnefoobameaaGreatDoorLawFnOpticText_10
import Derived.Test.YtlmbnefoobameaaGreatDoorLawFnOpticText_1
import Derived.Deep.RegionHeld3
import Derived.Deep.DeepCutAuto
import Derived.Deep.AppendLies
import Derived.Laws.EntriesVeiled
import Derived.Deep.CutRange
import Derived.Deep.DrawnRows
import Derived.Test.YtlmbnefoobameaaGreatDoorLawFnOpticText_6

section
namespace Go.Proofs
open Go.Shelf
def Tryz.laysPrefix_ren : Go.Shelf.Ren := ⟨fun | 99 => 37 | 206 => 64 | n => n, fun | 9 => 9 | 3 => 3 | 4 => 4 | n => n, fun | n => n⟩
theorem Tryz.laysPrefix : Go.Proofs.Lays.n99 Tryz.prog Tryz.laysPrefix_ren := {
  mixed := by kernel_rfl
  f99 := Tryz.func37.trans (congrArg some (by kernel_rfl))
  f206 := Tryz.func64.trans (congrArg some (by kernel_rfl))
  t3 := Tryz.underlying3
  a3 := Tryz.isAgg3
  z3 := Tryz.sizeOf3
  v3 := Tryz.zeroValue3
  t4 := Tryz.underlying4
  a4 := Tryz.isAgg4
  z4 := Tryz.sizeOf4
  v4 := Tryz.zeroValue4
  t9 := Tryz.underlying9
  a9 := Tryz.isAgg9
  z9 := Tryz.sizeOf9
  v9 := Tryz.zeroValue9 }
def Tryz.laysTrimL_ren : Go.Shelf.Ren := ⟨fun | 272 => 39 | 315 => 65 | n => n, fun | 9 => 9 | 3 => 3 | 4 => 4 | 0 => 0 | 21 => 21 | 40 => 65 | n => n, fun | n => n⟩
theorem Tryz.laysTrimL : Go.Proofs.Lays.n272 Tryz.prog Tryz.laysTrimL_ren := {
  mixed := by kernel_rfl
  f272 := Tryz.func39.trans (congrArg some (by kernel_rfl))
  f315 := Tryz.func65.trans (congrArg some (by kernel_rfl))
  t0 := Tryz.underlying0
  a0 := Tryz.isAgg0
  z0 := Tryz.sizeOf0
  v0 := Tryz.zeroValue0
  t3 := Tryz.underlying3
  a3 := Tryz.isAgg3
  z3 := Tryz.sizeOf3
  v3 := Tryz.zeroValue3
  t4 := Tryz.underlying4
  a4 := Tryz.isAgg4
  z4 := Tryz.sizeOf4
  v4 := Tryz.zeroValue4
  t9 := Tryz.underlying9
  a9 := Tryz.isAgg9
  z9 := Tryz.sizeOf9
  v9 := Tryz.zeroValue9
  t21 := Tryz.underlying21
  a21 := Tryz.isAgg21
  z21 := Tryz.sizeOf21
  v21 := Tryz.zeroValue21
  t40 := Tryz.underlying65
  a40 := Tryz.isAgg65
  z40 := Tryz.sizeOf65
  v40 := Tryz.zeroValue65 }
end Go.Proofs

namespace Go.Proofs.YtlmbnefoobameaaGreatDoor
open Go.RowKit

/-- The reader's variables: the text in block ps, the place in block pa. -/
structure RAt (w : World) (ps pa : Nat) (s : ByteArray) (i : Nat) : Prop where
  str : Whole1 w ps 9 #[.string s]
  place : Whole1 w pa 3 #[.int .i64 (i : Int)]
  ne : ps ≠ pa
  le : i ≤ s.size
theorem RAt.lts {w : World} {ps pa i : Nat} {s : ByteArray} (h : RAt w ps pa s i) : ps < w.heap.size := Whole1.lt h.str
theorem RAt.lta {w : World} {ps pa i : Nat} {s : ByteArray} (h : RAt w ps pa s i) : pa < w.heap.size := Whole1.lt h.place
theorem RAt.below {w w' : World} {ps pa i B : Nat} {s : ByteArray} (h : RAt w ps pa s i) (hb : Below B w w') (hs : ps < B) (ha : pa < B) : RAt w' ps pa s i := ⟨h.str.below hb hs, h.place.below hb ha, h.ne, h.le⟩
theorem RAt.drewN {w : World} {ps pa i : Nat} {s : ByteArray} (h : RAt w ps pa s i) (n : Nat) : RAt (w.drewN n) ps pa s i := ⟨h.str, h.place, h.ne, h.le⟩
theorem RAt.seti {w : World} {ps pa i : Nat} {s : ByteArray} (h : RAt w ps pa s i) (j : Nat) (hj : j ≤ s.size) : RAt (w.setCell ⟨pa, 0, none⟩ (.int .i64 (j : Int))) ps pa s j :=
  ⟨(Below.heap_setCell _ _ _ _ h.ne).trans h.str, Whole1.set h.place 0 _, h.ne, hj⟩
/-- The place of the reader. -/
def placeAt (w : World) (pa : Nat) : Nat := match w.cell? ⟨pa, 0, none⟩ with | some v => (intOf v).toNat | none => 0
theorem RAt.where {w : World} {ps pa i : Nat} {s : ByteArray} (h : RAt w ps pa s i) : placeAt w pa = i := by
  have c1 : w.cell? ⟨pa, 0, none⟩ = some (.int .i64 (i : Int)) := Whole1.cell h.place 0
  unfold placeAt
  rw [c1]
  simp [intOf]

/-- The reader: three function values. -/
abbrev rdAcc (ps pa : Nat) : Value := .func (.func 36) #[] #[.pointer (some ⟨ps, 0, none⟩), .pointer (some ⟨pa, 0, none⟩)]
abbrev rdTak (ps pa : Nat) : Value := .func (.func 38) #[] #[.pointer (some ⟨pa, 0, none⟩), .pointer (some ⟨ps, 0, none⟩)]
abbrev rdEnd (ps pa : Nat) : Value := .func (.func 41) #[] #[.pointer (some ⟨pa, 0, none⟩), .pointer (some ⟨ps, 0, none⟩)]

theorem rest_extract (s : ByteArray) (i : Nat) : (s.extract i s.size).data.toList = restOf s i := by
  unfold restOf
  rw [ByteArray.data_extract, Array.toList_extract, List.extract_eq_take_drop]
  exact List.take_of_length_le (by simp)
/-- The answer v; the place is j. -/
def ReadR (w : World) (ps pa : Nat) (s : ByteArray) (v : Value) (j : Nat) (e : Ending) (w' : World) : Prop := e = .returned v ∧ RAt w' ps pa s j ∧ w.grownBy w' (some pa)

theorem prefix_eats (p l : List UInt8) : Lib.hasPrefix l p = (eats p l).isSome := by
  unfold Lib.hasPrefix eats
  cases h : p.isPrefixOf l <;> rfl
theorem eats_rest {p : ByteArray} {s : ByteArray} {i : Nat} {r : List UInt8} (hi : i ≤ s.size) (h : eats p.data.toList (restOf s i) = some r) : i + p.size ≤ s.size ∧ r = restOf s (i + p.size) := by
  have e := eats_some h
  have hl := congrArg List.length e
  have h1 : (restOf s i).length = s.size - i := by unfold restOf; simp
  have h2 : p.data.toList.length = p.size := by simp
  rw [h1, List.length_append, h2] at hl
  refine ⟨by omega, ?_⟩
  have e2 := congrArg (List.drop p.size) e
  rw [List.drop_left' h2] at e2
  rw [← e2]
  unfold restOf
  rw [List.drop_drop]

set_option maxHeartbeats 1000000 in
theorem accE_yes (ps pa i : Nat) (s p : ByteArray) (r : List UInt8) (w : World) (h : RAt w ps pa s i) (hs : s.size ≤ 1048576) (hp : eats p.data.toList (restOf s i) = some r) :
    Calls Tryz.prog 36 #[.string p, .pointer (some ⟨ps, 0, none⟩), .pointer (some ⟨pa, 0, none⟩)] w (ReadR w ps pa s (.bool true) (i + p.size)) := by
  have c0 : w.cell? ⟨ps, 0, none⟩ = some (.string s) := Whole1.cell h.str 0
  have c1 : w.cell? ⟨pa, 0, none⟩ = some (.int .i64 (i : Int)) := Whole1.cell h.place 0
  have f1 : w.frozen? ⟨pa, 0, none⟩ = false := Whole1.free h.place 0
  obtain ⟨hle, _⟩ := eats_rest h.le hp
  have hwr : IntKind.i64.wrap ((i : Int) + (p.size : Int)) = ((i + p.size : Nat) : Int) := by rw [IntKind.wrap_i64]; omega
  have hl1 : (0 : Int) ≤ (i : Int) := by omega
  have hl2 : (i : Int) ≤ (s.size : Int) := by have := h.le; omega
  have HP := Any.strings_HasPrefix Tryz.laysPrefix (s.extract i s.size) p w
  rw [rest_extract, prefix_eats, hp] at HP
  have HP := Lib.hid HP
  have HH := Lib.hid (h.seti (i + p.size) hle)
  have HO := Lib.hid (only_set (only_refl w (some pa)) 0 (.int .i64 ((i + p.size : Nat) : Int)))
  clear h hp
  go_enter Tryz.func36, Tryz.ntmps36
  go_wp2_with fail
  refine HP.out.mono ?_
  rintro e w1 ⟨rfl, rfl⟩
  go_wp2
  go_ret
  exact ⟨rfl, HH.out, HO.out⟩

set_option maxHeartbeats 1000000 in
theorem accE_no (ps pa i : Nat) (s p : ByteArray) (w : World) (h : RAt w ps pa s i) (hp : eats p.data.toList (restOf s i) = none) :
    Calls Tryz.prog 36 #[.string p, .pointer (some ⟨ps, 0, none⟩), .pointer (some ⟨pa, 0, none⟩)] w (ReadR w ps pa s (.bool false) i) := by
  have c0 : w.cell? ⟨ps, 0, none⟩ = some (.string s) := Whole1.cell h.str 0
  have c1 : w.cell? ⟨pa, 0, none⟩ = some (.int .i64 (i : Int)) := Whole1.cell h.place 0
  have hl1 : (0 : Int) ≤ (i : Int) := by omega
  have hl2 : (i : Int) ≤ (s.size : Int) := by have := h.le; omega
  have HP := Any.strings_HasPrefix Tryz.laysPrefix (s.extract i s.size) p w
  rw [rest_extract, prefix_eats, hp] at HP
  have HP := Lib.hid HP
  have HH := Lib.hid h
  clear h hp
  go_enter Tryz.func36, Tryz.ntmps36
  go_wp2_with fail
  refine HP.out.mono ?_
  rintro e w1 ⟨rfl, rfl⟩
  go_wp2
  go_ret
  exact ⟨rfl, HH.out, only_refl _ _⟩

set_option maxHeartbeats 1000000 in
theorem end_any (ps pa i : Nat) (s : ByteArray) (w : World) (h : RAt w ps pa s i) :
    Calls Tryz.prog 41 #[.pointer (some ⟨pa, 0, none⟩), .pointer (some ⟨ps, 0, none⟩)] w fun e w' => e = .returned (.bool (decide (i = s.size))) ∧ w = w' := by
  have c0 : w.cell? ⟨ps, 0, none⟩ = some (.string s) := Whole1.cell h.str 0
  have c1 : w.cell? ⟨pa, 0, none⟩ = some (.int .i64 (i : Int)) := Whole1.cell h.place 0
  by_cases he : i = s.size
  · have hq : ((i : Int) == (s.size : Int)) = true := by simp [he]
    have hd := Lib.hid (decide_eq_true he)
    clear h he
    go_enter Tryz.func41, Tryz.ntmps41
    go_wp2
    go_ret
    exact ⟨by rw [hd.out]; rfl, rfl⟩
  · have hq : ((i : Int) == (s.size : Int)) = false := by rw [beq_eq_false_iff_ne]; omega
    have hd := Lib.hid (decide_eq_false he)
    clear h he
    go_enter Tryz.func41, Tryz.ntmps41
    go_wp2
    go_ret
    exact ⟨by rw [hd.out]; rfl, rfl⟩

/-- A rune of names. -/
def nameR (r : Nat) : Bool := (decide (48 ≤ r) && decide (r ≤ 57)) || (decide (97 ≤ r) && decide (r ≤ 122))

set_option maxHeartbeats 1000000 in
theorem nameRune_any (r : Nat) (w : World) :
    Calls Tryz.prog 43 #[.int .i32 (r : Int)] w fun e w' => e = .returned (.bool (nameR r)) ∧ w = w' := by
  by_cases h1 : 97 ≤ r ∧ r ≤ 122
  · have HL := Lib.hid (letter_yes (r : Int) w (by omega) (by omega))
    have hn : Hid (nameR r = true) := Lib.hid (by unfold nameR; simp [h1])
    clear h1
    go_enter Tryz.func43, Tryz.ntmps43
    go_wp2_with fail
    refine HL.out.mono ?_
    rintro e w1 ⟨rfl, rfl⟩
    go_wp2
    go_ret
    exact ⟨by rw [hn.out]; rfl, rfl⟩
  · have HL := Lib.hid (letter_no (r : Int) w (by omega))
    by_cases h2 : 48 ≤ r ∧ r ≤ 57
    · have HD := Lib.hid (digit_yes (r : Int) w (by omega) (by omega))
      have hn : Hid (nameR r = true) := Lib.hid (by unfold nameR; simp [h2])
      clear h1 h2
      go_enter Tryz.func43, Tryz.ntmps43
      go_wp2_with fail
      refine HL.out.mono ?_
      rintro e w1 ⟨rfl, rfl⟩
      go_wp2_with fail
      refine HD.out.mono ?_
      rintro e w1 ⟨rfl, rfl⟩
      go_wp2
      go_ret
      exact ⟨by rw [hn.out]; rfl, rfl⟩
    · have HD := Lib.hid (digit_no (r : Int) w (by omega))
      have hn : Hid (nameR r = false) := Lib.hid (by unfold nameR; simp; omega)
      clear h1 h2
      go_enter Tryz.func43, Tryz.ntmps43
      go_wp2_with fail
      refine HL.out.mono ?_
      rintro e w1 ⟨rfl, rfl⟩
      go_wp2_with fail
      refine HD.out.mono ?_
      rintro e w1 ⟨rfl, rfl⟩
      go_wp2
      go_ret
      exact ⟨by rw [hn.out]; rfl, rfl⟩

theorem nameR_byte (c : UInt8) : nameR c.toNat = wordC c := rfl
theorem nameR_high (r : Nat) (h : 128 ≤ r) : nameR r = false := by
  unfold nameR
  simp
  omega
theorem wordC_high (c : UInt8) (h : 128 ≤ c.toNat) : wordC c = false := by
  rw [← nameR_byte]
  exact nameR_high _ h

/-- A rune of numbers. -/
def intR (r : Nat) : Bool := decide (r = 45) || (decide (48 ≤ r) && decide (r ≤ 57))

set_option maxHeartbeats 1000000 in
theorem intRune_any (r : Nat) (w : World) :
    Calls Tryz.prog 76 #[.int .i32 (r : Int)] w fun e w' => e = .returned (.bool (intR r)) ∧ w = w' := by
  by_cases h1 : r = 45
  · have hq : ((r : Int) == (45 : Int)) = true := by simp [h1]
    have hn : Hid (intR r = true) := Lib.hid (by unfold intR; simp [h1])
    clear h1
    go_enter Tryz.func76, Tryz.ntmps76
    go_wp2
    go_ret
    exact ⟨by rw [hn.out]; rfl, rfl⟩
  · have hq : ((r : Int) == (45 : Int)) = false := by rw [beq_eq_false_iff_ne]; omega
    by_cases h2 : 48 ≤ r ∧ r ≤ 57
    · have HD := Lib.hid (digit_yes (r : Int) w (by omega) (by omega))
      have hn : Hid (intR r = true) := Lib.hid (by unfold intR; simp [h2])
      clear h1 h2
      go_enter Tryz.func76, Tryz.ntmps76
      go_wp2_with fail
      refine HD.out.mono ?_
      rintro e w1 ⟨rfl, rfl⟩
      go_wp2
      go_ret
      exact ⟨by rw [hn.out]; rfl, rfl⟩
    · have HD := Lib.hid (digit_no (r : Int) w (by omega))
      have hn : Hid (intR r = false) := Lib.hid (by unfold intR; simp; omega)
      clear h1 h2
      go_enter Tryz.func76, Tryz.ntmps76
      go_wp2_with fail
      refine HD.out.mono ?_
      rintro e w1 ⟨rfl, rfl⟩
      go_wp2
      go_ret
      exact ⟨by rw [hn.out]; rfl, rfl⟩
theorem intR_byte (c : UInt8) : intR c.toNat = intC c := by
  unfold intR intC digC
  congr 1
  rw [Bool.eq_iff_iff]
  simp only [decide_eq_true_eq, beq_iff_eq]
  constructor
  · intro h
    exact UInt8.toNat_inj.1 (by rw [h]; rfl)
  · rintro rfl
    rfl
theorem intR_high (r : Nat) (h : 128 ≤ r) : intR r = false := by
  unfold intR
  simp
  omega
theorem pred_int (w : World) : PredAtRunes Tryz.prog 76 #[] intR w := fun W x _ _ =>
  (intRune_any x W).mono fun _ _ ⟨h1, h2⟩ => ⟨h1, 0, h2.symm⟩
theorem enters_int : ∀ args w, (callFunc 76 args).run Tryz.prog w = .ok (.enter 76 args) w := enters_of Tryz.func76 (by kernel_rfl) rfl

theorem run_end (C : UInt8 → Bool) (s : ByteArray) (k : Nat) (hk : k ≤ s.size) (hstop : ∀ h : k < s.size, C s[k] = false) : ∀ (d i : Nat), i + d = k → (∀ m, (h : m < k) → i ≤ m → C (s[m]'(by omega)) = true) →
    (restOf s i).dropWhile C = restOf s k ∧ (⟨((restOf s i).takeWhile C).toArray⟩ : ByteArray) = s.extract i k := by
  intro d
  induction d with
  | zero =>
    intro i hi _
    obtain rfl : i = k := by omega
    have e0 : s.extract i i = ⟨#[]⟩ := by
      apply ByteArray.ext
      rw [ByteArray.data_extract]
      simp
      omega
    rw [e0]
    by_cases h : i < s.size
    · rw [restOf_get s i h, List.dropWhile_cons_of_neg (by rw [hstop h]; simp), List.takeWhile_cons_of_neg (by rw [hstop h]; simp)]
      exact ⟨rfl, rfl⟩
    · rw [restOf_end s i (by omega)]
      exact ⟨rfl, rfl⟩
  | succ d ih =>
    intro i hi hall
    have h : i < s.size := by omega
    obtain ⟨h1, h2⟩ := ih (i + 1) (by omega) fun m hm him => hall m hm (by omega)
    have h3 := hall i (by omega) (Nat.le_refl _)
    rw [restOf_get s i h, List.dropWhile_cons_of_pos h3, List.takeWhile_cons_of_pos h3]
    refine ⟨h1, ?_⟩
    apply ByteArray.ext
    have h4 := congrArg (fun b : ByteArray => b.data.toList) h2
    simp only [ByteArray.data_extract, Array.toList_extract, List.extract_eq_take_drop] at h4
    apply Array.toList_inj.1
    simp only [ByteArray.data_extract, Array.toList_extract, List.extract_eq_take_drop]
    rw [List.drop_eq_getElem_cons (show i < s.data.toList.length by simpa using h), show k - i = (k - (i + 1)) + 1 by omega, List.take_succ_cons, ← h4, Array.getElem_toList]
    rfl

/-- The first byte that ends the run. -/
theorem idx_run (R : Nat → Bool) (C : UInt8 → Bool) (hC : ∀ c, R c.toNat = C c) (hH : ∀ r, 128 ≤ r → R r = false) (u : ByteArray) : ∀ (f pos : Nat), u.size ≤ pos + f → pos ≤ u.size → ∃ k, pos ≤ k ∧ k ≤ u.size ∧ (∀ m, (h : m < u.size) → pos ≤ m → m < k → C u[m] = true) ∧ (∀ h : k < u.size, C u[k] = false) ∧
    Lib.idxFuncFrom R false u f pos = if k < u.size then (k : Int) else -1 := by
  intro f
  induction f with
  | zero =>
    intro pos h1 h2
    obtain rfl : pos = u.size := by omega
    exact ⟨u.size, Nat.le_refl _, Nat.le_refl _, fun m h a b => absurd h (by omega), fun h => absurd h (Nat.lt_irrefl _), by rw [if_neg (Nat.lt_irrefl _)]; rfl⟩
  | succ f ih =>
    intro pos h1 h2
    by_cases hlt : pos < u.size
    · obtain ⟨r, wd, hd, h3, h4, h5, _⟩ := decode_cases u pos hlt
      have stop : R r = false → C u[pos] = false → ∃ k, pos ≤ k ∧ k ≤ u.size ∧ (∀ m, (h : m < u.size) → pos ≤ m → m < k → C u[m] = true) ∧ (∀ h : k < u.size, C u[k] = false) ∧
          Lib.idxFuncFrom R false u (f + 1) pos = if k < u.size then (k : Int) else -1 := fun hr hw =>
        ⟨pos, Nat.le_refl _, h2, fun m _ a b => absurd b (by omega), fun _ => hw, by rw [Lib.idxFuncFrom, if_pos hlt, if_pos hlt, hd, if_pos hr]⟩
      by_cases hr : r < 128
      · obtain ⟨rfl, rfl⟩ := h4 hr
        cases hw : C u[pos] with
        | false => exact stop (by rw [hC]; exact hw) hw
        | true =>
          obtain ⟨k, g1, g2, g3, g4, g5⟩ := ih (pos + 1) (by omega) (by omega)
          refine ⟨k, by omega, g2, fun m hm a b => ?_, g4, ?_⟩
          · by_cases e : m = pos
            · subst e
              exact hw
            · exact g3 m hm (by omega) b
          · rw [Lib.idxFuncFrom, if_pos hlt, hd, if_neg (by rw [hC, hw]; simp)]
            exact g5
      · exact stop (hH r (by omega)) (by rw [← hC]; exact hH _ (h5 (by omega)))
    · obtain rfl : pos = u.size := by omega
      exact ⟨u.size, Nat.le_refl _, Nat.le_refl _, fun m h a b => absurd h (by omega), fun h => absurd h (Nat.lt_irrefl _), by rw [Lib.idxFuncFrom_end _ _ _ _ _ hlt, if_neg hlt]⟩

theorem trim_run (R : Nat → Bool) (C : UInt8 → Bool) (hC : ∀ c, R c.toNat = C c) (hH : ∀ r, 128 ≤ r → R r = false) (s : ByteArray) (i : Nat) (hi : i ≤ s.size) : ∃ k, i ≤ k ∧ k ≤ s.size ∧ (Lib.trimLeftF R (s.extract i s.size)).size = s.size - k ∧ (restOf s i).dropWhile C = restOf s k ∧ (⟨((restOf s i).takeWhile C).toArray⟩ : ByteArray) = s.extract i k := by
  have hus : (s.extract i s.size).size = s.size - i := by rw [ByteArray.size_extract]; omega
  obtain ⟨k, _, h2, h3, h4, h5⟩ := idx_run R C hC hH (s.extract i s.size) (s.extract i s.size).size 0 (by omega) (by omega)
  have hget : ∀ m, (h : m < (s.extract i s.size).size) → (s.extract i s.size)[m] = s[i + m]'(by omega) := fun m h => by
    rw [ByteArray.getElem_extract]
  refine ⟨i + k, by omega, by omega, ?_, run_end C s (i + k) (by omega) (fun h => ?_) k i rfl (fun m h a => ?_)⟩
  · unfold Lib.trimLeftF Lib.idxFunc
    rw [h5]
    by_cases hk : k < (s.extract i s.size).size
    · rw [if_pos hk, if_neg (by omega), ByteArray.size_extract]
      omega
    · rw [if_neg hk, if_pos rfl]
      show 0 = _
      omega
  · have := h4 (by omega)
    rw [hget] at this
    exact this
  · have := h3 (m - i) (by omega) (Nat.zero_le _) (by omega)
    rw [hget] at this
    have e : i + (m - i) = m := by omega
    simp only [e] at this
    exact this

theorem rd_below {w w' : World} (h : Below w.drew.heap.size w.drew w') : Below w.heap.size w w' := (Below.refl w.heap.size w).drew.trans h
theorem RAt.wgrown {w w' : World} {ps pa i : Nat} {s : ByteArray} (_ : RAt w ps pa s i) (hb : Below w.heap.size w w') : w.grownBy w' (some pa) := only_below (only_refl w (some pa)) hb
theorem pred_name (w : World) : PredAtRunes Tryz.prog 43 #[] nameR w := fun W x _ _ =>
  (nameRune_any x W).mono fun _ _ ⟨h1, h2⟩ => ⟨h1, 0, h2.symm⟩
theorem enters_name : ∀ args w, (callFunc 43 args).run Tryz.prog w = .ok (.enter 43 args) w := enters_of Tryz.func43 (by kernel_rfl) rfl

/-- The word from i on is handed back; the reader stands behind it. -/
def RunR (C : UInt8 → Bool) (w : World) (ps pa : Nat) (s : ByteArray) (i : Nat) (e : Ending) (w' : World) : Prop :=
  ∃ k, i ≤ k ∧ ReadR w ps pa s (.string (s.extract i k)) k e w' ∧ (restOf s i).dropWhile C = restOf s k ∧ (⟨((restOf s i).takeWhile C).toArray⟩ : ByteArray) = s.extract i k

set_option maxHeartbeats 4000000 in
theorem takeRun_any (f : Nat) (ent : ∀ args w, (callFunc f args).run Tryz.prog w = .ok (.enter f args) w) (R : Nat → Bool) (C : UInt8 → Bool) (hC : ∀ c, R c.toNat = C c) (hH : ∀ r, 128 ≤ r → R r = false) (hPr : ∀ w, PredAtRunes Tryz.prog f #[] R w) (ps pa i : Nat) (s : ByteArray) (w : World) (h : RAt w ps pa s i) (hs : s.size ≤ 1048576) :
    Calls Tryz.prog 38 #[.func (.func f) #[] #[], .pointer (some ⟨pa, 0, none⟩), .pointer (some ⟨ps, 0, none⟩)] w (RunR C w ps pa s i) := by
  have c0 : w.cell? ⟨ps, 0, none⟩ = some (.string s) := Whole1.cell h.str 0
  have c1 : w.cell? ⟨pa, 0, none⟩ = some (.int .i64 (i : Int)) := Whole1.cell h.place 0
  obtain ⟨k, hik, hks, htr, hdrop, htake⟩ := trim_run R C hC hH s i h.le
  have hl1 : (0 : Int) ≤ (i : Int) := by omega
  have hl2 : (i : Int) ≤ (s.size : Int) := by have := h.le; omega
  have hl3 : (i : Int) ≤ (k : Int) := by omega
  have hl4 : (k : Int) ≤ (s.size : Int) := by omega
  have hlk : (0 : Int) ≤ (k : Int) := by omega
  have hT : Calls Tryz.prog 39 #[.string (s.extract i s.size), .func (.func f) #[] #[]] w.drew fun e w' => e = .returned (.string (Lib.trimLeftF R (s.extract i s.size))) ∧ Below w.drew.heap.size w.drew w' :=
    Any.strings_TrimLeftFunc_runes Tryz.laysTrimL f #[] ent R (s.extract i s.size) w.drew (hPr _)
  generalize Lib.trimLeftF R (s.extract i s.size) = tr at *
  have hwr : IntKind.i64.wrap ((s.size : Int) - (tr.size : Int)) = (k : Int) := by rw [IntKind.wrap_i64, htr]; omega
  have HT := Lib.hid hT
  have HD := Lib.hid (And.intro hdrop htake)
  have HH := Lib.hid h
  have hps := h.lts
  have hpa := h.lta
  clear h hT hdrop htake htr
  go_enter Tryz.func38, Tryz.ntmps38
  go_upto_region 2 with fail
  go_region_held3 (fun x : World => x.cell? ⟨ps, 0, none⟩ = some (.string s)) (first | assumption | go_keep)
    (first
      | (go_simp; go_at_call 39; (with_reducible refine HT.out.mono ?_); rintro e w1 ⟨rfl, hb'⟩; have hb := rd_below hb'; have hR := HH.out.below hb hps hpa; have d0 : w1.cell? ⟨ps, 0, none⟩ = some (.string s) := Whole1.cell hR.str 0; have d1 : w1.cell? ⟨pa, 0, none⟩ = some (.int .i64 (i : Int)) := Whole1.cell hR.place 0; have g1 : w1.frozen? ⟨pa, 0, none⟩ = false := Whole1.free hR.place 0; have HR := Lib.hid (hR.seti k hks); have HG := Lib.hid (only_set (HH.out.wgrown hb) 0 (.int .i64 (k : Int))); have x0 : (w1.setCell ⟨pa, 0, none⟩ (.int .i64 (k : Int))).cell? ⟨ps, 0, none⟩ = some (.string s) := Whole1.cell HR.out.str 0; clear hR hb hb'))
  have x1 : (w1.setCell ⟨pa, 0, none⟩ (.int .i64 (k : Int))).cell? ⟨pa, 0, none⟩ = some (.int .i64 (k : Int)) := Whole1.cell HR.out.place 0
  clear d0 d1 g1
  generalize w1.setCell ⟨pa, 0, none⟩ (.int .i64 (k : Int)) = w2 at *
  have HC := Lib.hid (clone_any (s.extract i k) w2 (by rw [ByteArray.size_extract]; omega))
  go_wp2_with fail
  refine HC.out.mono ?_
  rintro e w3 ⟨rfl, hb3⟩
  go_wp2
  go_ret
  exact ⟨k, hik, ⟨rfl, HR.out.below hb3 HR.out.lts HR.out.lta, only_below HG.out hb3⟩, HD.out⟩

theorem set3_kept (w : World) (r : Nat) (a b c : Value) (g : Nat) (hg : g ≠ r) : (((w.setCell ⟨r, 0, none⟩ a).setCell ⟨r, 1, none⟩ b).setCell ⟨r, 2, none⟩ c).heap[g]? = w.heap[g]? := by
  rw [Below.heap_setCell _ _ _ _ hg, Below.heap_setCell _ _ _ _ hg, Below.heap_setCell _ _ _ _ hg]
theorem RAt.set3 {w : World} {ps pa i r : Nat} {s : ByteArray} (h : RAt w ps pa s i) (hs : ps ≠ r) (ha : pa ≠ r) (a b c : Value) : RAt (((w.setCell ⟨r, 0, none⟩ a).setCell ⟨r, 1, none⟩ b).setCell ⟨r, 2, none⟩ c) ps pa s i :=
  ⟨(set3_kept _ _ _ _ _ _ hs).trans h.str, (set3_kept _ _ _ _ _ _ ha).trans h.place, h.ne, h.le⟩
set_option maxHeartbeats 1000000 in
theorem readerOf_any (s : ByteArray) (w : World) : Calls Tryz.prog 17 #[.string s] w fun e w' =>
    ∃ ps pa, e = .returned (.agg #[rdAcc ps pa, rdTak ps pa, rdEnd ps pa]) ∧ RAt w' ps pa s 0 ∧ Below w.heap.size w w' ∧ w.heap.size ≤ ps ∧ w.heap.size ≤ pa := by
  obtain ⟨hb0, p0, q0, r0, hs0⟩ := boxes3 w 9 41 3 #[.string s] #[.nilFunc, .nilFunc, .nilFunc] #[.int .i64 0]
  have d0 : (((w.alloc (.cells #[.string s] 9)).alloc (.cells #[.nilFunc, .nilFunc, .nilFunc] 41)).alloc (.cells #[.int .i64 0] 3)).cell? ⟨w.heap.size + 1, 0, none⟩ = some .nilFunc := q0.cell 0
  have d1 : (((w.alloc (.cells #[.string s] 9)).alloc (.cells #[.nilFunc, .nilFunc, .nilFunc] 41)).alloc (.cells #[.int .i64 0] 3)).cell? ⟨w.heap.size + 1, 1, none⟩ = some .nilFunc := q0.cell 1
  have d2 : (((w.alloc (.cells #[.string s] 9)).alloc (.cells #[.nilFunc, .nilFunc, .nilFunc] 41)).alloc (.cells #[.int .i64 0] 3)).cell? ⟨w.heap.size + 1, 2, none⟩ = some .nilFunc := q0.cell 2
  have f0 : (((w.alloc (.cells #[.string s] 9)).alloc (.cells #[.nilFunc, .nilFunc, .nilFunc] 41)).alloc (.cells #[.int .i64 0] 3)).frozen? ⟨w.heap.size + 1, 0, none⟩ = false := q0.free 0
  have f1 : (((w.alloc (.cells #[.string s] 9)).alloc (.cells #[.nilFunc, .nilFunc, .nilFunc] 41)).alloc (.cells #[.int .i64 0] 3)).frozen? ⟨w.heap.size + 1, 1, none⟩ = false := q0.free 1
  have f2 : (((w.alloc (.cells #[.string s] 9)).alloc (.cells #[.nilFunc, .nilFunc, .nilFunc] 41)).alloc (.cells #[.int .i64 0] 3)).frozen? ⟨w.heap.size + 1, 2, none⟩ = false := q0.free 2
  have hmf : ∀ (fn : Fn) (first cap : Array Value) (w : World), (Instr.makeFunc fn first cap).run Tryz.prog w = .ok (.func fn first cap) w := fun _ _ _ _ => rfl
  have HR := Lib.hid (⟨p0, r0, by omega, Nat.zero_le _⟩ : RAt _ w.heap.size (w.heap.size + 1 + 1) s 0)
  have HB := Lib.hid hb0
  clear p0 q0 r0 hb0 hs0
  go_enter Tryz.func17, Tryz.ntmps17
  go_upto_region 2 with fail
  generalize ((w.alloc (.cells #[.string s] 9)).alloc (.cells #[.nilFunc, .nilFunc, .nilFunc] 41)).alloc (.cells #[.int .i64 0] 3) = w1 at *
  go_wp2
  exact bodyPost_ret (v := .agg #[rdAcc w.heap.size (w.heap.size + 1 + 1), rdTak w.heap.size (w.heap.size + 1 + 1), rdEnd w.heap.size (w.heap.size + 1 + 1)]) (by simp [results, Tryz.results17, go_sem, d0, d1, d2]) rfl ⟨_, _, rfl, HR.out.set3 (by omega) (by omega) _ _ _, ((HB.out.setCell (by show w.heap.size ≤ w.heap.size + 1; omega) _).setCell (by show w.heap.size ≤ w.heap.size + 1; omega) _).setCell (by show w.heap.size ≤ w.heap.size + 1; omega) _, Nat.le_refl _, by omega⟩


end Go.Proofs.YtlmbnefoobameaaGreatDoor
end

section
namespace Go.Proofs.YtlmbnefoobameaaGreatDoor
open Go.RowKit

end Go.Proofs.YtlmbnefoobameaaGreatDoor
end

section
namespace Go.Proofs.YtlmbnefoobameaaGreatDoor
open Go.RowKit

theorem extract_rest (s : ByteArray) (i n : Nat) : (s.extract i (i + n)).toList = (restOf s i).take n := by
  rw [ByteArray.toList_eq, ByteArray.data_extract, Array.toList_extract, List.extract_eq_take_drop, Nat.add_sub_cancel_left]
  rfl
set_option maxHeartbeats 1000000 in
theorem takeE_yes (p i : Nat) (s pt : ByteArray) (r : List UInt8) (w : World) (h : RdAt w p s i false) (hs : s.size ≤ 1048576) (hp : eats pt.data.toList (restOf s i) = some r) :
    Calls Tryz.prog 52 #[.pointer (some ⟨p, 0, none⟩), .string pt] w (Read w p s (.bool true) (i + pt.size) false) := by
  obtain ⟨hle0, _⟩ := eats_rest h.2 hp
  have hq : ((s.extract i (i + pt.size)).toList == pt.toList) = true := by
    rw [extract_rest, eats_some hp, ByteArray.toList_eq, beq_iff_eq]
    exact List.take_left' (by simp)
  have c0 : w.cell? ⟨p, 0, none⟩ = some (.string s) := Whole1.cell h.1 0
  have c1 : w.cell? ⟨p, 1, none⟩ = some (.int .i64 (i : Int)) := Whole1.cell h.1 1
  have c2 : w.cell? ⟨p, 2, none⟩ = some (.bool false) := Whole1.cell h.1 2
  have f1 : w.frozen? ⟨p, 1, none⟩ = false := Whole1.free h.1 1
  have hle : decide ((s.size : Int) < (i : Int) + (pt.size : Int)) = false := decide_eq_false (by omega)
  have hwr : IntKind.i64.wrap ((i : Int) + (pt.size : Int)) = (i : Int) + (pt.size : Int) := by rw [IntKind.wrap_i64]; omega
  have hle2 : decide ((s.size : Int) < (i : Int) + (pt.size : Int)) = false := decide_eq_false (by omega)
  have htn : ((i : Int) + (pt.size : Int)).toNat = i + pt.size := by omega
  have hl1 : (0 : Int) ≤ (i : Int) := by omega
  have hl2 : (i : Int) ≤ (i : Int) + (pt.size : Int) := by omega
  have hl3 : (i : Int) + (pt.size : Int) ≤ (s.size : Int) := by omega
  have HH := Lib.hid h
  clear h hp hle
  go_enter Tryz.func52, Tryz.ntmps52
  go_wp2
  go_quiet (fail)
  go_wp2
  go_ret
  exact ⟨rfl, (HH.out.drewN _).seti (i + pt.size) (by omega), only_set (only_drewN (only_refl _ _) _) 1 _⟩

set_option maxHeartbeats 1000000 in
theorem takeE_no (p i : Nat) (s pt : ByteArray) (w : World) (h : RdAt w p s i false) (hs : s.size ≤ 1048576) (hps : pt.size ≤ 100) (hp : eats pt.data.toList (restOf s i) = none) :
    Calls Tryz.prog 52 #[.pointer (some ⟨p, 0, none⟩), .string pt] w (Read w p s (.bool false) i false) := by
  have c0 : w.cell? ⟨p, 0, none⟩ = some (.string s) := Whole1.cell h.1 0
  have c1 : w.cell? ⟨p, 1, none⟩ = some (.int .i64 (i : Int)) := Whole1.cell h.1 1
  have c2 : w.cell? ⟨p, 2, none⟩ = some (.bool false) := Whole1.cell h.1 2
  have hwr : IntKind.i64.wrap ((i : Int) + (pt.size : Int)) = (i : Int) + (pt.size : Int) := by
    have := h.2
    rw [IntKind.wrap_i64]
    omega
  have HH := Lib.hid h
  by_cases hi : i + pt.size ≤ s.size
  · have hq : ((s.extract i (i + pt.size)).toList == pt.toList) = false := by
      rw [extract_rest, ByteArray.toList_eq, beq_eq_false_iff_ne]
      intro e
      have e2 : restOf s i = pt.data.toList ++ (restOf s i).drop pt.size := by rw [← e, List.take_append_drop]
      rw [e2, eats_append] at hp
      cases hp
    have hle2 : decide ((s.size : Int) < (i : Int) + (pt.size : Int)) = false := decide_eq_false (by omega)
    have htn : ((i : Int) + (pt.size : Int)).toNat = i + pt.size := by omega
    have hl1 : (0 : Int) ≤ (i : Int) := by omega
    have hl2 : (i : Int) ≤ (i : Int) + (pt.size : Int) := by omega
    have hl3 : (i : Int) + (pt.size : Int) ≤ (s.size : Int) := by omega
    clear h hp
    go_enter Tryz.func52, Tryz.ntmps52
    go_wp2
    go_quiet (fail)
    go_wp2
    go_ret
    exact ⟨rfl, HH.out.drewN _, only_drewN (only_refl _ _) _⟩
  · have hle2 : decide ((s.size : Int) < (i : Int) + (pt.size : Int)) = true := decide_eq_true (by omega)
    clear h hp
    go_enter Tryz.func52, Tryz.ntmps52
    go_wp2
    go_quiet (fail)
    go_wp2
    go_ret
    exact ⟨rfl, HH.out.drewN _, only_drewN (only_refl _ _) _⟩

end Go.Proofs.YtlmbnefoobameaaGreatDoor
namespace Go.Proofs.YtlmbnefoobameaaGreatDoor.OR
open Go.RowKit
attribute [local go_sem ↓] Go.wp_at_zero Go.wp_at_succ

/-- The zero box of the result. -/
abbrev ZeroBox (w : World) (g : Nat) : Prop := Whole1 w g 26 #[.int .i64 0, .string ⟨#[]⟩, .int .i64 0, .slice none 0 0]
/-- The reader, and the zero box of the result. -/
structure Hold (w W : World) (p r : Nat) (s : ByteArray) (j : Nat) (bad : Bool) : Prop where
  rd : RdAt W p s j bad
  zero : ZeroBox W r
  grown : w.grownBy W (some p)
theorem Hold.read {w W W' : World} {p r j j' : Nat} {s : ByteArray} {bad bad' : Bool} (h : Hold w W p r s j bad) (hr : RdAt W' p s j' bad') (hg : W.grownBy W' (some p)) (hrp : r ≠ p) : Hold w W' p r s j' bad' :=
  ⟨hr, (hg.block r h.zero.lt (fun e => by injection e with e; exact hrp e)).trans h.zero, only_trans h.grown hg⟩
theorem Hold.more {w W W' : World} {p r j B : Nat} {s : ByteArray} {bad : Bool} (h : Hold w W p r s j bad) (hb : Below B W W') (hr : r < B) (hp : p < B) (hB : w.heap.size ≤ B) : Hold w W' p r s j bad :=
  ⟨h.rd.below hb hp, h.zero.below hb hr, grown_low h.grown hb hB⟩
theorem Hold.set {w W : World} {p r j q i : Nat} {s : ByteArray} {bad : Bool} (h : Hold w W p r s j bad) (v : Value) (hp : q ≠ p) (hr : q ≠ r) (hw : w.heap.size ≤ q) : Hold w (W.setCell ⟨q, i, none⟩ v) p r s j bad :=
  ⟨h.rd.block (Below.heap_setCell _ _ _ _ (fun e => hp e.symm)), (Below.heap_setCell _ _ _ _ (fun e => hr e.symm)).trans h.zero, grown_low h.grown ((Below.refl w.heap.size W).setCell (p := ⟨q, i, none⟩) hw v) (Nat.le_refl _)⟩
theorem Hold.drew {w W : World} {p r j : Nat} {s : ByteArray} {bad : Bool} (h : Hold w W p r s j bad) : Hold w W.drew p r s j bad := ⟨h.rd.drewN 1, h.zero, only_drewN h.grown 1⟩
/-- An error: some optic, the reader knows it. -/
def Bads (w : World) (p : Nat) (s : ByteArray) (e : Ending) (w' : World) : Prop :=
  ∃ x nm y A m ac j, e = .returned (.agg #[.int .i64 x, .string nm, .int .i64 y, .slice A m ac]) ∧ RdAt w' p s j true ∧ w.grownBy w' (some p)
/-- The optic t; r is still to read. -/
def Goods (w : World) (p : Nat) (s : ByteArray) (t : Ot) (r : List UInt8) (e : Ending) (w' : World) : Prop :=
  ∃ v j, e = .returned v ∧ r = restOf s j ∧ RdAt w' p s j false ∧ OwnOt w' w.heap.size v t ∧ w.grownBy w' (some p)
/-- The reading of an optic of n levels at most. -/
structure TypeOne (n : Nat) (d : Int) : Prop where
  bad : ∀ (w : World) (p i : Nat) (s : ByteArray) (b : Bool), RdAt w p s i b → s.size ≤ 1048576 → (b = true ∨ rdOt n (restOf s i) = none) → Calls Tryz.prog 27 #[.pointer (some ⟨p, 0, none⟩), .int .i64 d] w (Bads w p s)
  good : ∀ (w : World) (p i : Nat) (s : ByteArray) (t : Ot) (r : List UInt8), RdAt w p s i false → s.size ≤ 1048576 → rdOt n (restOf s i) = some (t, r) → Calls Tryz.prog 27 #[.pointer (some ⟨p, 0, none⟩), .int .i64 d] w (Goods w p s t r)
/-- A reading does what the model does. -/
def Does (x : Option (Ot × List UInt8)) (w : World) (p : Nat) (s : ByteArray) (e : Ending) (w' : World) : Prop := (x = none ∧ Bads w p s e w') ∨ ∃ t r, x = some (t, r) ∧ Goods w p s t r e w'
theorem TypeOne.of {n : Nat} {d : Int} (h0 : ∀ (w : World) (p i : Nat) (s : ByteArray), RdAt w p s i true → s.size ≤ 1048576 → Calls Tryz.prog 27 #[.pointer (some ⟨p, 0, none⟩), .int .i64 d] w (Bads w p s))
    (h1 : ∀ (w : World) (p i : Nat) (s : ByteArray), RdAt w p s i false → s.size ≤ 1048576 → Calls Tryz.prog 27 #[.pointer (some ⟨p, 0, none⟩), .int .i64 d] w (Does (rdOt n (restOf s i)) w p s)) : TypeOne n d := by
  refine ⟨fun w p i s b hr hs hb => ?_, fun w p i s t r hr hs ht => ?_⟩
  · cases b
    · refine (h1 w p i s hr hs).mono ?_
      rintro e w' (⟨_, h⟩ | ⟨t, r, h, _⟩)
      · exact h
      · rw [hb.resolve_left (by simp)] at h
        cases h
    · exact h0 w p i s hr hs
  · refine (h1 w p i s hr hs).mono ?_
    rintro e w' (⟨h, _⟩ | ⟨t', r', h, hg⟩)
    · rw [ht] at h
      cases h
    · rw [ht] at h
      cases h
      exact hg
theorem box_grown4 {w W : World} {p z : Nat} (hg : w.grownBy W (some p)) (hz : w.heap.size ≤ z) (a b c d : Value) : w.grownBy ((((W.setCell ⟨z, 0, none⟩ a).setCell ⟨z, 1, none⟩ b).setCell ⟨z, 2, none⟩ c).setCell ⟨z, 3, none⟩ d) (some p) :=
  grown_low hg ((oset4_below W z a b c d).mono hz) (Nat.le_refl _)
theorem fin_good {w W : World} {p j : Nat} {s : ByteArray} {v : Value} {t : Ot} (h : Hold w W p w.heap.size s j false) (hO : OwnOt W (w.heap.size + 1) v t) (hp : p < w.heap.size) (a b c d : Value) :
    Goods w p s t (restOf s j) (.returned v) ((((W.setCell ⟨w.heap.size, 0, none⟩ a).setCell ⟨w.heap.size, 1, none⟩ b).setCell ⟨w.heap.size, 2, none⟩ c).setCell ⟨w.heap.size, 3, none⟩ d) :=
  ⟨v, j, rfl, rfl, h.rd.block (oset4_keep _ _ _ _ _ _ _ (by omega)), (hO.set4 w.heap.size (by omega) a b c d).base (by omega), box_grown4 h.grown (Nat.le_refl _) a b c d⟩
theorem fin_bad {w W : World} {p j : Nat} {s : ByteArray} (h : Hold w W p w.heap.size s j true) (hp : p < w.heap.size) (x y : Int) (nm : ByteArray) (A : Option Addr) (m ac : Nat) (a b c d : Value) :
    Bads w p s (.returned (.agg #[.int .i64 x, .string nm, .int .i64 y, .slice A m ac])) ((((W.setCell ⟨w.heap.size, 0, none⟩ a).setCell ⟨w.heap.size, 1, none⟩ b).setCell ⟨w.heap.size, 2, none⟩ c).setCell ⟨w.heap.size, 3, none⟩ d) :=
  ⟨x, nm, y, A, m, ac, j, rfl, h.rd.block (oset4_keep _ _ _ _ _ _ _ (by omega)), box_grown4 h.grown (Nat.le_refl _) a b c d⟩

/-- A number is read. -/
def DoesN (x : Option (Va × List UInt8)) (w : World) (p : Nat) (s : ByteArray) (e : Ending) (w' : World) : Prop :=
  (x = none ∧ ∃ y j, e = .returned (.int .i64 y) ∧ RdAt w' p s j true ∧ w.grownBy w' (some p)) ∨ ∃ v r j, x = some (v, r) ∧ e = .returned (.int .i64 v.num) ∧ r = restOf s j ∧ RdAt w' p s j false ∧ w.grownBy w' (some p)
set_option maxHeartbeats 1000000 in
theorem readNumO (w : World) (p i : Nat) (s : ByteArray) (hr : RdAt w p s i false) (hs : s.size ≤ 1048576) :
    Calls Tryz.prog 55 #[.pointer (some ⟨p, 0, none⟩)] w (DoesN (rdIntV (restOf s i)) w p s) := by
  have HI := Lib.hid (V.readInt w p i s hr hs)
  clear hr
  go_enter Tryz.func55, Tryz.ntmps55
  go_wp2_with fail
  refine HI.out.mono ?_
  rintro e w1 (⟨hn, x, y, nm, L, n, lc, A, m, ac, j, rfl, hr1, hg1⟩ | ⟨t, r, hx, v, j, rfl, hrr, hr1, hO, hg1⟩)
  · obtain ⟨hb, z, _⟩ := boxes1 w1 95 #[.int .i64 x, .int .i64 y, .string nm, .slice L n lc, .slice A m ac]
    have c1 : (w1.alloc (.cells #[.int .i64 x, .int .i64 y, .string nm, .slice L n lc, .slice A m ac] 95)).cell? ⟨w1.heap.size, 1, none⟩ = some (.int .i64 y) := z.cell 1
    have HP := Lib.hid (show RdAt (w1.alloc (.cells #[.int .i64 x, .int .i64 y, .string nm, .slice L n lc, .slice A m ac] 95)) p s j true ∧ w.grownBy (w1.alloc (.cells #[.int .i64 x, .int .i64 y, .string nm, .slice L n lc, .slice A m ac] 95)) (some p) from ⟨hr1.below hb hr1.lt, only_below hg1 hb⟩)
    have HN := Lib.hid hn
    clear hr1 hg1 hb z hn
    go_wp2
    go_ret
    exact Or.inl ⟨HN.out, y, j, rfl, HP.out.1, HP.out.2⟩
  · obtain ⟨L, lc, A, ac, rfl⟩ := hO.open
    obtain ⟨hb, z, _⟩ := boxes1 w1 95 #[.int .i64 t.kind, .int .i64 t.num, .string t.name, .slice L t.labels.length lc, .slice A t.args.length ac]
    have c1 : (w1.alloc (.cells #[.int .i64 t.kind, .int .i64 t.num, .string t.name, .slice L t.labels.length lc, .slice A t.args.length ac] 95)).cell? ⟨w1.heap.size, 1, none⟩ = some (.int .i64 t.num) := z.cell 1
    have HP := Lib.hid (show RdAt (w1.alloc (.cells #[.int .i64 t.kind, .int .i64 t.num, .string t.name, .slice L t.labels.length lc, .slice A t.args.length ac] 95)) p s j false ∧ w.grownBy (w1.alloc (.cells #[.int .i64 t.kind, .int .i64 t.num, .string t.name, .slice L t.labels.length lc, .slice A t.args.length ac] 95)) (some p) from ⟨hr1.below hb hr1.lt, only_below hg1 hb⟩)
    have HX := Lib.hid (And.intro hx hrr)
    clear hr1 hg1 hb z hx hrr hO
    go_wp2
    go_ret
    exact Or.inr ⟨t, r, j, HX.out.1, rfl, HX.out.2, HP.out.1, HP.out.2⟩
set_option maxHeartbeats 1000000 in
theorem l7Named_any (k : Int) (nm : ByteArray) (w : World) : Calls Tryz.prog 53 #[.int .i64 k, .string nm] w fun e w' => e = .returned (.agg #[.int .i64 k, .string nm, .int .i64 0, .slice none 0 0]) ∧ Below w.heap.size w w' := by
  go_enter Tryz.func53, Tryz.ntmps53
  go_wp2
  exact bodyPost_ret (v := .agg #[.int .i64 k, .string nm, .int .i64 0, .slice none 0 0]) (by simp [results, Tryz.results53, go_sem]) rfl ⟨rfl, (Below.refl _ _).alloc (Nat.le_refl _) _⟩

end Go.Proofs.YtlmbnefoobameaaGreatDoor.OR
end

section
namespace Go.Proofs.YtlmbnefoobameaaGreatDoor.OR
open Go Go.RowKit
theorem grown_undrew {w w' : World} {p : Option Nat} (h : w.drew.grownBy w' p) : w.grownBy w' p := ⟨h.os, h.tape, h.output, h.size, h.block⟩
attribute [local go_sem ↓] Go.wp_at_zero Go.wp_at_succ

/-- Two optics under way, in block z. -/
structure Pair (w W : World) (p r z : Nat) (k : Int) (c : Value) (s : ByteArray) (j : Nat) (bad : Bool) : Prop where
  hold : Hold w W p r s j bad
  box : Whole1 W z 26 #[.int .i64 k, .string ⟨#[]⟩, .int .i64 0, c]
theorem Pair.read {w W W' : World} {p r z j j' : Nat} {k : Int} {s : ByteArray} {c : Value} {bad bad' : Bool} (h : Pair w W p r z k c s j bad) (hr : RdAt W' p s j' bad') (hg : W.grownBy W' (some p)) (hrp : r ≠ p) (hz : z ≠ p) : Pair w W' p r z k c s j' bad' :=
  ⟨h.hold.read hr hg hrp, (hg.block z h.box.lt (fun e => by injection e with e; exact hz e)).trans h.box⟩
theorem Pair.more {w W W' : World} {p r z j B : Nat} {k : Int} {s : ByteArray} {c : Value} {bad : Bool} (h : Pair w W p r z k c s j bad) (hb : Below B W W') (hr : r < B) (hp : p < B) (hz : z < B) (hB : w.heap.size ≤ B) : Pair w W' p r z k c s j bad :=
  ⟨h.hold.more hb hr hp hB, h.box.below hb hz⟩
theorem Pair.put {w W : World} {p r z j : Nat} {k : Int} {s : ByteArray} {c : Value} {bad : Bool} (h : Pair w W p r z k c s j bad) (i : Nat) (v : Value) (hz : z ≠ p) (hr : z ≠ r) (hw : w.heap.size ≤ z) (hi : i = 3 := by rfl) : Pair w (W.setCell ⟨z, i, none⟩ v) p r z k v s j bad := by
  subst hi
  exact ⟨h.hold.set v hz hr hw, h.box.set 3 v⟩
theorem Pair.kind {w W : World} {p r z j : Nat} {k : Int} {s : ByteArray} {c : Value} {bad : Bool} (h : Pair w W p r z k c s j bad) (k' : Int) (hz : z ≠ p) (hr : z ≠ r) (hw : w.heap.size ≤ z) : Pair w (W.setCell ⟨z, 0, none⟩ (.int .i64 k')) p r z k' c s j bad :=
  ⟨h.hold.set _ hz hr hw, h.box.set 0 _⟩

set_option maxHeartbeats 8000000 in
set_option maxRecDepth 100000 in
theorem readTwo (n : Nat) (d : Int) (H : TypeOne n d) (w : World) (p i : Nat) (s : ByteArray) (hr : RdAt w p s i false) (hs : s.size ≤ 1048576) :
    Calls Tryz.prog 57 #[.pointer (some ⟨p, 0, none⟩), .int .i64 d] w (Does (rdTwo (rdOt n) (restOf s i)) w p s) := by
  have hpl := hr.lt
  have hrp : w.heap.size ≠ p := by omega
  obtain ⟨hb0, r0, hs0⟩ := boxes1 w 26 #[.int .i64 0, .string ⟨#[]⟩, .int .i64 0, .slice none 0 0]
  have HH0 := Lib.hid (⟨hr.below hb0 hpl, r0, grown_low (only_refl w (some p)) hb0 (Nat.le_refl _)⟩ : Hold w (w.alloc (.cells #[.int .i64 0, .string ⟨#[]⟩, .int .i64 0, .slice none 0 0] 26)) p w.heap.size s i false)
  have H2 := Lib.hid H
  clear hr r0 hb0 H
  go_enter Tryz.func57, Tryz.ntmps57
  go_upto_region 1 with fail
  generalize w.alloc (.cells #[.int .i64 0, .string ⟨#[]⟩, .int .i64 0, .slice none 0 0] 26) = w0 at *
  cases hty : rdOt n (restOf s i) with
  | none =>
    have HX := Lib.hid (show rdTwo (rdOt n) (restOf s i) = none by rw [rdTwo, hty])
    have HT := Lib.hid (H2.out.bad w0 p i s false HH0.out.rd hs (Or.inr hty))
    clear hty
    go_wp2_with fail
    refine HT.out.mono ?_
    rintro e w1 ⟨x, nm, y, A, m, ac, j, rfl, hr1, hg1⟩
    have HH1 := Lib.hid (HH0.out.read hr1 hg1 hrp)
    have hs1 := hg1.size
    obtain ⟨hb2, xa, x2, hs2⟩ := boxes2 w1 26 26 #[.int .i64 x, .string nm, .int .i64 y, .slice A m ac] #[.int .i64 12, .string ⟨#[]⟩, .int .i64 0, .slice none 0 0]
    have HP2 := Lib.hid (⟨HH1.out.more hb2 HH1.out.zero.lt HH1.out.rd.lt HH1.out.grown.size, x2⟩ : Pair w ((w1.alloc (.cells #[.int .i64 x, .string nm, .int .i64 y, .slice A m ac] 26)).alloc (.cells #[.int .i64 12, .string ⟨#[]⟩, .int .i64 0, .slice none 0 0] 26)) p w.heap.size (w1.heap.size + 1) 12 (.slice none 0 0) s j true)
    have HTK := Lib.hid (take_bad p j s 59 _ HP2.out.hold.rd)
    have hzp : w1.heap.size + 1 ≠ p := by omega
    have hzr : w1.heap.size + 1 ≠ w.heap.size := by omega
    have hzw : w.heap.size ≤ w1.heap.size + 1 := by omega
    clear hr1 hg1 hb2 xa x2 hs2
    go_wp2_with fail
    generalize (w1.alloc (.cells #[.int .i64 x, .string nm, .int .i64 y, .slice A m ac] 26)).alloc (.cells #[.int .i64 12, .string ⟨#[]⟩, .int .i64 0, .slice none 0 0] 26) = w2 at *
    generalize w1.heap.size + 1 = z at *
    refine HTK.out.mono ?_
    rintro e w3 ⟨rfl, hr3, hg3⟩
    have HP3 := Lib.hid (HP2.out.read hr3 hg3 hrp hzp)
    have q0 : w3.cell? ⟨z, 0, none⟩ = some (.int .i64 12) := HP3.out.box.cell 0
    have u0 : w3.frozen? ⟨z, 0, none⟩ = false := HP3.out.box.free 0
    have HP4 := Lib.hid (HP3.out.kind 13 hzp hzr hzw)
    have HMU := Lib.hid (must_no p j s true 124 _ HP4.out.hold.rd hs (Or.inl rfl))
    clear hr3 hg3
    go_wp2_with fail
    clear q0 u0
    generalize w3.setCell ⟨z, 0, none⟩ (.int .i64 13) = w4 at *
    refine HMU.out.mono ?_
    rintro e w5 ⟨rfl, hr5, hg5⟩
    have HP5 := Lib.hid (HP4.out.read hr5 hg5 hrp hzp)
    have b5 : w5.cell? ⟨p, 2, none⟩ = some (.bool true) := Whole1.cell hr5.1 2
    clear hr5 hg5
    have q0 : w5.cell? ⟨z, 0, none⟩ = some (.int .i64 13) := HP5.out.box.cell 0
    have q1 : w5.cell? ⟨z, 1, none⟩ = some (.string ⟨#[]⟩) := HP5.out.box.cell 1
    have q2 : w5.cell? ⟨z, 2, none⟩ = some (.int .i64 0) := HP5.out.box.cell 2
    have q3 : w5.cell? ⟨z, 3, none⟩ = some (.slice none 0 0) := HP5.out.box.cell 3
    have d0 : w5.cell? ⟨w.heap.size, 0, none⟩ = some (.int .i64 0) := HP5.out.hold.zero.cell 0
    have f0 : w5.frozen? ⟨w.heap.size, 0, none⟩ = false := HP5.out.hold.zero.free 0
    have d1 : w5.cell? ⟨w.heap.size, 1, none⟩ = some (.string ⟨#[]⟩) := HP5.out.hold.zero.cell 1
    have f1 : w5.frozen? ⟨w.heap.size, 1, none⟩ = false := HP5.out.hold.zero.free 1
    have d2 : w5.cell? ⟨w.heap.size, 2, none⟩ = some (.int .i64 0) := HP5.out.hold.zero.cell 2
    have f2 : w5.frozen? ⟨w.heap.size, 2, none⟩ = false := HP5.out.hold.zero.free 2
    have d3 : w5.cell? ⟨w.heap.size, 3, none⟩ = some (.slice none 0 0) := HP5.out.hold.zero.cell 3
    have f3 : w5.frozen? ⟨w.heap.size, 3, none⟩ = false := HP5.out.hold.zero.free 3
    go_wp2
    exact bodyPost_ret (v := .agg #[.int .i64 13, .string ⟨#[]⟩, .int .i64 0, .slice none 0 0]) (by simp [results, Tryz.results57, go_sem, d0, d1, d2, d3]) rfl (Or.inl ⟨HX.out, fin_bad HP5.out.hold hpl 13 0 ⟨#[]⟩ none 0 0 _ _ _ _⟩)
  | some aq =>
    obtain ⟨a, q⟩ := aq
    have HTY := Lib.hid hty
    have HT := Lib.hid (H2.out.good w0 p i s a q HH0.out.rd hs hty)
    clear hty
    go_wp2_with fail
    refine HT.out.mono ?_
    rintro e w1 ⟨v, j, rfl, hrr, hr1, hO1, hg1⟩
    have hI1 := hO1.owned
    obtain ⟨A, ac, rfl⟩ := hO1.open
    have HH1 := Lib.hid (HH0.out.read hr1 hg1 hrp)
    have hs1 := hg1.size
    subst hrr
    obtain ⟨hb2, xa, x2, hs2⟩ := boxes2 w1 26 26 #[.int .i64 a.kind, .string a.name, .int .i64 a.num, .slice A a.args.length ac] #[.int .i64 12, .string ⟨#[]⟩, .int .i64 0, .slice none 0 0]
    have HP2 := Lib.hid (⟨HH1.out.more hb2 HH1.out.zero.lt HH1.out.rd.lt HH1.out.grown.size, x2⟩ : Pair w ((w1.alloc (.cells #[.int .i64 a.kind, .string a.name, .int .i64 a.num, .slice A a.args.length ac] 26)).alloc (.cells #[.int .i64 12, .string ⟨#[]⟩, .int .i64 0, .slice none 0 0] 26)) p w.heap.size (w1.heap.size + 1) 12 (.slice none 0 0) s j false)
    have HXA2 := Lib.hid xa
    have HIA2 := Lib.hid (hI1.keep (w' := (w1.alloc (.cells #[.int .i64 a.kind, .string a.name, .int .i64 a.num, .slice A a.args.length ac] 26)).alloc (.cells #[.int .i64 12, .string ⟨#[]⟩, .int .i64 0, .slice none 0 0] 26)) fun g hg hl => hb2.block g hl)
    have hzp : w1.heap.size + 1 ≠ p := by omega
    have hyp : w1.heap.size ≠ p := by omega
    have hzr : w1.heap.size + 1 ≠ w.heap.size := by omega
    have hzw : w.heap.size ≤ w1.heap.size + 1 := by omega
    have hzl := x2.lt
    clear hr1 hg1 hb2 xa x2 hI1 hO1
    go_upto_region 3 with fail
    generalize (w1.alloc (.cells #[.int .i64 a.kind, .string a.name, .int .i64 a.num, .slice A a.args.length ac] 26)).alloc (.cells #[.int .i64 12, .string ⟨#[]⟩, .int .i64 0, .slice none 0 0] 26) = w2 at *
    generalize hyz : w1.heap.size + 1 = z at *
    generalize hy0 : w1.heap.size = y0 at *
    have hyne : y0 ≠ z := by omega
    by_cases h59 : ∃ hk : j < s.size, s[j] = 59
    · obtain ⟨hk, hc⟩ := h59
      have HX := Lib.hid (show rdTwo (rdOt n) (restOf s i) = rdLast (rdOt n) 12 a (restOf s (j + 1)) by rw [rdTwo, HTY.out]; simp only [eat_hit hk hc])
      have HTK := Lib.hid (take_yes p j s 59 w2 HP2.out.hold.rd hs hk hc)
      clear hc
      go_wp2_with fail
      refine HTK.out.mono ?_
      rintro e w5 ⟨rfl, hr5, hg5⟩
      have HP5 := Lib.hid (HP2.out.read hr5 hg5 hrp hzp)
      have HXA := Lib.hid (HXA2.out.grownO hg5 hyp)
      have hs5 := hg5.size
      have HIA := Lib.hid (HIA2.out.keep (w' := w5) (fun g hg hl => hg5.block g hl (fun e => by injection e with e; have := (osp _ hg).1; omega)))
      clear hr5 hg5
      have b5 : w5.cell? ⟨p, 2, none⟩ = some (.bool false) := Whole1.cell HP5.out.hold.rd.1 2
      go_upto_region 8 with fail
      have q0 : w5.drew.cell? ⟨y0, 0, none⟩ = some (.int .i64 a.kind) := HXA.out.cell 0
      have q1 : w5.drew.cell? ⟨y0, 1, none⟩ = some (.string a.name) := HXA.out.cell 1
      have q2 : w5.drew.cell? ⟨y0, 2, none⟩ = some (.int .i64 a.num) := HXA.out.cell 2
      have q3 : w5.drew.cell? ⟨y0, 3, none⟩ = some (.slice A a.args.length ac) := HXA.out.cell 3
      cases hty2 : rdOt n (restOf s (j + 1)) with
      | none =>
        have HX2 := Lib.hid (show rdTwo (rdOt n) (restOf s i) = none by rw [HX.out, rdLast, hty2])
        have HT2 := Lib.hid (H2.out.bad w5.drew p (j + 1) s false (HP5.out.hold.rd.drewN 1) hs (Or.inr hty2))
        clear hty2
        go_region_held3 (fun x' : World => x'.cell? ⟨y0, 0, none⟩ = some (.int .i64 a.kind) ∧ x'.cell? ⟨y0, 1, none⟩ = some (.string a.name) ∧ x'.cell? ⟨y0, 2, none⟩ = some (.int .i64 a.num) ∧ x'.cell? ⟨y0, 3, none⟩ = some (.slice A a.args.length ac)) (first | with_reducible exact ⟨q0, q1, q2, q3⟩ | with_reducible exact ⟨kc0, kc1, kc2, kc3⟩ | with_reducible exact ⟨ka0, ka1, ka2, ka3⟩ | with_reducible exact ⟨kb0, kb1, kb2, kb3⟩ | go_keep) (first | (go_simp; go_at_call 27; (with_reducible refine HT2.out.mono ?_); rintro e w7 ⟨x2, nm2, n2, B, m2, bc, j7, rfl, hr7, hg7'⟩; have hg7 := grown_undrew hg7'; have hs7 := hg7.size; have hP7 := HP5.out.read hr7 hg7 hrp hzp; have hx7 := HXA.out.grownO hg7 hyp; have kc0 : w7.cell? ⟨y0, 0, none⟩ = some (.int .i64 a.kind) := hx7.cell 0; have kc1 : w7.cell? ⟨y0, 1, none⟩ = some (.string a.name) := hx7.cell 1; have kc2 : w7.cell? ⟨y0, 2, none⟩ = some (.int .i64 a.num) := hx7.cell 2; have kc3 : w7.cell? ⟨y0, 3, none⟩ = some (.slice A a.args.length ac) := hx7.cell 3; have hb8 := (Below.refl w7.heap.size w7).alloc (Nat.le_refl _) (.cells #[.int .i64 a.kind, .string a.name, .int .i64 a.num, .slice A a.args.length ac, .int .i64 x2, .string nm2, .int .i64 n2, .slice B m2 bc] 26); have hP8 := hP7.more hb8 hP7.hold.zero.lt hP7.hold.rd.lt hP7.box.lt hP7.hold.grown.size; have hx8 := hx7.below hb8 hx7.lt; have ka0 : (w7.alloc (.cells #[.int .i64 a.kind, .string a.name, .int .i64 a.num, .slice A a.args.length ac, .int .i64 x2, .string nm2, .int .i64 n2, .slice B m2 bc] 26)).cell? ⟨y0, 0, none⟩ = some (.int .i64 a.kind) := hx8.cell 0; have ka1 : (w7.alloc (.cells #[.int .i64 a.kind, .string a.name, .int .i64 a.num, .slice A a.args.length ac, .int .i64 x2, .string nm2, .int .i64 n2, .slice B m2 bc] 26)).cell? ⟨y0, 1, none⟩ = some (.string a.name) := hx8.cell 1; have ka2 : (w7.alloc (.cells #[.int .i64 a.kind, .string a.name, .int .i64 a.num, .slice A a.args.length ac, .int .i64 x2, .string nm2, .int .i64 n2, .slice B m2 bc] 26)).cell? ⟨y0, 2, none⟩ = some (.int .i64 a.num) := hx8.cell 2; have ka3 : (w7.alloc (.cells #[.int .i64 a.kind, .string a.name, .int .i64 a.num, .slice A a.args.length ac, .int .i64 x2, .string nm2, .int .i64 n2, .slice B m2 bc] 26)).cell? ⟨y0, 3, none⟩ = some (.slice A a.args.length ac) := hx8.cell 3; have kb0 : ((w7.alloc (.cells #[.int .i64 a.kind, .string a.name, .int .i64 a.num, .slice A a.args.length ac, .int .i64 x2, .string nm2, .int .i64 n2, .slice B m2 bc] 26)).setCell ⟨z, 3, none⟩ (.slice (some ⟨w7.heap.size, 0, none⟩) 2 2)).cell? ⟨y0, 0, none⟩ = some (.int .i64 a.kind) := (World.cell?_setCell_far _ _ _ _ (fun e => hyne e.symm)).trans ka0; have kb1 : ((w7.alloc (.cells #[.int .i64 a.kind, .string a.name, .int .i64 a.num, .slice A a.args.length ac, .int .i64 x2, .string nm2, .int .i64 n2, .slice B m2 bc] 26)).setCell ⟨z, 3, none⟩ (.slice (some ⟨w7.heap.size, 0, none⟩) 2 2)).cell? ⟨y0, 1, none⟩ = some (.string a.name) := (World.cell?_setCell_far _ _ _ _ (fun e => hyne e.symm)).trans ka1; have kb2 : ((w7.alloc (.cells #[.int .i64 a.kind, .string a.name, .int .i64 a.num, .slice A a.args.length ac, .int .i64 x2, .string nm2, .int .i64 n2, .slice B m2 bc] 26)).setCell ⟨z, 3, none⟩ (.slice (some ⟨w7.heap.size, 0, none⟩) 2 2)).cell? ⟨y0, 2, none⟩ = some (.int .i64 a.num) := (World.cell?_setCell_far _ _ _ _ (fun e => hyne e.symm)).trans ka2; have kb3 : ((w7.alloc (.cells #[.int .i64 a.kind, .string a.name, .int .i64 a.num, .slice A a.args.length ac, .int .i64 x2, .string nm2, .int .i64 n2, .slice B m2 bc] 26)).setCell ⟨z, 3, none⟩ (.slice (some ⟨w7.heap.size, 0, none⟩) 2 2)).cell? ⟨y0, 3, none⟩ = some (.slice A a.args.length ac) := (World.cell?_setCell_far _ _ _ _ (fun e => hyne e.symm)).trans ka3; have c8 : (w7.alloc (.cells #[.int .i64 a.kind, .string a.name, .int .i64 a.num, .slice A a.args.length ac, .int .i64 x2, .string nm2, .int .i64 n2, .slice B m2 bc] 26)).cell? ⟨z, 3, none⟩ = some (.slice none 0 0) := hP8.box.cell 3; have g8 : (w7.alloc (.cells #[.int .i64 a.kind, .string a.name, .int .i64 a.num, .slice A a.args.length ac, .int .i64 x2, .string nm2, .int .i64 n2, .slice B m2 bc] 26)).frozen? ⟨z, 3, none⟩ = false := hP8.box.free 3; have HP9 := Lib.hid (hP8.put 3 (.slice (some ⟨w7.heap.size, 0, none⟩) 2 2) hzp hzr hzw); clear hr7 hg7 hg7' hP7 hx7 hb8 hP8 hx8))
        all_goals
          have HMU := Lib.hid (must_no p j7 s true 41 ((w7.alloc (.cells #[.int .i64 a.kind, .string a.name, .int .i64 a.num, .slice A a.args.length ac, .int .i64 x2, .string nm2, .int .i64 n2, .slice B m2 bc] 26)).setCell ⟨z, 3, none⟩ (.slice (some ⟨w7.heap.size, 0, none⟩) 2 2)) HP9.out.hold.rd hs (Or.inl rfl))
          generalize ((w7.alloc (.cells #[.int .i64 a.kind, .string a.name, .int .i64 a.num, .slice A a.args.length ac, .int .i64 x2, .string nm2, .int .i64 n2, .slice B m2 bc] 26)).setCell ⟨z, 3, none⟩ (.slice (some ⟨w7.heap.size, 0, none⟩) 2 2)) = w9 at *
          go_wp2_with fail
          refine HMU.out.mono ?_
          rintro e w10 ⟨rfl, hr10, hg10⟩
          have HP10 := Lib.hid (HP9.out.read hr10 hg10 hrp hzp)
          have e0 : w10.cell? ⟨z, 0, none⟩ = some (.int .i64 12) := HP10.out.box.cell 0
          have e1 : w10.cell? ⟨z, 1, none⟩ = some (.string ⟨#[]⟩) := HP10.out.box.cell 1
          have e2 : w10.cell? ⟨z, 2, none⟩ = some (.int .i64 0) := HP10.out.box.cell 2
          have e3 : w10.cell? ⟨z, 3, none⟩ = some (.slice (some ⟨w7.heap.size, 0, none⟩) 2 2) := HP10.out.box.cell 3
          clear hr10 hg10
          have d0 : w10.cell? ⟨w.heap.size, 0, none⟩ = some (.int .i64 0) := HP10.out.hold.zero.cell 0
          have f0 : w10.frozen? ⟨w.heap.size, 0, none⟩ = false := HP10.out.hold.zero.free 0
          have d1 : w10.cell? ⟨w.heap.size, 1, none⟩ = some (.string ⟨#[]⟩) := HP10.out.hold.zero.cell 1
          have f1 : w10.frozen? ⟨w.heap.size, 1, none⟩ = false := HP10.out.hold.zero.free 1
          have d2 : w10.cell? ⟨w.heap.size, 2, none⟩ = some (.int .i64 0) := HP10.out.hold.zero.cell 2
          have f2 : w10.frozen? ⟨w.heap.size, 2, none⟩ = false := HP10.out.hold.zero.free 2
          have d3 : w10.cell? ⟨w.heap.size, 3, none⟩ = some (.slice none 0 0) := HP10.out.hold.zero.cell 3
          have f3 : w10.frozen? ⟨w.heap.size, 3, none⟩ = false := HP10.out.hold.zero.free 3
          go_wp2
          exact bodyPost_ret (v := .agg #[.int .i64 12, .string ⟨#[]⟩, .int .i64 0, .slice (some ⟨w7.heap.size, 0, none⟩) 2 2]) (by simp [results, Tryz.results57, go_sem, d0, d1, d2, d3]) rfl (Or.inl ⟨HX2.out, fin_bad HP10.out.hold hpl 12 0 ⟨#[]⟩ _ 2 2 _ _ _ _⟩)
      | some br =>
        obtain ⟨b, q2⟩ := br
        have HTY2 := Lib.hid hty2
        have HT2 := Lib.hid (H2.out.good w5.drew p (j + 1) s b q2 (HP5.out.hold.rd.drewN 1) hs hty2)
        clear hty2
        go_region_held3 (fun x' : World => x'.cell? ⟨y0, 0, none⟩ = some (.int .i64 a.kind) ∧ x'.cell? ⟨y0, 1, none⟩ = some (.string a.name) ∧ x'.cell? ⟨y0, 2, none⟩ = some (.int .i64 a.num) ∧ x'.cell? ⟨y0, 3, none⟩ = some (.slice A a.args.length ac)) (first | with_reducible exact ⟨q0, q1, q2, q3⟩ | with_reducible exact ⟨kc0, kc1, kc2, kc3⟩ | with_reducible exact ⟨ka0, ka1, ka2, ka3⟩ | with_reducible exact ⟨kb0, kb1, kb2, kb3⟩ | go_keep) (first | (go_simp; go_at_call 27; (with_reducible refine HT2.out.mono ?_); rintro e w7 ⟨v7, j7, rfl, hrr7, hr7, hO7, hg7'⟩; have hg7 := grown_undrew hg7'; have hs7 := hg7.size; have hI7 := hO7.owned; obtain ⟨B, bc, rfl⟩ := hO7.open; have hP7 := HP5.out.read hr7 hg7 hrp hzp; have hx7 := HXA.out.grownO hg7 hyp; have kc0 : w7.cell? ⟨y0, 0, none⟩ = some (.int .i64 a.kind) := hx7.cell 0; have kc1 : w7.cell? ⟨y0, 1, none⟩ = some (.string a.name) := hx7.cell 1; have kc2 : w7.cell? ⟨y0, 2, none⟩ = some (.int .i64 a.num) := hx7.cell 2; have kc3 : w7.cell? ⟨y0, 3, none⟩ = some (.slice A a.args.length ac) := hx7.cell 3; have hb8 := (Below.refl w7.heap.size w7).alloc (Nat.le_refl _) (.cells #[.int .i64 a.kind, .string a.name, .int .i64 a.num, .slice A a.args.length ac, .int .i64 b.kind, .string b.name, .int .i64 b.num, .slice B b.args.length bc] 26); have hP8 := hP7.more hb8 hP7.hold.zero.lt hP7.hold.rd.lt hP7.box.lt hP7.hold.grown.size; have hx8 := hx7.below hb8 hx7.lt; have ka0 : (w7.alloc (.cells #[.int .i64 a.kind, .string a.name, .int .i64 a.num, .slice A a.args.length ac, .int .i64 b.kind, .string b.name, .int .i64 b.num, .slice B b.args.length bc] 26)).cell? ⟨y0, 0, none⟩ = some (.int .i64 a.kind) := hx8.cell 0; have ka1 : (w7.alloc (.cells #[.int .i64 a.kind, .string a.name, .int .i64 a.num, .slice A a.args.length ac, .int .i64 b.kind, .string b.name, .int .i64 b.num, .slice B b.args.length bc] 26)).cell? ⟨y0, 1, none⟩ = some (.string a.name) := hx8.cell 1; have ka2 : (w7.alloc (.cells #[.int .i64 a.kind, .string a.name, .int .i64 a.num, .slice A a.args.length ac, .int .i64 b.kind, .string b.name, .int .i64 b.num, .slice B b.args.length bc] 26)).cell? ⟨y0, 2, none⟩ = some (.int .i64 a.num) := hx8.cell 2; have ka3 : (w7.alloc (.cells #[.int .i64 a.kind, .string a.name, .int .i64 a.num, .slice A a.args.length ac, .int .i64 b.kind, .string b.name, .int .i64 b.num, .slice B b.args.length bc] 26)).cell? ⟨y0, 3, none⟩ = some (.slice A a.args.length ac) := hx8.cell 3; have kb0 : ((w7.alloc (.cells #[.int .i64 a.kind, .string a.name, .int .i64 a.num, .slice A a.args.length ac, .int .i64 b.kind, .string b.name, .int .i64 b.num, .slice B b.args.length bc] 26)).setCell ⟨z, 3, none⟩ (.slice (some ⟨w7.heap.size, 0, none⟩) 2 2)).cell? ⟨y0, 0, none⟩ = some (.int .i64 a.kind) := (World.cell?_setCell_far _ _ _ _ (fun e => hyne e.symm)).trans ka0; have kb1 : ((w7.alloc (.cells #[.int .i64 a.kind, .string a.name, .int .i64 a.num, .slice A a.args.length ac, .int .i64 b.kind, .string b.name, .int .i64 b.num, .slice B b.args.length bc] 26)).setCell ⟨z, 3, none⟩ (.slice (some ⟨w7.heap.size, 0, none⟩) 2 2)).cell? ⟨y0, 1, none⟩ = some (.string a.name) := (World.cell?_setCell_far _ _ _ _ (fun e => hyne e.symm)).trans ka1; have kb2 : ((w7.alloc (.cells #[.int .i64 a.kind, .string a.name, .int .i64 a.num, .slice A a.args.length ac, .int .i64 b.kind, .string b.name, .int .i64 b.num, .slice B b.args.length bc] 26)).setCell ⟨z, 3, none⟩ (.slice (some ⟨w7.heap.size, 0, none⟩) 2 2)).cell? ⟨y0, 2, none⟩ = some (.int .i64 a.num) := (World.cell?_setCell_far _ _ _ _ (fun e => hyne e.symm)).trans ka2; have kb3 : ((w7.alloc (.cells #[.int .i64 a.kind, .string a.name, .int .i64 a.num, .slice A a.args.length ac, .int .i64 b.kind, .string b.name, .int .i64 b.num, .slice B b.args.length bc] 26)).setCell ⟨z, 3, none⟩ (.slice (some ⟨w7.heap.size, 0, none⟩) 2 2)).cell? ⟨y0, 3, none⟩ = some (.slice A a.args.length ac) := (World.cell?_setCell_far _ _ _ _ (fun e => hyne e.symm)).trans ka3; have c8 : (w7.alloc (.cells #[.int .i64 a.kind, .string a.name, .int .i64 a.num, .slice A a.args.length ac, .int .i64 b.kind, .string b.name, .int .i64 b.num, .slice B b.args.length bc] 26)).cell? ⟨z, 3, none⟩ = some (.slice none 0 0) := hP8.box.cell 3; have g8 : (w7.alloc (.cells #[.int .i64 a.kind, .string a.name, .int .i64 a.num, .slice A a.args.length ac, .int .i64 b.kind, .string b.name, .int .i64 b.num, .slice B b.args.length bc] 26)).frozen? ⟨z, 3, none⟩ = false := hP8.box.free 3; have HP9 := Lib.hid (hP8.put 3 (.slice (some ⟨w7.heap.size, 0, none⟩) 2 2) hzp hzr hzw); have HO9 := Lib.hid (own_otwo_set (w1 := w7) (base := w.heap.size + 1) (z := z) (o := 3) (v := .slice (some ⟨w7.heap.size, 0, none⟩) 2 2) 12 0 ⟨#[]⟩ (Nat.zero_le _) (lo0 := w0.heap.size) (hi0 := y0) (lo1 := w5.heap.size) (hi1 := w7.heap.size) (by omega) (by omega) (by omega) (by omega) (by omega) (by omega) (by omega) (HIA.out.keep (w' := w7) (fun g hg hl => hg7.block g hl (fun e => by injection e with e; have := (osp _ hg).1; omega))) hI7); have hq7 := Lib.hid hrr7; clear hI7; clear hr7 hg7 hg7' hP7 hx7 hb8 hP8 hx8))
        all_goals
          by_cases h41 : ∃ hk : j7 < s.size, s[j7] = 41
          · obtain ⟨hk7, hc7⟩ := h41
            have HX2 := Lib.hid (show rdTwo (rdOt n) (restOf s i) = some (.mk 12 0 ⟨#[]⟩ [a, b], restOf s (j7 + 1)) by rw [HX.out, rdLast, HTY2.out]; simp only [hq7.out, eat_hit hk7 hc7])
            have HMU := Lib.hid (must_yes p j7 s 41 ((w7.alloc (.cells #[.int .i64 a.kind, .string a.name, .int .i64 a.num, .slice A a.args.length ac, .int .i64 b.kind, .string b.name, .int .i64 b.num, .slice B b.args.length bc] 26)).setCell ⟨z, 3, none⟩ (.slice (some ⟨w7.heap.size, 0, none⟩) 2 2)) HP9.out.hold.rd hs hk7 hc7)
            generalize ((w7.alloc (.cells #[.int .i64 a.kind, .string a.name, .int .i64 a.num, .slice A a.args.length ac, .int .i64 b.kind, .string b.name, .int .i64 b.num, .slice B b.args.length bc] 26)).setCell ⟨z, 3, none⟩ (.slice (some ⟨w7.heap.size, 0, none⟩) 2 2)) = w9 at *
            go_wp2_with fail
            refine HMU.out.mono ?_
            rintro e w10 ⟨rfl, hr10, hg10⟩
            have HP10 := Lib.hid (HP9.out.read hr10 hg10 hrp hzp)
            have HO10 := Lib.hid (HO9.out.keep hg10.size fun g hg hl => hg10.block g hl (fun e => by injection e with e; omega))
            have e0 : w10.cell? ⟨z, 0, none⟩ = some (.int .i64 12) := HP10.out.box.cell 0
            have e1 : w10.cell? ⟨z, 1, none⟩ = some (.string ⟨#[]⟩) := HP10.out.box.cell 1
            have e2 : w10.cell? ⟨z, 2, none⟩ = some (.int .i64 0) := HP10.out.box.cell 2
            have e3 : w10.cell? ⟨z, 3, none⟩ = some (.slice (some ⟨w7.heap.size, 0, none⟩) 2 2) := HP10.out.box.cell 3
            clear hr10 hg10
            have d0 : w10.cell? ⟨w.heap.size, 0, none⟩ = some (.int .i64 0) := HP10.out.hold.zero.cell 0
            have f0 : w10.frozen? ⟨w.heap.size, 0, none⟩ = false := HP10.out.hold.zero.free 0
            have d1 : w10.cell? ⟨w.heap.size, 1, none⟩ = some (.string ⟨#[]⟩) := HP10.out.hold.zero.cell 1
            have f1 : w10.frozen? ⟨w.heap.size, 1, none⟩ = false := HP10.out.hold.zero.free 1
            have d2 : w10.cell? ⟨w.heap.size, 2, none⟩ = some (.int .i64 0) := HP10.out.hold.zero.cell 2
            have f2 : w10.frozen? ⟨w.heap.size, 2, none⟩ = false := HP10.out.hold.zero.free 2
            have d3 : w10.cell? ⟨w.heap.size, 3, none⟩ = some (.slice none 0 0) := HP10.out.hold.zero.cell 3
            have f3 : w10.frozen? ⟨w.heap.size, 3, none⟩ = false := HP10.out.hold.zero.free 3
            go_wp2
            exact bodyPost_ret (v := .agg #[.int .i64 12, .string ⟨#[]⟩, .int .i64 0, .slice (some ⟨w7.heap.size, 0, none⟩) 2 2]) (by simp [results, Tryz.results57, go_sem, d0, d1, d2, d3]) rfl (Or.inr ⟨_, _, HX2.out, fin_good HP10.out.hold HO10.out hpl _ _ _ _⟩)
          · have HX2 := Lib.hid (show rdTwo (rdOt n) (restOf s i) = none by rw [HX.out, rdLast, HTY2.out]; simp only [hq7.out, eat_miss h41])
            have HMU := Lib.hid (must_no p j7 s false 41 ((w7.alloc (.cells #[.int .i64 a.kind, .string a.name, .int .i64 a.num, .slice A a.args.length ac, .int .i64 b.kind, .string b.name, .int .i64 b.num, .slice B b.args.length bc] 26)).setCell ⟨z, 3, none⟩ (.slice (some ⟨w7.heap.size, 0, none⟩) 2 2)) HP9.out.hold.rd hs (Or.inr (eat_miss h41)))
            generalize ((w7.alloc (.cells #[.int .i64 a.kind, .string a.name, .int .i64 a.num, .slice A a.args.length ac, .int .i64 b.kind, .string b.name, .int .i64 b.num, .slice B b.args.length bc] 26)).setCell ⟨z, 3, none⟩ (.slice (some ⟨w7.heap.size, 0, none⟩) 2 2)) = w9 at *
            go_wp2_with fail
            refine HMU.out.mono ?_
            rintro e w10 ⟨rfl, hr10, hg10⟩
            have HP10 := Lib.hid (HP9.out.read hr10 hg10 hrp hzp)
            have e0 : w10.cell? ⟨z, 0, none⟩ = some (.int .i64 12) := HP10.out.box.cell 0
            have e1 : w10.cell? ⟨z, 1, none⟩ = some (.string ⟨#[]⟩) := HP10.out.box.cell 1
            have e2 : w10.cell? ⟨z, 2, none⟩ = some (.int .i64 0) := HP10.out.box.cell 2
            have e3 : w10.cell? ⟨z, 3, none⟩ = some (.slice (some ⟨w7.heap.size, 0, none⟩) 2 2) := HP10.out.box.cell 3
            clear hr10 hg10
            have d0 : w10.cell? ⟨w.heap.size, 0, none⟩ = some (.int .i64 0) := HP10.out.hold.zero.cell 0
            have f0 : w10.frozen? ⟨w.heap.size, 0, none⟩ = false := HP10.out.hold.zero.free 0
            have d1 : w10.cell? ⟨w.heap.size, 1, none⟩ = some (.string ⟨#[]⟩) := HP10.out.hold.zero.cell 1
            have f1 : w10.frozen? ⟨w.heap.size, 1, none⟩ = false := HP10.out.hold.zero.free 1
            have d2 : w10.cell? ⟨w.heap.size, 2, none⟩ = some (.int .i64 0) := HP10.out.hold.zero.cell 2
            have f2 : w10.frozen? ⟨w.heap.size, 2, none⟩ = false := HP10.out.hold.zero.free 2
            have d3 : w10.cell? ⟨w.heap.size, 3, none⟩ = some (.slice none 0 0) := HP10.out.hold.zero.cell 3
            have f3 : w10.frozen? ⟨w.heap.size, 3, none⟩ = false := HP10.out.hold.zero.free 3
            go_wp2
            exact bodyPost_ret (v := .agg #[.int .i64 12, .string ⟨#[]⟩, .int .i64 0, .slice (some ⟨w7.heap.size, 0, none⟩) 2 2]) (by simp [results, Tryz.results57, go_sem, d0, d1, d2, d3]) rfl (Or.inl ⟨HX2.out, fin_bad HP10.out.hold hpl 12 0 ⟨#[]⟩ _ 2 2 _ _ _ _⟩)
    · have h59' := eat_miss h59
      have HTK := Lib.hid (take_other p j s 59 w2 HP2.out.hold.rd hs h59')
      have H59 := Lib.hid h59'
      clear h59 h59'
      go_wp2_with fail
      refine HTK.out.mono ?_
      rintro e w3 ⟨rfl, hr3, hg3⟩
      have HP3 := Lib.hid (HP2.out.read hr3 hg3 hrp hzp)
      have HXA3 := HXA2.out.grownO hg3 hyp
      have hs3 := hg3.size
      have HIA3 := HIA2.out.keep (w' := w3) (fun g hg hl => hg3.block g hl (fun e => by injection e with e; have := (osp _ hg).1; omega))
      have q0 : w3.cell? ⟨z, 0, none⟩ = some (.int .i64 12) := HP3.out.box.cell 0
      have u0 : w3.frozen? ⟨z, 0, none⟩ = false := HP3.out.box.free 0
      have HP4 := Lib.hid (HP3.out.kind 13 hzp hzr hzw)
      have HXA4 : Hid (Whole1 (w3.setCell ⟨z, 0, none⟩ (.int .i64 13)) y0 26 #[.int .i64 a.kind, .string a.name, .int .i64 a.num, .slice A a.args.length ac]) := Lib.hid ((Below.heap_setCell w3 ⟨z, 0, none⟩ (.int .i64 13) y0 (by show y0 ≠ z; omega)).trans HXA3)
      have HIA4 := Lib.hid (HIA3.keep (w' := w3.setCell ⟨z, 0, none⟩ (.int .i64 13)) (fun g hg hl => Below.heap_setCell _ _ _ _ (by have := (osp _ hg).2; show g ≠ z; omega)))
      have hs4 : (w3.setCell ⟨z, 0, none⟩ (.int .i64 13)).heap.size = w3.heap.size := by simp [World.setCell]
      clear hr3 hg3 HXA3 HIA3
      by_cases h124 : ∃ hk : j < s.size, s[j] = 124
      · obtain ⟨hk, hc⟩ := h124
        have HX := Lib.hid (show rdTwo (rdOt n) (restOf s i) = rdLast (rdOt n) 13 a (restOf s (j + 1)) by rw [rdTwo, HTY.out]; simp only [H59.out, eat_hit hk hc])
        have HMU := Lib.hid (must_yes p j s 124 _ HP4.out.hold.rd hs hk hc)
        clear hc
        go_wp2_with fail
        clear q0 u0
        generalize w3.setCell ⟨z, 0, none⟩ (.int .i64 13) = w4 at *
        refine HMU.out.mono ?_
        rintro e w5 ⟨rfl, hr5, hg5⟩
        have HP5 := Lib.hid (HP4.out.read hr5 hg5 hrp hzp)
        have HXA := Lib.hid (HXA4.out.grownO hg5 hyp)
        have hs5 := hg5.size
        have HIA := Lib.hid (HIA4.out.keep (w' := w5) (fun g hg hl => hg5.block g hl (fun e => by injection e with e; have := (osp _ hg).1; omega)))
        clear hr5 hg5
        have b5 : w5.cell? ⟨p, 2, none⟩ = some (.bool false) := Whole1.cell HP5.out.hold.rd.1 2
        go_upto_region 8 with fail
        have q0 : w5.drew.cell? ⟨y0, 0, none⟩ = some (.int .i64 a.kind) := HXA.out.cell 0
        have q1 : w5.drew.cell? ⟨y0, 1, none⟩ = some (.string a.name) := HXA.out.cell 1
        have q2 : w5.drew.cell? ⟨y0, 2, none⟩ = some (.int .i64 a.num) := HXA.out.cell 2
        have q3 : w5.drew.cell? ⟨y0, 3, none⟩ = some (.slice A a.args.length ac) := HXA.out.cell 3
        cases hty2 : rdOt n (restOf s (j + 1)) with
        | none =>
          have HX2 := Lib.hid (show rdTwo (rdOt n) (restOf s i) = none by rw [HX.out, rdLast, hty2])
          have HT2 := Lib.hid (H2.out.bad w5.drew p (j + 1) s false (HP5.out.hold.rd.drewN 1) hs (Or.inr hty2))
          clear hty2
          go_region_held3 (fun x' : World => x'.cell? ⟨y0, 0, none⟩ = some (.int .i64 a.kind) ∧ x'.cell? ⟨y0, 1, none⟩ = some (.string a.name) ∧ x'.cell? ⟨y0, 2, none⟩ = some (.int .i64 a.num) ∧ x'.cell? ⟨y0, 3, none⟩ = some (.slice A a.args.length ac)) (first | with_reducible exact ⟨q0, q1, q2, q3⟩ | with_reducible exact ⟨kc0, kc1, kc2, kc3⟩ | with_reducible exact ⟨ka0, ka1, ka2, ka3⟩ | with_reducible exact ⟨kb0, kb1, kb2, kb3⟩ | go_keep) (first | (go_simp; go_at_call 27; (with_reducible refine HT2.out.mono ?_); rintro e w7 ⟨x2, nm2, n2, B, m2, bc, j7, rfl, hr7, hg7'⟩; have hg7 := grown_undrew hg7'; have hs7 := hg7.size; have hP7 := HP5.out.read hr7 hg7 hrp hzp; have hx7 := HXA.out.grownO hg7 hyp; have kc0 : w7.cell? ⟨y0, 0, none⟩ = some (.int .i64 a.kind) := hx7.cell 0; have kc1 : w7.cell? ⟨y0, 1, none⟩ = some (.string a.name) := hx7.cell 1; have kc2 : w7.cell? ⟨y0, 2, none⟩ = some (.int .i64 a.num) := hx7.cell 2; have kc3 : w7.cell? ⟨y0, 3, none⟩ = some (.slice A a.args.length ac) := hx7.cell 3; have hb8 := (Below.refl w7.heap.size w7).alloc (Nat.le_refl _) (.cells #[.int .i64 a.kind, .string a.name, .int .i64 a.num, .slice A a.args.length ac, .int .i64 x2, .string nm2, .int .i64 n2, .slice B m2 bc] 26); have hP8 := hP7.more hb8 hP7.hold.zero.lt hP7.hold.rd.lt hP7.box.lt hP7.hold.grown.size; have hx8 := hx7.below hb8 hx7.lt; have ka0 : (w7.alloc (.cells #[.int .i64 a.kind, .string a.name, .int .i64 a.num, .slice A a.args.length ac, .int .i64 x2, .string nm2, .int .i64 n2, .slice B m2 bc] 26)).cell? ⟨y0, 0, none⟩ = some (.int .i64 a.kind) := hx8.cell 0; have ka1 : (w7.alloc (.cells #[.int .i64 a.kind, .string a.name, .int .i64 a.num, .slice A a.args.length ac, .int .i64 x2, .string nm2, .int .i64 n2, .slice B m2 bc] 26)).cell? ⟨y0, 1, none⟩ = some (.string a.name) := hx8.cell 1; have ka2 : (w7.alloc (.cells #[.int .i64 a.kind, .string a.name, .int .i64 a.num, .slice A a.args.length ac, .int .i64 x2, .string nm2, .int .i64 n2, .slice B m2 bc] 26)).cell? ⟨y0, 2, none⟩ = some (.int .i64 a.num) := hx8.cell 2; have ka3 : (w7.alloc (.cells #[.int .i64 a.kind, .string a.name, .int .i64 a.num, .slice A a.args.length ac, .int .i64 x2, .string nm2, .int .i64 n2, .slice B m2 bc] 26)).cell? ⟨y0, 3, none⟩ = some (.slice A a.args.length ac) := hx8.cell 3; have kb0 : ((w7.alloc (.cells #[.int .i64 a.kind, .string a.name, .int .i64 a.num, .slice A a.args.length ac, .int .i64 x2, .string nm2, .int .i64 n2, .slice B m2 bc] 26)).setCell ⟨z, 3, none⟩ (.slice (some ⟨w7.heap.size, 0, none⟩) 2 2)).cell? ⟨y0, 0, none⟩ = some (.int .i64 a.kind) := (World.cell?_setCell_far _ _ _ _ (fun e => hyne e.symm)).trans ka0; have kb1 : ((w7.alloc (.cells #[.int .i64 a.kind, .string a.name, .int .i64 a.num, .slice A a.args.length ac, .int .i64 x2, .string nm2, .int .i64 n2, .slice B m2 bc] 26)).setCell ⟨z, 3, none⟩ (.slice (some ⟨w7.heap.size, 0, none⟩) 2 2)).cell? ⟨y0, 1, none⟩ = some (.string a.name) := (World.cell?_setCell_far _ _ _ _ (fun e => hyne e.symm)).trans ka1; have kb2 : ((w7.alloc (.cells #[.int .i64 a.kind, .string a.name, .int .i64 a.num, .slice A a.args.length ac, .int .i64 x2, .string nm2, .int .i64 n2, .slice B m2 bc] 26)).setCell ⟨z, 3, none⟩ (.slice (some ⟨w7.heap.size, 0, none⟩) 2 2)).cell? ⟨y0, 2, none⟩ = some (.int .i64 a.num) := (World.cell?_setCell_far _ _ _ _ (fun e => hyne e.symm)).trans ka2; have kb3 : ((w7.alloc (.cells #[.int .i64 a.kind, .string a.name, .int .i64 a.num, .slice A a.args.length ac, .int .i64 x2, .string nm2, .int .i64 n2, .slice B m2 bc] 26)).setCell ⟨z, 3, none⟩ (.slice (some ⟨w7.heap.size, 0, none⟩) 2 2)).cell? ⟨y0, 3, none⟩ = some (.slice A a.args.length ac) := (World.cell?_setCell_far _ _ _ _ (fun e => hyne e.symm)).trans ka3; have c8 : (w7.alloc (.cells #[.int .i64 a.kind, .string a.name, .int .i64 a.num, .slice A a.args.length ac, .int .i64 x2, .string nm2, .int .i64 n2, .slice B m2 bc] 26)).cell? ⟨z, 3, none⟩ = some (.slice none 0 0) := hP8.box.cell 3; have g8 : (w7.alloc (.cells #[.int .i64 a.kind, .string a.name, .int .i64 a.num, .slice A a.args.length ac, .int .i64 x2, .string nm2, .int .i64 n2, .slice B m2 bc] 26)).frozen? ⟨z, 3, none⟩ = false := hP8.box.free 3; have HP9 := Lib.hid (hP8.put 3 (.slice (some ⟨w7.heap.size, 0, none⟩) 2 2) hzp hzr hzw); clear hr7 hg7 hg7' hP7 hx7 hb8 hP8 hx8))
          all_goals
            have HMU := Lib.hid (must_no p j7 s true 41 ((w7.alloc (.cells #[.int .i64 a.kind, .string a.name, .int .i64 a.num, .slice A a.args.length ac, .int .i64 x2, .string nm2, .int .i64 n2, .slice B m2 bc] 26)).setCell ⟨z, 3, none⟩ (.slice (some ⟨w7.heap.size, 0, none⟩) 2 2)) HP9.out.hold.rd hs (Or.inl rfl))
            generalize ((w7.alloc (.cells #[.int .i64 a.kind, .string a.name, .int .i64 a.num, .slice A a.args.length ac, .int .i64 x2, .string nm2, .int .i64 n2, .slice B m2 bc] 26)).setCell ⟨z, 3, none⟩ (.slice (some ⟨w7.heap.size, 0, none⟩) 2 2)) = w9 at *
            go_wp2_with fail
            refine HMU.out.mono ?_
            rintro e w10 ⟨rfl, hr10, hg10⟩
            have HP10 := Lib.hid (HP9.out.read hr10 hg10 hrp hzp)
            have e0 : w10.cell? ⟨z, 0, none⟩ = some (.int .i64 13) := HP10.out.box.cell 0
            have e1 : w10.cell? ⟨z, 1, none⟩ = some (.string ⟨#[]⟩) := HP10.out.box.cell 1
            have e2 : w10.cell? ⟨z, 2, none⟩ = some (.int .i64 0) := HP10.out.box.cell 2
            have e3 : w10.cell? ⟨z, 3, none⟩ = some (.slice (some ⟨w7.heap.size, 0, none⟩) 2 2) := HP10.out.box.cell 3
            clear hr10 hg10
            have d0 : w10.cell? ⟨w.heap.size, 0, none⟩ = some (.int .i64 0) := HP10.out.hold.zero.cell 0
            have f0 : w10.frozen? ⟨w.heap.size, 0, none⟩ = false := HP10.out.hold.zero.free 0
            have d1 : w10.cell? ⟨w.heap.size, 1, none⟩ = some (.string ⟨#[]⟩) := HP10.out.hold.zero.cell 1
            have f1 : w10.frozen? ⟨w.heap.size, 1, none⟩ = false := HP10.out.hold.zero.free 1
            have d2 : w10.cell? ⟨w.heap.size, 2, none⟩ = some (.int .i64 0) := HP10.out.hold.zero.cell 2
            have f2 : w10.frozen? ⟨w.heap.size, 2, none⟩ = false := HP10.out.hold.zero.free 2
            have d3 : w10.cell? ⟨w.heap.size, 3, none⟩ = some (.slice none 0 0) := HP10.out.hold.zero.cell 3
            have f3 : w10.frozen? ⟨w.heap.size, 3, none⟩ = false := HP10.out.hold.zero.free 3
            go_wp2
            exact bodyPost_ret (v := .agg #[.int .i64 13, .string ⟨#[]⟩, .int .i64 0, .slice (some ⟨w7.heap.size, 0, none⟩) 2 2]) (by simp [results, Tryz.results57, go_sem, d0, d1, d2, d3]) rfl (Or.inl ⟨HX2.out, fin_bad HP10.out.hold hpl 13 0 ⟨#[]⟩ _ 2 2 _ _ _ _⟩)
        | some br =>
          obtain ⟨b, q2⟩ := br
          have HTY2 := Lib.hid hty2
          have HT2 := Lib.hid (H2.out.good w5.drew p (j + 1) s b q2 (HP5.out.hold.rd.drewN 1) hs hty2)
          clear hty2
          go_region_held3 (fun x' : World => x'.cell? ⟨y0, 0, none⟩ = some (.int .i64 a.kind) ∧ x'.cell? ⟨y0, 1, none⟩ = some (.string a.name) ∧ x'.cell? ⟨y0, 2, none⟩ = some (.int .i64 a.num) ∧ x'.cell? ⟨y0, 3, none⟩ = some (.slice A a.args.length ac)) (first | with_reducible exact ⟨q0, q1, q2, q3⟩ | with_reducible exact ⟨kc0, kc1, kc2, kc3⟩ | with_reducible exact ⟨ka0, ka1, ka2, ka3⟩ | with_reducible exact ⟨kb0, kb1, kb2, kb3⟩ | go_keep) (first | (go_simp; go_at_call 27; (with_reducible refine HT2.out.mono ?_); rintro e w7 ⟨v7, j7, rfl, hrr7, hr7, hO7, hg7'⟩; have hg7 := grown_undrew hg7'; have hs7 := hg7.size; have hI7 := hO7.owned; obtain ⟨B, bc, rfl⟩ := hO7.open; have hP7 := HP5.out.read hr7 hg7 hrp hzp; have hx7 := HXA.out.grownO hg7 hyp; have kc0 : w7.cell? ⟨y0, 0, none⟩ = some (.int .i64 a.kind) := hx7.cell 0; have kc1 : w7.cell? ⟨y0, 1, none⟩ = some (.string a.name) := hx7.cell 1; have kc2 : w7.cell? ⟨y0, 2, none⟩ = some (.int .i64 a.num) := hx7.cell 2; have kc3 : w7.cell? ⟨y0, 3, none⟩ = some (.slice A a.args.length ac) := hx7.cell 3; have hb8 := (Below.refl w7.heap.size w7).alloc (Nat.le_refl _) (.cells #[.int .i64 a.kind, .string a.name, .int .i64 a.num, .slice A a.args.length ac, .int .i64 b.kind, .string b.name, .int .i64 b.num, .slice B b.args.length bc] 26); have hP8 := hP7.more hb8 hP7.hold.zero.lt hP7.hold.rd.lt hP7.box.lt hP7.hold.grown.size; have hx8 := hx7.below hb8 hx7.lt; have ka0 : (w7.alloc (.cells #[.int .i64 a.kind, .string a.name, .int .i64 a.num, .slice A a.args.length ac, .int .i64 b.kind, .string b.name, .int .i64 b.num, .slice B b.args.length bc] 26)).cell? ⟨y0, 0, none⟩ = some (.int .i64 a.kind) := hx8.cell 0; have ka1 : (w7.alloc (.cells #[.int .i64 a.kind, .string a.name, .int .i64 a.num, .slice A a.args.length ac, .int .i64 b.kind, .string b.name, .int .i64 b.num, .slice B b.args.length bc] 26)).cell? ⟨y0, 1, none⟩ = some (.string a.name) := hx8.cell 1; have ka2 : (w7.alloc (.cells #[.int .i64 a.kind, .string a.name, .int .i64 a.num, .slice A a.args.length ac, .int .i64 b.kind, .string b.name, .int .i64 b.num, .slice B b.args.length bc] 26)).cell? ⟨y0, 2, none⟩ = some (.int .i64 a.num) := hx8.cell 2; have ka3 : (w7.alloc (.cells #[.int .i64 a.kind, .string a.name, .int .i64 a.num, .slice A a.args.length ac, .int .i64 b.kind, .string b.name, .int .i64 b.num, .slice B b.args.length bc] 26)).cell? ⟨y0, 3, none⟩ = some (.slice A a.args.length ac) := hx8.cell 3; have kb0 : ((w7.alloc (.cells #[.int .i64 a.kind, .string a.name, .int .i64 a.num, .slice A a.args.length ac, .int .i64 b.kind, .string b.name, .int .i64 b.num, .slice B b.args.length bc] 26)).setCell ⟨z, 3, none⟩ (.slice (some ⟨w7.heap.size, 0, none⟩) 2 2)).cell? ⟨y0, 0, none⟩ = some (.int .i64 a.kind) := (World.cell?_setCell_far _ _ _ _ (fun e => hyne e.symm)).trans ka0; have kb1 : ((w7.alloc (.cells #[.int .i64 a.kind, .string a.name, .int .i64 a.num, .slice A a.args.length ac, .int .i64 b.kind, .string b.name, .int .i64 b.num, .slice B b.args.length bc] 26)).setCell ⟨z, 3, none⟩ (.slice (some ⟨w7.heap.size, 0, none⟩) 2 2)).cell? ⟨y0, 1, none⟩ = some (.string a.name) := (World.cell?_setCell_far _ _ _ _ (fun e => hyne e.symm)).trans ka1; have kb2 : ((w7.alloc (.cells #[.int .i64 a.kind, .string a.name, .int .i64 a.num, .slice A a.args.length ac, .int .i64 b.kind, .string b.name, .int .i64 b.num, .slice B b.args.length bc] 26)).setCell ⟨z, 3, none⟩ (.slice (some ⟨w7.heap.size, 0, none⟩) 2 2)).cell? ⟨y0, 2, none⟩ = some (.int .i64 a.num) := (World.cell?_setCell_far _ _ _ _ (fun e => hyne e.symm)).trans ka2; have kb3 : ((w7.alloc (.cells #[.int .i64 a.kind, .string a.name, .int .i64 a.num, .slice A a.args.length ac, .int .i64 b.kind, .string b.name, .int .i64 b.num, .slice B b.args.length bc] 26)).setCell ⟨z, 3, none⟩ (.slice (some ⟨w7.heap.size, 0, none⟩) 2 2)).cell? ⟨y0, 3, none⟩ = some (.slice A a.args.length ac) := (World.cell?_setCell_far _ _ _ _ (fun e => hyne e.symm)).trans ka3; have c8 : (w7.alloc (.cells #[.int .i64 a.kind, .string a.name, .int .i64 a.num, .slice A a.args.length ac, .int .i64 b.kind, .string b.name, .int .i64 b.num, .slice B b.args.length bc] 26)).cell? ⟨z, 3, none⟩ = some (.slice none 0 0) := hP8.box.cell 3; have g8 : (w7.alloc (.cells #[.int .i64 a.kind, .string a.name, .int .i64 a.num, .slice A a.args.length ac, .int .i64 b.kind, .string b.name, .int .i64 b.num, .slice B b.args.length bc] 26)).frozen? ⟨z, 3, none⟩ = false := hP8.box.free 3; have HP9 := Lib.hid (hP8.put 3 (.slice (some ⟨w7.heap.size, 0, none⟩) 2 2) hzp hzr hzw); have HO9 := Lib.hid (own_otwo_set (w1 := w7) (base := w.heap.size + 1) (z := z) (o := 3) (v := .slice (some ⟨w7.heap.size, 0, none⟩) 2 2) 13 0 ⟨#[]⟩ (Nat.zero_le _) (lo0 := w0.heap.size) (hi0 := y0) (lo1 := w5.heap.size) (hi1 := w7.heap.size) (by omega) (by omega) (by omega) (by omega) (by omega) (by omega) (by omega) (HIA.out.keep (w' := w7) (fun g hg hl => hg7.block g hl (fun e => by injection e with e; have := (osp _ hg).1; omega))) hI7); have hq7 := Lib.hid hrr7; clear hI7; clear hr7 hg7 hg7' hP7 hx7 hb8 hP8 hx8))
          all_goals
            by_cases h41 : ∃ hk : j7 < s.size, s[j7] = 41
            · obtain ⟨hk7, hc7⟩ := h41
              have HX2 := Lib.hid (show rdTwo (rdOt n) (restOf s i) = some (.mk 13 0 ⟨#[]⟩ [a, b], restOf s (j7 + 1)) by rw [HX.out, rdLast, HTY2.out]; simp only [hq7.out, eat_hit hk7 hc7])
              have HMU := Lib.hid (must_yes p j7 s 41 ((w7.alloc (.cells #[.int .i64 a.kind, .string a.name, .int .i64 a.num, .slice A a.args.length ac, .int .i64 b.kind, .string b.name, .int .i64 b.num, .slice B b.args.length bc] 26)).setCell ⟨z, 3, none⟩ (.slice (some ⟨w7.heap.size, 0, none⟩) 2 2)) HP9.out.hold.rd hs hk7 hc7)
              generalize ((w7.alloc (.cells #[.int .i64 a.kind, .string a.name, .int .i64 a.num, .slice A a.args.length ac, .int .i64 b.kind, .string b.name, .int .i64 b.num, .slice B b.args.length bc] 26)).setCell ⟨z, 3, none⟩ (.slice (some ⟨w7.heap.size, 0, none⟩) 2 2)) = w9 at *
              go_wp2_with fail
              refine HMU.out.mono ?_
              rintro e w10 ⟨rfl, hr10, hg10⟩
              have HP10 := Lib.hid (HP9.out.read hr10 hg10 hrp hzp)
              have HO10 := Lib.hid (HO9.out.keep hg10.size fun g hg hl => hg10.block g hl (fun e => by injection e with e; omega))
              have e0 : w10.cell? ⟨z, 0, none⟩ = some (.int .i64 13) := HP10.out.box.cell 0
              have e1 : w10.cell? ⟨z, 1, none⟩ = some (.string ⟨#[]⟩) := HP10.out.box.cell 1
              have e2 : w10.cell? ⟨z, 2, none⟩ = some (.int .i64 0) := HP10.out.box.cell 2
              have e3 : w10.cell? ⟨z, 3, none⟩ = some (.slice (some ⟨w7.heap.size, 0, none⟩) 2 2) := HP10.out.box.cell 3
              clear hr10 hg10
              have d0 : w10.cell? ⟨w.heap.size, 0, none⟩ = some (.int .i64 0) := HP10.out.hold.zero.cell 0
              have f0 : w10.frozen? ⟨w.heap.size, 0, none⟩ = false := HP10.out.hold.zero.free 0
              have d1 : w10.cell? ⟨w.heap.size, 1, none⟩ = some (.string ⟨#[]⟩) := HP10.out.hold.zero.cell 1
              have f1 : w10.frozen? ⟨w.heap.size, 1, none⟩ = false := HP10.out.hold.zero.free 1
              have d2 : w10.cell? ⟨w.heap.size, 2, none⟩ = some (.int .i64 0) := HP10.out.hold.zero.cell 2
              have f2 : w10.frozen? ⟨w.heap.size, 2, none⟩ = false := HP10.out.hold.zero.free 2
              have d3 : w10.cell? ⟨w.heap.size, 3, none⟩ = some (.slice none 0 0) := HP10.out.hold.zero.cell 3
              have f3 : w10.frozen? ⟨w.heap.size, 3, none⟩ = false := HP10.out.hold.zero.free 3
              go_wp2
              exact bodyPost_ret (v := .agg #[.int .i64 13, .string ⟨#[]⟩, .int .i64 0, .slice (some ⟨w7.heap.size, 0, none⟩) 2 2]) (by simp [results, Tryz.results57, go_sem, d0, d1, d2, d3]) rfl (Or.inr ⟨_, _, HX2.out, fin_good HP10.out.hold HO10.out hpl _ _ _ _⟩)
            · have HX2 := Lib.hid (show rdTwo (rdOt n) (restOf s i) = none by rw [HX.out, rdLast, HTY2.out]; simp only [hq7.out, eat_miss h41])
              have HMU := Lib.hid (must_no p j7 s false 41 ((w7.alloc (.cells #[.int .i64 a.kind, .string a.name, .int .i64 a.num, .slice A a.args.length ac, .int .i64 b.kind, .string b.name, .int .i64 b.num, .slice B b.args.length bc] 26)).setCell ⟨z, 3, none⟩ (.slice (some ⟨w7.heap.size, 0, none⟩) 2 2)) HP9.out.hold.rd hs (Or.inr (eat_miss h41)))
              generalize ((w7.alloc (.cells #[.int .i64 a.kind, .string a.name, .int .i64 a.num, .slice A a.args.length ac, .int .i64 b.kind, .string b.name, .int .i64 b.num, .slice B b.args.length bc] 26)).setCell ⟨z, 3, none⟩ (.slice (some ⟨w7.heap.size, 0, none⟩) 2 2)) = w9 at *
              go_wp2_with fail
              refine HMU.out.mono ?_
              rintro e w10 ⟨rfl, hr10, hg10⟩
              have HP10 := Lib.hid (HP9.out.read hr10 hg10 hrp hzp)
              have e0 : w10.cell? ⟨z, 0, none⟩ = some (.int .i64 13) := HP10.out.box.cell 0
              have e1 : w10.cell? ⟨z, 1, none⟩ = some (.string ⟨#[]⟩) := HP10.out.box.cell 1
              have e2 : w10.cell? ⟨z, 2, none⟩ = some (.int .i64 0) := HP10.out.box.cell 2
              have e3 : w10.cell? ⟨z, 3, none⟩ = some (.slice (some ⟨w7.heap.size, 0, none⟩) 2 2) := HP10.out.box.cell 3
              clear hr10 hg10
              have d0 : w10.cell? ⟨w.heap.size, 0, none⟩ = some (.int .i64 0) := HP10.out.hold.zero.cell 0
              have f0 : w10.frozen? ⟨w.heap.size, 0, none⟩ = false := HP10.out.hold.zero.free 0
              have d1 : w10.cell? ⟨w.heap.size, 1, none⟩ = some (.string ⟨#[]⟩) := HP10.out.hold.zero.cell 1
              have f1 : w10.frozen? ⟨w.heap.size, 1, none⟩ = false := HP10.out.hold.zero.free 1
              have d2 : w10.cell? ⟨w.heap.size, 2, none⟩ = some (.int .i64 0) := HP10.out.hold.zero.cell 2
              have f2 : w10.frozen? ⟨w.heap.size, 2, none⟩ = false := HP10.out.hold.zero.free 2
              have d3 : w10.cell? ⟨w.heap.size, 3, none⟩ = some (.slice none 0 0) := HP10.out.hold.zero.cell 3
              have f3 : w10.frozen? ⟨w.heap.size, 3, none⟩ = false := HP10.out.hold.zero.free 3
              go_wp2
              exact bodyPost_ret (v := .agg #[.int .i64 13, .string ⟨#[]⟩, .int .i64 0, .slice (some ⟨w7.heap.size, 0, none⟩) 2 2]) (by simp [results, Tryz.results57, go_sem, d0, d1, d2, d3]) rfl (Or.inl ⟨HX2.out, fin_bad HP10.out.hold hpl 13 0 ⟨#[]⟩ _ 2 2 _ _ _ _⟩)
      · have HX := Lib.hid (show rdTwo (rdOt n) (restOf s i) = none by rw [rdTwo, HTY.out]; simp only [H59.out, eat_miss h124])
        have HMU := Lib.hid (must_no p j s false 124 _ HP4.out.hold.rd hs (Or.inr (eat_miss h124)))
        clear h124
        go_wp2_with fail
        clear q0 u0
        generalize w3.setCell ⟨z, 0, none⟩ (.int .i64 13) = w4 at *
        refine HMU.out.mono ?_
        rintro e w5 ⟨rfl, hr5, hg5⟩
        have HP5 := Lib.hid (HP4.out.read hr5 hg5 hrp hzp)
        have b5 : w5.cell? ⟨p, 2, none⟩ = some (.bool true) := Whole1.cell hr5.1 2
        clear hr5 hg5
        have q0 : w5.cell? ⟨z, 0, none⟩ = some (.int .i64 13) := HP5.out.box.cell 0
        have q1 : w5.cell? ⟨z, 1, none⟩ = some (.string ⟨#[]⟩) := HP5.out.box.cell 1
        have q2 : w5.cell? ⟨z, 2, none⟩ = some (.int .i64 0) := HP5.out.box.cell 2
        have q3 : w5.cell? ⟨z, 3, none⟩ = some (.slice none 0 0) := HP5.out.box.cell 3
        have d0 : w5.cell? ⟨w.heap.size, 0, none⟩ = some (.int .i64 0) := HP5.out.hold.zero.cell 0
        have f0 : w5.frozen? ⟨w.heap.size, 0, none⟩ = false := HP5.out.hold.zero.free 0
        have d1 : w5.cell? ⟨w.heap.size, 1, none⟩ = some (.string ⟨#[]⟩) := HP5.out.hold.zero.cell 1
        have f1 : w5.frozen? ⟨w.heap.size, 1, none⟩ = false := HP5.out.hold.zero.free 1
        have d2 : w5.cell? ⟨w.heap.size, 2, none⟩ = some (.int .i64 0) := HP5.out.hold.zero.cell 2
        have f2 : w5.frozen? ⟨w.heap.size, 2, none⟩ = false := HP5.out.hold.zero.free 2
        have d3 : w5.cell? ⟨w.heap.size, 3, none⟩ = some (.slice none 0 0) := HP5.out.hold.zero.cell 3
        have f3 : w5.frozen? ⟨w.heap.size, 3, none⟩ = false := HP5.out.hold.zero.free 3
        go_wp2
        exact bodyPost_ret (v := .agg #[.int .i64 13, .string ⟨#[]⟩, .int .i64 0, .slice none 0 0]) (by simp [results, Tryz.results57, go_sem, d0, d1, d2, d3]) rfl (Or.inl ⟨HX.out, fin_bad HP5.out.hold hpl 13 0 ⟨#[]⟩ none 0 0 _ _ _ _⟩)

end Go.Proofs.YtlmbnefoobameaaGreatDoor.OR
end
