/- Lemmas: SpecTy5, SpecOtForm, ODrawLib, ODraw1, ODraw2. -/
import Derived.Test.YtlmbnefoobameaaGreatDoorLawFnOpticText_1
import Derived.Test.YtlmbnefoobameaaGreatDoorLawFnOpticText_5
import Derived.Deep.RegionHeld3
import Derived.Test.YtlmbnefoobameaaGreatDoorLawFnOpticText_3
import Derived.Deep.QuietTactic
import Derived.BigQuiet
import Derived.Deep.DeepCutAuto
import Derived.Deep.DrawnRows
import Derived.Deep.AppendLies

section
namespace Go.Proofs.YtlmbnefoobameaaGreatDoor
open Go.RowKit

/-- A bool is handed back; what was there stands. -/
def BoolIs (b : Bool) (w : World) (e : Ending) (w' : World) : Prop := e = .returned (.bool b) ∧ Below w.heap.size w w'

theorem l1In_yes (x lo hi : Int) (w : World) (h1 : lo ≤ x) (h2 : x ≤ hi) : Calls Tryz.prog 50 #[.int .i64 x, .int .i64 lo, .int .i64 hi] w fun e w' => e = .returned (.bool true) ∧ w = w' := by
  go_enter Tryz.func50, Tryz.ntmps50
  go_wp2
  go_ret
  exact ⟨rfl, rfl⟩
theorem l1In_no (x lo hi : Int) (w : World) (h : x < lo ∨ hi < x) : Calls Tryz.prog 50 #[.int .i64 x, .int .i64 lo, .int .i64 hi] w fun e w' => e = .returned (.bool false) ∧ w = w' := by
  by_cases h1 : lo ≤ x
  · have h2 : ¬ x ≤ hi := by omega
    clear h
    go_enter Tryz.func50, Tryz.ntmps50
    go_wp2
    go_ret
    exact ⟨rfl, rfl⟩
  · clear h
    go_enter Tryz.func50, Tryz.ntmps50
    go_wp2
    go_ret
    exact ⟨rfl, rfl⟩

/-- Can they be the labels of a record or a sum? -/
def labelsB (ls : List ByteArray) : Bool := ls.all isNameB && (decide (1 ≤ ls.length) && decide (ls.length ≤ 4)) && ascB ls
theorem labelsB_no (ls : List ByteArray) (k : Nat) (h : k < ls.length) (hn : isNameB ls[k] = false) : labelsB ls = false := by
  have : ls.all isNameB = false := by
    rw [List.all_eq_false]
    exact ⟨_, List.getElem_mem h, by rw [hn]; simp⟩
  unfold labelsB
  rw [this]
  rfl
theorem labelsB_all (ls : List ByteArray) (h : ∀ k, (hk : k < ls.length) → isNameB ls[k] = true) : labelsB ls = ((decide (1 ≤ ls.length) && decide (ls.length ≤ 4)) && ascB ls) := by
  have : ls.all isNameB = true := by
    rw [List.all_eq_true]
    intro x hx
    obtain ⟨i, hi, rfl⟩ := List.getElem_of_mem hx
    exact h i hi
  unfold labelsB
  rw [this, Bool.true_and]

/-- Has a node of this kind these labels and so many parts? -/
def nodeB (k : Int) (ls : List ByteArray) (m : Nat) : Bool :=
  if k = 1 ∨ k = 2 then decide (ls.length = 0) && decide (m = 0) else if k = 3 ∨ k = 4 then decide (m = ls.length) && labelsB ls else if k = 5 then decide (ls.length = 0) && decide (m = 1) else false
mutual
/-- Has every node one of the forms? -/
def formTy : Ty → Bool | .mk k ls ts => formTys ts && nodeB k ls ts.length
def formTys : List Ty → Bool | [] => true | t :: r => formTy t && formTys r
end
theorem formTys_all : ∀ (ts : List Ty), (∀ i, (h : i < ts.length) → formTy ts[i] = true) → formTys ts = true
  | [], _ => by rw [formTys]
  | t :: r, h => by
    rw [formTys, show formTy t = true from h 0 (by simp), formTys_all r fun i hi => h (i + 1) (by simpa using hi)]
    rfl
theorem formTys_no : ∀ (ts : List Ty) (i : Nat) (h : i < ts.length), formTy ts[i] = false → formTys ts = false
  | [], i, h, _ => absurd h (by simp)
  | t :: r, 0, _, e => by
    rw [formTys]
    have : formTy t = false := e
    rw [this]
    rfl
  | t :: r, i + 1, h, e => by
    rw [formTys, formTys_no r i (by simpa using h) (by simpa using e), Bool.and_false]

def FormOne (f : Nat) (t : Ty) : Prop := ∀ (v : Value) (w : World), TyAt w w.heap.size v t → szTy t ≤ 1048576 → Calls Tryz.prog f #[v] w (BoolIs (formTy t) w)

end Go.Proofs.YtlmbnefoobameaaGreatDoor

namespace Go.Proofs.YtlmbnefoobameaaGreatDoor
open Go.RowKit

/-- The same strings? -/
def textsB (a b : List ByteArray) : Bool := decide (a = b)
theorem textsB_len (a b : List ByteArray) (h : a.length ≠ b.length) : textsB a b = false := by
  unfold textsB
  simp
  exact fun e => h (by rw [e])
theorem textsB_no (a b : List ByteArray) (k : Nat) (h1 : k < a.length) (h2 : k < b.length) (h : a[k] ≠ b[k]) : textsB a b = false := by
  unfold textsB
  simp
  intro e
  subst e
  exact h rfl
theorem textsB_yes (a b : List ByteArray) (hl : a.length = b.length) (h : ∀ k, (h1 : k < a.length) → (h2 : k < b.length) → a[k] = b[k]) : textsB a b = true := by
  unfold textsB
  simp
  exact List.ext_getElem hl h

/-- The same tree? -/
noncomputable def eqTyB (a b : Ty) : Bool := @decide (a = b) (Classical.propDecidable _)
theorem eqTyB_yes {a b : Ty} (h : a = b) : eqTyB a b = true := by unfold eqTyB; simp [h]
theorem eqTyB_no {a b : Ty} (h : a ≠ b) : eqTyB a b = false := by unfold eqTyB; simp [h]
theorem Ty.ext {a b : Ty} (h1 : a.kind = b.kind) (h2 : a.labels = b.labels) (h3 : a.args = b.args) : a = b := by
  cases a; cases b
  simp only [Ty.kind, Ty.labels, Ty.args] at h1 h2 h3
  rw [h1, h2, h3]

def EqualOne (f : Nat) (t : Ty) : Prop := ∀ (t' : Ty) (v v' : Value) (w : World), TyAt w w.heap.size v t → TyAt w w.heap.size v' t' → Calls Tryz.prog f #[v, v'] w (BoolIs (eqTyB t t') w)

end Go.Proofs.YtlmbnefoobameaaGreatDoor

namespace Go.Proofs.YtlmbnefoobameaaGreatDoor
open Go.RowKit

/-- Is it a valid type? -/
def validB (t : Ty) : Bool := decide (sizeTy t ≤ 30) && decide (depthTy t ≤ 8) && formTy t

/-- A valid record type of equal parts? -/
noncomputable def uniformB (t : Ty) : Bool := validB t && decide (t.kind = 3) && (match t.args with | [] => true | a :: r => r.all fun b => eqTyB a b)
theorem uniform_no (t : Ty) (k : Nat) (h0 : 0 < t.args.length) (h : k < t.args.length) (hk : 1 ≤ k) (hne : t.args[0] ≠ t.args[k]) : uniformB t = false := by
  unfold uniformB
  cases ha : t.args with
  | nil => rw [ha] at h; simp at h
  | cons a r =>
    have h' : k - 1 < r.length := by rw [ha] at h; simp at h; omega
    have e1 : t.args[0] = a := by simp [ha]
    have e2 : t.args[k] = r[k - 1] := by
      have : t.args[k]? = r[k - 1]? := by
        rw [ha]
        cases k with
        | zero => omega
        | succ k => simp
      rw [List.getElem?_eq_getElem h, List.getElem?_eq_getElem h'] at this
      exact Option.some.inj this
    rw [e1, e2] at hne
    have : (r.all fun b => eqTyB a b) = false := by
      rw [List.all_eq_false]
      exact ⟨_, List.getElem_mem h', by rw [eqTyB_no hne]; simp⟩
    simp [this]
theorem uniform_yes (t : Ty) (hv : validB t = true) (hk : t.kind = 3) (h : ∀ k, (hk : k < t.args.length) → 1 ≤ k → t.args[0]'(by omega) = t.args[k]) : uniformB t = true := by
  unfold uniformB
  rw [hv]
  cases ha : t.args with
  | nil => simp [hk]
  | cons a r =>
    have : (r.all fun b => eqTyB a b) = true := by
      rw [List.all_eq_true]
      intro b hb
      obtain ⟨i, hi, rfl⟩ := List.getElem_of_mem hb
      have := h (i + 1) (by rw [ha]; simpa using hi) (by omega)
      apply eqTyB_yes
      simpa [ha] using this
    simp [hk, this]

end Go.Proofs.YtlmbnefoobameaaGreatDoor
end

section
namespace Go.Proofs.YtlmbnefoobameaaGreatDoor
open Go.RowKit

theorem osize_nil {nm : ByteArray} (h : nm.size = 0) : nm = ⟨#[]⟩ := by
  obtain ⟨⟨l⟩⟩ := nm
  have : l = [] := List.length_eq_zero_iff.1 h
  rw [this]
theorem otoList_nil_no {nm : ByteArray} (h : nm.size ≠ 0) : (nm.toList == []) = false := by
  rw [ByteArray.toList_eq]
  obtain ⟨⟨l⟩⟩ := nm
  cases l with
  | nil => exact absurd rfl h
  | cons x r => rfl
theorem isNameB_pos (s : ByteArray) (h : isNameB s = true) : s.size ≠ 0 := by
  unfold isNameB at h
  simp only [Bool.and_eq_true, decide_eq_true_eq] at h
  omega
/-- How many parts a kind has; -1 for no kind. -/
def arityI (k : Int) : Int := if k = 11 then 1 else if k = 12 ∨ k = 13 then 2 else if 1 ≤ k ∧ k ≤ 10 then 0 else -1
/-- The number that fits a kind. -/
def numOB (k n : Int) : Bool := if k = 6 then decide (0 ≤ n ∧ n ≤ 1000) else if k = 7 then decide (-1000 ≤ n ∧ n ≤ 1000) else decide (n = 0)
/-- Has a node of this kind this name, this number and so many parts? -/
def nodeOB (k n : Int) (nm : ByteArray) (m : Nat) : Bool :=
  (if k = 2 ∨ k = 3 ∨ k = 10 then isNameB nm else decide (nm.size = 0)) && decide ((m : Int) = arityI k) && numOB k n
mutual
/-- Has every node one of the forms? -/
def formOt : Ot → Bool | .mk k n nm ts => formOts ts && nodeOB k n nm ts.length
def formOts : List Ot → Bool | [] => true | t :: r => formOt t && formOts r
end
theorem formOts_all : ∀ (ts : List Ot), (∀ i, (h : i < ts.length) → formOt ts[i] = true) → formOts ts = true
  | [], _ => by rw [formOts]
  | t :: r, h => by
    rw [formOts, show formOt t = true from h 0 (by simp), formOts_all r fun i hi => h (i + 1) (by simpa using hi)]
    rfl
theorem formOts_no : ∀ (ts : List Ot) (i : Nat) (h : i < ts.length), formOt ts[i] = false → formOts ts = false
  | [], i, h, _ => absurd h (by simp)
  | t :: r, 0, _, e => by
    rw [formOts]
    have : formOt t = false := e
    rw [this]
    rfl
  | t :: r, i + 1, h, e => by
    rw [formOts, formOts_no r i (by simpa using h) (by simpa using e), Bool.and_false]
theorem formOts_at : ∀ (ts : List Ot), formOts ts = true → ∀ i, (h : i < ts.length) → formOt ts[i] = true := by
  intro ts h i hi
  cases hf : formOt ts[i] with
  | true => rfl
  | false => rw [formOts_no ts i hi hf] at h; cases h
theorem formOt_eq (t : Ot) : formOt t = (formOts t.args && nodeOB t.kind t.num t.name t.args.length) := by
  cases t
  rw [formOt]
  rfl

theorem specArity_any (k : Int) (w : World) : Calls Tryz.prog 49 #[.int .i64 k] w fun e w' => e = .returned (.int .i64 (arityI k)) ∧ w = w' := by
  by_cases h1 : k = 11
  · subst h1
    go_enter Tryz.func49, Tryz.ntmps49
    go_wp2
    go_ret
    exact ⟨rfl, rfl⟩
  · have i1 : (k == 11) = false := by rw [beq_eq_false_iff_ne]; exact h1
    by_cases h2 : k = 12
    · subst h2
      go_enter Tryz.func49, Tryz.ntmps49
      go_wp2
      go_ret
      exact ⟨rfl, rfl⟩
    · have i2 : (k == 12) = false := by rw [beq_eq_false_iff_ne]; exact h2
      by_cases h3 : k = 13
      · subst h3
        go_enter Tryz.func49, Tryz.ntmps49
        go_wp2
        go_ret
        exact ⟨rfl, rfl⟩
      · have i3 : (k == 13) = false := by rw [beq_eq_false_iff_ne]; exact h3
        by_cases h4 : 1 ≤ k ∧ k ≤ 10
        · have hr := Lib.hid (show arityI k = 0 by unfold arityI; rw [if_neg h1, if_neg (by omega), if_pos h4])
          have HI := Lib.hid (fun W => l1In_yes k 1 10 W h4.1 h4.2)
          clear h1 h2 h3 h4
          go_enter Tryz.func49, Tryz.ntmps49
          go_wp2_with fail
          refine (HI.out _).mono ?_
          rintro e w1 ⟨rfl, rfl⟩
          go_wp2
          go_ret
          exact ⟨by rw [hr.out]; rfl, rfl⟩
        · have hr := Lib.hid (show arityI k = -1 by unfold arityI; rw [if_neg h1, if_neg (by omega), if_neg h4])
          have HI := Lib.hid (fun W => l1In_no k 1 10 W (by omega))
          clear h1 h2 h3 h4
          go_enter Tryz.func49, Tryz.ntmps49
          go_wp2_with fail
          refine (HI.out _).mono ?_
          rintro e w1 ⟨rfl, rfl⟩
          go_wp2
          go_ret
          exact ⟨by rw [hr.out]; rfl, rfl⟩

def FormOOne (f : Nat) (t : Ot) : Prop := ∀ (v : Value) (w : World), OtAt w w.heap.size v t → szOt t ≤ 1048576 → Calls Tryz.prog f #[v] w (BoolIs (formOt t) w)

set_option maxHeartbeats 8000000 in
theorem specFormO_of (k0 n0 : Int) (nm : ByteArray) (ts : List Ot) (hall : ∀ i, (h : i < ts.length) → FormOOne 22 ts[i]) : FormOOne 22 (.mk k0 n0 nm ts) := by
  intro v w hv hsz
  have hse := szOt_eq (.mk k0 n0 nm ts)
  have hfe : formOt (.mk k0 n0 nm ts) = (formOts ts && nodeOB k0 n0 nm ts.length) := by rw [formOt]
  obtain ⟨A, ac, rfl, hnm, ha⟩ := hv.open
  simp only [Ot.kind, Ot.num, Ot.name, Ot.args] at *
  have hm := ha.1
  unfold maxLen at hm
  have hsz2 : szOts ts ≤ 1048576 := by omega
  have HALL := Lib.hid hall
  have HFE := Lib.hid hfe
  have HNM0 := Lib.hid hnm
  clear hall hv hfe hse hnm
  obtain ⟨hb0, p0, hs0⟩ := boxes1 w 26 #[.int .i64 k0, .string nm, .int .i64 n0, .slice A ts.length ac]
  have ha0 := ha.up hb0
  have HZ := Lib.hid hs0
  clear ha hs0
  go_enter Tryz.func22, Tryz.ntmps22
  go_wp2
  generalize w.alloc (.cells #[.int .i64 k0, .string nm, .int .i64 n0, .slice A ts.length ac] 26) = w0 at *
  have hpl := p0.lt
  go_loopw [3] (fun i wr => ∃ k : Nat, k ≤ ts.length ∧ i = .int .i64 k ∧ (∀ j, (hj : j < ts.length) → j < k → formOt ts[j] = true) ∧ Below w0.heap.size w0 wr) (fun i _ => ts.length - (intOf i).toNat)
  case atStart => exact ⟨0, Nat.zero_le _, rfl, fun j _ h => absurd h (by omega), Below.refl _ _⟩
  case round =>
    obtain ⟨k, hk, rfl, hall, hb⟩ := hrel
    have HA := Lib.hid hall
    clear hall
    have p1 := p0.below hb hpl
    have c4 : wr.cell? ⟨w.heap.size, 3, none⟩ = some (.slice A ts.length ac) := p1.cell 3
    by_cases hlt : k < ts.length
    · obtain ⟨b, off, A1, ac1, rfl, hbl, q0, q1, q2, q3, ht⟩ := (ha0.below hb).elem k hlt
      have hpt := szOt_part ts k hlt
      have HT := HALL.out k hlt _ wr (ht.more hb.size) (by omega)
      cases hfk : formOt ts[k]
      · rw [hfk] at HT
        have HT' := Lib.hid HT
        have hr := Lib.hid (show formOt (.mk k0 n0 nm ts) = false by rw [HFE.out, formOts_no ts k hlt hfk]; rfl)
        clear ht p1 HT hfk
        go_wp2_with fail
        refine HT'.out.mono ?_
        rintro e w1 ⟨rfl, hb1⟩
        go_wp2
        go_ret
        exact ⟨by rw [hr.out]; rfl, hb0.trans ((hb.trans (hb1.mono hb.size)).mono hb0.size)⟩
      · rw [hfk] at HT
        have HT' := Lib.hid HT
        have HK := Lib.hid hfk
        clear ht p1 HT hfk
        go_wp2_with fail
        refine HT'.out.mono ?_
        rintro e w1 ⟨rfl, hb1⟩
        go_wp2
        go_roundw
        case rel =>
          refine ⟨k + 1, by omega, by go_num, fun j hj h => ?_, hb.trans (hb1.mono hb.size)⟩
          by_cases e : j = k
          · subst e
            exact HK.out
          · exact HA.out j hj (by omega)
        case measure => simp [intOf]; omega
    · have hke : k = ts.length := by omega
      subst hke
      have hft := Lib.hid (formOts_all ts fun i hi => HA.out i hi hi)
      have c0 : wr.cell? ⟨w.heap.size, 0, none⟩ = some (.int .i64 k0) := p1.cell 0
      have c1 : wr.cell? ⟨w.heap.size, 1, none⟩ = some (.string nm) := p1.cell 1
      have c2 : wr.cell? ⟨w.heap.size, 2, none⟩ = some (.int .i64 n0) := p1.cell 2
      have hb' := hb0.trans (hb.mono hb0.size)
      have hres : Hid (formOt (.mk k0 n0 nm ts) = nodeOB k0 n0 nm ts.length) := Lib.hid (by rw [HFE.out, hft.out]; rfl)
      have HNB : ∀ W, Calls Tryz.prog 48 #[.string nm] W fun e w' => e = .returned (.bool (isNameB nm)) ∧ w' = W := fun W => (specIsName_any nm W HNM0.out).mono fun _ _ h => ⟨h.1, h.2.symm⟩
      have HAR : Hid (∀ W, Calls Tryz.prog 49 #[.int .i64 k0] W fun e w' => e = .returned (.int .i64 (arityI k0)) ∧ w' = W) := Lib.hid (fun W => (specArity_any k0 W).mono fun _ _ h => ⟨h.1, h.2.symm⟩)
      have hz := isNameB_pos nm
      have hpl2 : w.heap.size < wr.heap.size := p1.lt
      clear p1
      by_cases hk2 : k0 = 2
      · subst hk2
        cases hin : isNameB nm
        · rw [hin] at HNB
          have HNB' := Lib.hid HNB
          have hr := Lib.hid (show nodeOB 2 n0 nm ts.length = false by unfold nodeOB; simp [hin])
          clear hin HNB hz
          go_wp2
          go_quiet ((first | (go_at_call 48; exact Calls.quiet_of_same (HNB'.out _)) | (go_at_call 49; exact Calls.quiet_of_same (HAR.out _))))
          have x0 : (wr.drewN nq).cell? ⟨w.heap.size, 0, none⟩ = some (.int .i64 2) := c0
          have x1 : (wr.drewN nq).cell? ⟨w.heap.size, 1, none⟩ = some (.string nm) := c1
          have x2 : (wr.drewN nq).cell? ⟨w.heap.size, 2, none⟩ = some (.int .i64 n0) := c2
          have x3 : (wr.drewN nq).cell? ⟨w.heap.size, 3, none⟩ = some (.slice A ts.length ac) := c4
          have xb := drewN_below wr nq
          clear c0 c1 c2 c4
          generalize wr.drewN nq = wx at *
          go_wp2
          go_ret
          exact ⟨by rw [hres.out, hr.out]; rfl, hb'.trans (xb.mono hb'.size)⟩
        · rw [hin] at HNB
          have HNB' := Lib.hid HNB
          have HIN := Lib.hid hin
          rw [show arityI 2 = 0 from rfl] at HAR
          clear hin HNB hz
          by_cases hm1 : (ts.length : Int) = 0
          · have i3 : ((ts.length : Int) != 0) = false := by rw [bne_eq_false_iff_eq]; exact hm1
            by_cases hn0 : n0 = 0
            · have i4 : (n0 == 0) = true := by rw [beq_iff_eq]; exact hn0
              have hr := Lib.hid (show nodeOB 2 n0 nm ts.length = true by unfold nodeOB numOB; simp [HIN.out, hn0, hm1, arityI])
              clear  hm1 hn0
              go_wp2
              go_quiet ((first | (go_at_call 48; exact Calls.quiet_of_same (HNB'.out _)) | (go_at_call 49; exact Calls.quiet_of_same (HAR.out _))))
              have x0 : (wr.drewN nq).cell? ⟨w.heap.size, 0, none⟩ = some (.int .i64 2) := c0
              have x1 : (wr.drewN nq).cell? ⟨w.heap.size, 1, none⟩ = some (.string nm) := c1
              have x2 : (wr.drewN nq).cell? ⟨w.heap.size, 2, none⟩ = some (.int .i64 n0) := c2
              have x3 : (wr.drewN nq).cell? ⟨w.heap.size, 3, none⟩ = some (.slice A ts.length ac) := c4
              have xb := drewN_below wr nq
              clear c0 c1 c2 c4
              generalize wr.drewN nq = wx at *
              go_wp2
              go_ret
              exact ⟨by rw [hres.out, hr.out]; rfl, hb'.trans (xb.mono hb'.size)⟩
            · have i4 : (n0 == 0) = false := by rw [beq_eq_false_iff_ne]; exact hn0
              have hr := Lib.hid (show nodeOB 2 n0 nm ts.length = false by unfold nodeOB numOB; simp [hn0])
              clear  hm1 hn0
              go_wp2
              go_quiet ((first | (go_at_call 48; exact Calls.quiet_of_same (HNB'.out _)) | (go_at_call 49; exact Calls.quiet_of_same (HAR.out _))))
              have x0 : (wr.drewN nq).cell? ⟨w.heap.size, 0, none⟩ = some (.int .i64 2) := c0
              have x1 : (wr.drewN nq).cell? ⟨w.heap.size, 1, none⟩ = some (.string nm) := c1
              have x2 : (wr.drewN nq).cell? ⟨w.heap.size, 2, none⟩ = some (.int .i64 n0) := c2
              have x3 : (wr.drewN nq).cell? ⟨w.heap.size, 3, none⟩ = some (.slice A ts.length ac) := c4
              have xb := drewN_below wr nq
              clear c0 c1 c2 c4
              generalize wr.drewN nq = wx at *
              go_wp2
              go_ret
              exact ⟨by rw [hres.out, hr.out]; rfl, hb'.trans (xb.mono hb'.size)⟩
          · have i3 : ((ts.length : Int) != 0) = true := by rw [bne_iff_ne]; exact hm1
            have hr := Lib.hid (show nodeOB 2 n0 nm ts.length = false by unfold nodeOB; rw [show decide ((ts.length : Int) = arityI 2) = false from decide_eq_false (by first | exact hm1 | (simp [arityI]; omega)), Bool.and_false, Bool.false_and])
            clear  hm1
            go_wp2
            go_quiet ((first | (go_at_call 48; exact Calls.quiet_of_same (HNB'.out _)) | (go_at_call 49; exact Calls.quiet_of_same (HAR.out _))))
            have x0 : (wr.drewN nq).cell? ⟨w.heap.size, 0, none⟩ = some (.int .i64 2) := c0
            have x1 : (wr.drewN nq).cell? ⟨w.heap.size, 1, none⟩ = some (.string nm) := c1
            have x2 : (wr.drewN nq).cell? ⟨w.heap.size, 2, none⟩ = some (.int .i64 n0) := c2
            have x3 : (wr.drewN nq).cell? ⟨w.heap.size, 3, none⟩ = some (.slice A ts.length ac) := c4
            have xb := drewN_below wr nq
            clear c0 c1 c2 c4
            generalize wr.drewN nq = wx at *
            go_wp2
            go_ret
            exact ⟨by rw [hres.out, hr.out]; rfl, hb'.trans (xb.mono hb'.size)⟩
      · have e2 : (k0 == 2) = false := by rw [beq_eq_false_iff_ne]; exact hk2
        by_cases hk3 : k0 = 3
        · subst hk3
          cases hin : isNameB nm
          · rw [hin] at HNB
            have HNB' := Lib.hid HNB
            have hr := Lib.hid (show nodeOB 3 n0 nm ts.length = false by unfold nodeOB; simp [hin])
            clear hin HNB hz
            go_wp2
            go_quiet ((first | (go_at_call 48; exact Calls.quiet_of_same (HNB'.out _)) | (go_at_call 49; exact Calls.quiet_of_same (HAR.out _))))
            have x0 : (wr.drewN nq).cell? ⟨w.heap.size, 0, none⟩ = some (.int .i64 3) := c0
            have x1 : (wr.drewN nq).cell? ⟨w.heap.size, 1, none⟩ = some (.string nm) := c1
            have x2 : (wr.drewN nq).cell? ⟨w.heap.size, 2, none⟩ = some (.int .i64 n0) := c2
            have x3 : (wr.drewN nq).cell? ⟨w.heap.size, 3, none⟩ = some (.slice A ts.length ac) := c4
            have xb := drewN_below wr nq
            clear c0 c1 c2 c4
            generalize wr.drewN nq = wx at *
            go_wp2
            go_ret
            exact ⟨by rw [hres.out, hr.out]; rfl, hb'.trans (xb.mono hb'.size)⟩
          · rw [hin] at HNB
            have HNB' := Lib.hid HNB
            have HIN := Lib.hid hin
            rw [show arityI 3 = 0 from rfl] at HAR
            clear hin HNB hz
            by_cases hm1 : (ts.length : Int) = 0
            · have i3 : ((ts.length : Int) != 0) = false := by rw [bne_eq_false_iff_eq]; exact hm1
              by_cases hn0 : n0 = 0
              · have i4 : (n0 == 0) = true := by rw [beq_iff_eq]; exact hn0
                have hr := Lib.hid (show nodeOB 3 n0 nm ts.length = true by unfold nodeOB numOB; simp [HIN.out, hn0, hm1, arityI])
                clear  hm1 hn0
                go_wp2
                go_quiet ((first | (go_at_call 48; exact Calls.quiet_of_same (HNB'.out _)) | (go_at_call 49; exact Calls.quiet_of_same (HAR.out _))))
                have x0 : (wr.drewN nq).cell? ⟨w.heap.size, 0, none⟩ = some (.int .i64 3) := c0
                have x1 : (wr.drewN nq).cell? ⟨w.heap.size, 1, none⟩ = some (.string nm) := c1
                have x2 : (wr.drewN nq).cell? ⟨w.heap.size, 2, none⟩ = some (.int .i64 n0) := c2
                have x3 : (wr.drewN nq).cell? ⟨w.heap.size, 3, none⟩ = some (.slice A ts.length ac) := c4
                have xb := drewN_below wr nq
                clear c0 c1 c2 c4
                generalize wr.drewN nq = wx at *
                go_wp2
                go_ret
                exact ⟨by rw [hres.out, hr.out]; rfl, hb'.trans (xb.mono hb'.size)⟩
              · have i4 : (n0 == 0) = false := by rw [beq_eq_false_iff_ne]; exact hn0
                have hr := Lib.hid (show nodeOB 3 n0 nm ts.length = false by unfold nodeOB numOB; simp [hn0])
                clear  hm1 hn0
                go_wp2
                go_quiet ((first | (go_at_call 48; exact Calls.quiet_of_same (HNB'.out _)) | (go_at_call 49; exact Calls.quiet_of_same (HAR.out _))))
                have x0 : (wr.drewN nq).cell? ⟨w.heap.size, 0, none⟩ = some (.int .i64 3) := c0
                have x1 : (wr.drewN nq).cell? ⟨w.heap.size, 1, none⟩ = some (.string nm) := c1
                have x2 : (wr.drewN nq).cell? ⟨w.heap.size, 2, none⟩ = some (.int .i64 n0) := c2
                have x3 : (wr.drewN nq).cell? ⟨w.heap.size, 3, none⟩ = some (.slice A ts.length ac) := c4
                have xb := drewN_below wr nq
                clear c0 c1 c2 c4
                generalize wr.drewN nq = wx at *
                go_wp2
                go_ret
                exact ⟨by rw [hres.out, hr.out]; rfl, hb'.trans (xb.mono hb'.size)⟩
            · have i3 : ((ts.length : Int) != 0) = true := by rw [bne_iff_ne]; exact hm1
              have hr := Lib.hid (show nodeOB 3 n0 nm ts.length = false by unfold nodeOB; rw [show decide ((ts.length : Int) = arityI 3) = false from decide_eq_false (by first | exact hm1 | (simp [arityI]; omega)), Bool.and_false, Bool.false_and])
              clear  hm1
              go_wp2
              go_quiet ((first | (go_at_call 48; exact Calls.quiet_of_same (HNB'.out _)) | (go_at_call 49; exact Calls.quiet_of_same (HAR.out _))))
              have x0 : (wr.drewN nq).cell? ⟨w.heap.size, 0, none⟩ = some (.int .i64 3) := c0
              have x1 : (wr.drewN nq).cell? ⟨w.heap.size, 1, none⟩ = some (.string nm) := c1
              have x2 : (wr.drewN nq).cell? ⟨w.heap.size, 2, none⟩ = some (.int .i64 n0) := c2
              have x3 : (wr.drewN nq).cell? ⟨w.heap.size, 3, none⟩ = some (.slice A ts.length ac) := c4
              have xb := drewN_below wr nq
              clear c0 c1 c2 c4
              generalize wr.drewN nq = wx at *
              go_wp2
              go_ret
              exact ⟨by rw [hres.out, hr.out]; rfl, hb'.trans (xb.mono hb'.size)⟩
        · have e3 : (k0 == 3) = false := by rw [beq_eq_false_iff_ne]; exact hk3
          by_cases hk10 : k0 = 10
          · subst hk10
            cases hin : isNameB nm
            · rw [hin] at HNB
              have HNB' := Lib.hid HNB
              have hr := Lib.hid (show nodeOB 10 n0 nm ts.length = false by unfold nodeOB; simp [hin])
              clear hin HNB hz
              go_wp2
              go_quiet ((first | (go_at_call 48; exact Calls.quiet_of_same (HNB'.out _)) | (go_at_call 49; exact Calls.quiet_of_same (HAR.out _))))
              have x0 : (wr.drewN nq).cell? ⟨w.heap.size, 0, none⟩ = some (.int .i64 10) := c0
              have x1 : (wr.drewN nq).cell? ⟨w.heap.size, 1, none⟩ = some (.string nm) := c1
              have x2 : (wr.drewN nq).cell? ⟨w.heap.size, 2, none⟩ = some (.int .i64 n0) := c2
              have x3 : (wr.drewN nq).cell? ⟨w.heap.size, 3, none⟩ = some (.slice A ts.length ac) := c4
              have xb := drewN_below wr nq
              clear c0 c1 c2 c4
              generalize wr.drewN nq = wx at *
              go_wp2
              go_ret
              exact ⟨by rw [hres.out, hr.out]; rfl, hb'.trans (xb.mono hb'.size)⟩
            · rw [hin] at HNB
              have HNB' := Lib.hid HNB
              have HIN := Lib.hid hin
              rw [show arityI 10 = 0 from rfl] at HAR
              clear hin HNB hz
              by_cases hm1 : (ts.length : Int) = 0
              · have i3 : ((ts.length : Int) != 0) = false := by rw [bne_eq_false_iff_eq]; exact hm1
                by_cases hn0 : n0 = 0
                · have i4 : (n0 == 0) = true := by rw [beq_iff_eq]; exact hn0
                  have hr := Lib.hid (show nodeOB 10 n0 nm ts.length = true by unfold nodeOB numOB; simp [HIN.out, hn0, hm1, arityI])
                  clear  hm1 hn0
                  go_wp2
                  go_quiet ((first | (go_at_call 48; exact Calls.quiet_of_same (HNB'.out _)) | (go_at_call 49; exact Calls.quiet_of_same (HAR.out _))))
                  have x0 : (wr.drewN nq).cell? ⟨w.heap.size, 0, none⟩ = some (.int .i64 10) := c0
                  have x1 : (wr.drewN nq).cell? ⟨w.heap.size, 1, none⟩ = some (.string nm) := c1
                  have x2 : (wr.drewN nq).cell? ⟨w.heap.size, 2, none⟩ = some (.int .i64 n0) := c2
                  have x3 : (wr.drewN nq).cell? ⟨w.heap.size, 3, none⟩ = some (.slice A ts.length ac) := c4
                  have xb := drewN_below wr nq
                  clear c0 c1 c2 c4
                  generalize wr.drewN nq = wx at *
                  go_wp2
                  go_ret
                  exact ⟨by rw [hres.out, hr.out]; rfl, hb'.trans (xb.mono hb'.size)⟩
                · have i4 : (n0 == 0) = false := by rw [beq_eq_false_iff_ne]; exact hn0
                  have hr := Lib.hid (show nodeOB 10 n0 nm ts.length = false by unfold nodeOB numOB; simp [hn0])
                  clear  hm1 hn0
                  go_wp2
                  go_quiet ((first | (go_at_call 48; exact Calls.quiet_of_same (HNB'.out _)) | (go_at_call 49; exact Calls.quiet_of_same (HAR.out _))))
                  have x0 : (wr.drewN nq).cell? ⟨w.heap.size, 0, none⟩ = some (.int .i64 10) := c0
                  have x1 : (wr.drewN nq).cell? ⟨w.heap.size, 1, none⟩ = some (.string nm) := c1
                  have x2 : (wr.drewN nq).cell? ⟨w.heap.size, 2, none⟩ = some (.int .i64 n0) := c2
                  have x3 : (wr.drewN nq).cell? ⟨w.heap.size, 3, none⟩ = some (.slice A ts.length ac) := c4
                  have xb := drewN_below wr nq
                  clear c0 c1 c2 c4
                  generalize wr.drewN nq = wx at *
                  go_wp2
                  go_ret
                  exact ⟨by rw [hres.out, hr.out]; rfl, hb'.trans (xb.mono hb'.size)⟩
              · have i3 : ((ts.length : Int) != 0) = true := by rw [bne_iff_ne]; exact hm1
                have hr := Lib.hid (show nodeOB 10 n0 nm ts.length = false by unfold nodeOB; rw [show decide ((ts.length : Int) = arityI 10) = false from decide_eq_false (by first | exact hm1 | (simp [arityI]; omega)), Bool.and_false, Bool.false_and])
                clear  hm1
                go_wp2
                go_quiet ((first | (go_at_call 48; exact Calls.quiet_of_same (HNB'.out _)) | (go_at_call 49; exact Calls.quiet_of_same (HAR.out _))))
                have x0 : (wr.drewN nq).cell? ⟨w.heap.size, 0, none⟩ = some (.int .i64 10) := c0
                have x1 : (wr.drewN nq).cell? ⟨w.heap.size, 1, none⟩ = some (.string nm) := c1
                have x2 : (wr.drewN nq).cell? ⟨w.heap.size, 2, none⟩ = some (.int .i64 n0) := c2
                have x3 : (wr.drewN nq).cell? ⟨w.heap.size, 3, none⟩ = some (.slice A ts.length ac) := c4
                have xb := drewN_below wr nq
                clear c0 c1 c2 c4
                generalize wr.drewN nq = wx at *
                go_wp2
                go_ret
                exact ⟨by rw [hres.out, hr.out]; rfl, hb'.trans (xb.mono hb'.size)⟩
          · have e10 : (k0 == 10) = false := by rw [beq_eq_false_iff_ne]; exact hk10
            by_cases hk6 : k0 = 6
            · subst hk6
              cases hin : isNameB nm
              · rw [hin] at HNB
                have HNB' := Lib.hid HNB
                clear hin HNB hz
                rw [show arityI 6 = 0 from rfl] at HAR
                by_cases hs0 : nm.size = 0
                · have hnil : nm = ⟨#[]⟩ := osize_nil hs0
                  subst hnil
                  by_cases hm1 : (ts.length : Int) = 0
                  · have i3 : ((ts.length : Int) != 0) = false := by rw [bne_eq_false_iff_eq]; exact hm1
                    by_cases hn0 : 0 ≤ n0 ∧ n0 ≤ 1000
                    · have HIN := Lib.hid (fun W => l1In_yes n0 (0) (1000) W hn0.1 hn0.2)
                      have hr := Lib.hid (show nodeOB 6 n0 ⟨#[]⟩ ts.length = true by unfold nodeOB numOB; simp [hn0, hm1, arityI, ByteArray.size])
                      clear hm1 hn0 hs0
                      go_wp2
                      go_quiet ((first | (go_at_call 48; exact Calls.quiet_of_same (HNB'.out _)) | (go_at_call 49; exact Calls.quiet_of_same (HAR.out _))))
                      have x0 : (wr.drewN nq).cell? ⟨w.heap.size, 0, none⟩ = some (.int .i64 6) := c0
                      have x1 : (wr.drewN nq).cell? ⟨w.heap.size, 1, none⟩ = some (.string ⟨#[]⟩) := c1
                      have x2 : (wr.drewN nq).cell? ⟨w.heap.size, 2, none⟩ = some (.int .i64 n0) := c2
                      have x3 : (wr.drewN nq).cell? ⟨w.heap.size, 3, none⟩ = some (.slice A ts.length ac) := c4
                      have xb := drewN_below wr nq
                      clear c0 c1 c2 c4
                      generalize wr.drewN nq = wx at *
                      go_wp2_with fail
                      refine (HIN.out _).mono ?_
                      rintro e w3 ⟨rfl, rfl⟩
                      go_wp2
                      go_ret
                      exact ⟨by rw [hres.out, hr.out]; rfl, hb'.trans (xb.mono hb'.size)⟩
                    · have HIN := Lib.hid (fun W => l1In_no n0 (0) (1000) W (by omega))
                      have hr := Lib.hid (show nodeOB 6 n0 ⟨#[]⟩ ts.length = false by unfold nodeOB numOB; rw [show decide (0 ≤ n0 ∧ n0 ≤ 1000) = false from decide_eq_false hn0]; simp)
                      clear hm1 hn0 hs0
                      go_wp2
                      go_quiet ((first | (go_at_call 48; exact Calls.quiet_of_same (HNB'.out _)) | (go_at_call 49; exact Calls.quiet_of_same (HAR.out _))))
                      have x0 : (wr.drewN nq).cell? ⟨w.heap.size, 0, none⟩ = some (.int .i64 6) := c0
                      have x1 : (wr.drewN nq).cell? ⟨w.heap.size, 1, none⟩ = some (.string ⟨#[]⟩) := c1
                      have x2 : (wr.drewN nq).cell? ⟨w.heap.size, 2, none⟩ = some (.int .i64 n0) := c2
                      have x3 : (wr.drewN nq).cell? ⟨w.heap.size, 3, none⟩ = some (.slice A ts.length ac) := c4
                      have xb := drewN_below wr nq
                      clear c0 c1 c2 c4
                      generalize wr.drewN nq = wx at *
                      go_wp2_with fail
                      refine (HIN.out _).mono ?_
                      rintro e w3 ⟨rfl, rfl⟩
                      go_wp2
                      go_ret
                      exact ⟨by rw [hres.out, hr.out]; rfl, hb'.trans (xb.mono hb'.size)⟩
                  · have i3 : ((ts.length : Int) != 0) = true := by rw [bne_iff_ne]; exact hm1
                    have hr := Lib.hid (show nodeOB 6 n0 ⟨#[]⟩ ts.length = false by unfold nodeOB; rw [show decide ((ts.length : Int) = arityI 6) = false from decide_eq_false (by first | exact hm1 | (simp [arityI]; omega)), Bool.and_false, Bool.false_and])
                    clear hs0 hm1
                    go_wp2
                    go_quiet ((first | (go_at_call 48; exact Calls.quiet_of_same (HNB'.out _)) | (go_at_call 49; exact Calls.quiet_of_same (HAR.out _))))
                    have x0 : (wr.drewN nq).cell? ⟨w.heap.size, 0, none⟩ = some (.int .i64 6) := c0
                    have x1 : (wr.drewN nq).cell? ⟨w.heap.size, 1, none⟩ = some (.string ⟨#[]⟩) := c1
                    have x2 : (wr.drewN nq).cell? ⟨w.heap.size, 2, none⟩ = some (.int .i64 n0) := c2
                    have x3 : (wr.drewN nq).cell? ⟨w.heap.size, 3, none⟩ = some (.slice A ts.length ac) := c4
                    have xb := drewN_below wr nq
                    clear c0 c1 c2 c4
                    generalize wr.drewN nq = wx at *
                    go_wp2
                    go_ret
                    exact ⟨by rw [hres.out, hr.out]; rfl, hb'.trans (xb.mono hb'.size)⟩
                · have i2 := otoList_nil_no hs0
                  have hr := Lib.hid (show nodeOB 6 n0 nm ts.length = false by unfold nodeOB; simp [hs0])
                  clear hs0
                  go_wp2
                  go_quiet ((first | (go_at_call 48; exact Calls.quiet_of_same (HNB'.out _)) | (go_at_call 49; exact Calls.quiet_of_same (HAR.out _))))
                  have x0 : (wr.drewN nq).cell? ⟨w.heap.size, 0, none⟩ = some (.int .i64 6) := c0
                  have x1 : (wr.drewN nq).cell? ⟨w.heap.size, 1, none⟩ = some (.string nm) := c1
                  have x2 : (wr.drewN nq).cell? ⟨w.heap.size, 2, none⟩ = some (.int .i64 n0) := c2
                  have x3 : (wr.drewN nq).cell? ⟨w.heap.size, 3, none⟩ = some (.slice A ts.length ac) := c4
                  have xb := drewN_below wr nq
                  clear c0 c1 c2 c4
                  generalize wr.drewN nq = wx at *
                  go_wp2
                  go_ret
                  exact ⟨by rw [hres.out, hr.out]; rfl, hb'.trans (xb.mono hb'.size)⟩
              · rw [hin] at HNB
                have HNB' := Lib.hid HNB
                have hz0 := hz hin
                have hr := Lib.hid (show nodeOB 6 n0 nm ts.length = false by unfold nodeOB; simp [hz0])
                clear hin HNB hz hz0
                go_wp2
                go_quiet ((first | (go_at_call 48; exact Calls.quiet_of_same (HNB'.out _)) | (go_at_call 49; exact Calls.quiet_of_same (HAR.out _))))
                have x0 : (wr.drewN nq).cell? ⟨w.heap.size, 0, none⟩ = some (.int .i64 6) := c0
                have x1 : (wr.drewN nq).cell? ⟨w.heap.size, 1, none⟩ = some (.string nm) := c1
                have x2 : (wr.drewN nq).cell? ⟨w.heap.size, 2, none⟩ = some (.int .i64 n0) := c2
                have x3 : (wr.drewN nq).cell? ⟨w.heap.size, 3, none⟩ = some (.slice A ts.length ac) := c4
                have xb := drewN_below wr nq
                clear c0 c1 c2 c4
                generalize wr.drewN nq = wx at *
                go_wp2
                go_ret
                exact ⟨by rw [hres.out, hr.out]; rfl, hb'.trans (xb.mono hb'.size)⟩
            · have e6 : (k0 == 6) = false := by rw [beq_eq_false_iff_ne]; exact hk6
              by_cases hk7 : k0 = 7
              · subst hk7
                cases hin : isNameB nm
                · rw [hin] at HNB
                  have HNB' := Lib.hid HNB
                  clear hin HNB hz
                  rw [show arityI 7 = 0 from rfl] at HAR
                  by_cases hs0 : nm.size = 0
                  · have hnil : nm = ⟨#[]⟩ := osize_nil hs0
                    subst hnil
                    by_cases hm1 : (ts.length : Int) = 0
                    · have i3 : ((ts.length : Int) != 0) = false := by rw [bne_eq_false_iff_eq]; exact hm1
                      by_cases hn0 : -1000 ≤ n0 ∧ n0 ≤ 1000
                      · have HIN := Lib.hid (fun W => l1In_yes n0 (-1000) (1000) W hn0.1 hn0.2)
                        have hr := Lib.hid (show nodeOB 7 n0 ⟨#[]⟩ ts.length = true by unfold nodeOB numOB; simp [hn0, hm1, arityI, ByteArray.size])
                        clear hm1 hn0 hs0
                        go_wp2
                        go_quiet ((first | (go_at_call 48; exact Calls.quiet_of_same (HNB'.out _)) | (go_at_call 49; exact Calls.quiet_of_same (HAR.out _))))
                        have x0 : (wr.drewN nq).cell? ⟨w.heap.size, 0, none⟩ = some (.int .i64 7) := c0
                        have x1 : (wr.drewN nq).cell? ⟨w.heap.size, 1, none⟩ = some (.string ⟨#[]⟩) := c1
                        have x2 : (wr.drewN nq).cell? ⟨w.heap.size, 2, none⟩ = some (.int .i64 n0) := c2
                        have x3 : (wr.drewN nq).cell? ⟨w.heap.size, 3, none⟩ = some (.slice A ts.length ac) := c4
                        have xb := drewN_below wr nq
                        clear c0 c1 c2 c4
                        generalize wr.drewN nq = wx at *
                        go_wp2_with fail
                        refine (HIN.out _).mono ?_
                        rintro e w3 ⟨rfl, rfl⟩
                        go_wp2
                        go_ret
                        exact ⟨by rw [hres.out, hr.out]; rfl, hb'.trans (xb.mono hb'.size)⟩
                      · have HIN := Lib.hid (fun W => l1In_no n0 (-1000) (1000) W (by omega))
                        have hr := Lib.hid (show nodeOB 7 n0 ⟨#[]⟩ ts.length = false by unfold nodeOB numOB; rw [show decide (-1000 ≤ n0 ∧ n0 ≤ 1000) = false from decide_eq_false hn0]; simp)
                        clear hm1 hn0 hs0
                        go_wp2
                        go_quiet ((first | (go_at_call 48; exact Calls.quiet_of_same (HNB'.out _)) | (go_at_call 49; exact Calls.quiet_of_same (HAR.out _))))
                        have x0 : (wr.drewN nq).cell? ⟨w.heap.size, 0, none⟩ = some (.int .i64 7) := c0
                        have x1 : (wr.drewN nq).cell? ⟨w.heap.size, 1, none⟩ = some (.string ⟨#[]⟩) := c1
                        have x2 : (wr.drewN nq).cell? ⟨w.heap.size, 2, none⟩ = some (.int .i64 n0) := c2
                        have x3 : (wr.drewN nq).cell? ⟨w.heap.size, 3, none⟩ = some (.slice A ts.length ac) := c4
                        have xb := drewN_below wr nq
                        clear c0 c1 c2 c4
                        generalize wr.drewN nq = wx at *
                        go_wp2_with fail
                        refine (HIN.out _).mono ?_
                        rintro e w3 ⟨rfl, rfl⟩
                        go_wp2
                        go_ret
                        exact ⟨by rw [hres.out, hr.out]; rfl, hb'.trans (xb.mono hb'.size)⟩
                    · have i3 : ((ts.length : Int) != 0) = true := by rw [bne_iff_ne]; exact hm1
                      have hr := Lib.hid (show nodeOB 7 n0 ⟨#[]⟩ ts.length = false by unfold nodeOB; rw [show decide ((ts.length : Int) = arityI 7) = false from decide_eq_false (by first | exact hm1 | (simp [arityI]; omega)), Bool.and_false, Bool.false_and])
                      clear hs0 hm1
                      go_wp2
                      go_quiet ((first | (go_at_call 48; exact Calls.quiet_of_same (HNB'.out _)) | (go_at_call 49; exact Calls.quiet_of_same (HAR.out _))))
                      have x0 : (wr.drewN nq).cell? ⟨w.heap.size, 0, none⟩ = some (.int .i64 7) := c0
                      have x1 : (wr.drewN nq).cell? ⟨w.heap.size, 1, none⟩ = some (.string ⟨#[]⟩) := c1
                      have x2 : (wr.drewN nq).cell? ⟨w.heap.size, 2, none⟩ = some (.int .i64 n0) := c2
                      have x3 : (wr.drewN nq).cell? ⟨w.heap.size, 3, none⟩ = some (.slice A ts.length ac) := c4
                      have xb := drewN_below wr nq
                      clear c0 c1 c2 c4
                      generalize wr.drewN nq = wx at *
                      go_wp2
                      go_ret
                      exact ⟨by rw [hres.out, hr.out]; rfl, hb'.trans (xb.mono hb'.size)⟩
                  · have i2 := otoList_nil_no hs0
                    have hr := Lib.hid (show nodeOB 7 n0 nm ts.length = false by unfold nodeOB; simp [hs0])
                    clear hs0
                    go_wp2
                    go_quiet ((first | (go_at_call 48; exact Calls.quiet_of_same (HNB'.out _)) | (go_at_call 49; exact Calls.quiet_of_same (HAR.out _))))
                    have x0 : (wr.drewN nq).cell? ⟨w.heap.size, 0, none⟩ = some (.int .i64 7) := c0
                    have x1 : (wr.drewN nq).cell? ⟨w.heap.size, 1, none⟩ = some (.string nm) := c1
                    have x2 : (wr.drewN nq).cell? ⟨w.heap.size, 2, none⟩ = some (.int .i64 n0) := c2
                    have x3 : (wr.drewN nq).cell? ⟨w.heap.size, 3, none⟩ = some (.slice A ts.length ac) := c4
                    have xb := drewN_below wr nq
                    clear c0 c1 c2 c4
                    generalize wr.drewN nq = wx at *
                    go_wp2
                    go_ret
                    exact ⟨by rw [hres.out, hr.out]; rfl, hb'.trans (xb.mono hb'.size)⟩
                · rw [hin] at HNB
                  have HNB' := Lib.hid HNB
                  have hz0 := hz hin
                  have hr := Lib.hid (show nodeOB 7 n0 nm ts.length = false by unfold nodeOB; simp [hz0])
                  clear hin HNB hz hz0
                  go_wp2
                  go_quiet ((first | (go_at_call 48; exact Calls.quiet_of_same (HNB'.out _)) | (go_at_call 49; exact Calls.quiet_of_same (HAR.out _))))
                  have x0 : (wr.drewN nq).cell? ⟨w.heap.size, 0, none⟩ = some (.int .i64 7) := c0
                  have x1 : (wr.drewN nq).cell? ⟨w.heap.size, 1, none⟩ = some (.string nm) := c1
                  have x2 : (wr.drewN nq).cell? ⟨w.heap.size, 2, none⟩ = some (.int .i64 n0) := c2
                  have x3 : (wr.drewN nq).cell? ⟨w.heap.size, 3, none⟩ = some (.slice A ts.length ac) := c4
                  have xb := drewN_below wr nq
                  clear c0 c1 c2 c4
                  generalize wr.drewN nq = wx at *
                  go_wp2
                  go_ret
                  exact ⟨by rw [hres.out, hr.out]; rfl, hb'.trans (xb.mono hb'.size)⟩
              · have e7 : (k0 == 7) = false := by rw [beq_eq_false_iff_ne]; exact hk7
                have hnn := Lib.hid (show ¬ (k0 = 2 ∨ k0 = 3 ∨ k0 = 10) by omega)
                have hn67 := Lib.hid (And.intro hk6 hk7)
                cases hin : isNameB nm
                · rw [hin] at HNB
                  have HNB' := Lib.hid HNB
                  clear hin HNB hz
                  generalize hai : arityI k0 = ai at HAR
                  have HAI := Lib.hid hai
                  clear hai
                  by_cases hs0 : nm.size = 0
                  · have hnil : nm = ⟨#[]⟩ := osize_nil hs0
                    subst hnil
                    by_cases hm1 : (ts.length : Int) = ai
                    · have i3 : ((ts.length : Int) != ai) = false := by rw [bne_eq_false_iff_eq]; exact hm1
                      by_cases hn0 : n0 = 0
                      · have i4 : (n0 == 0) = true := by rw [beq_iff_eq]; exact hn0
                        have hr := Lib.hid (show nodeOB k0 n0 ⟨#[]⟩ ts.length = true by unfold nodeOB numOB; rw [if_neg hnn.out, if_neg hn67.out.1, if_neg hn67.out.2, HAI.out]; simp [hm1, hn0, ByteArray.size])
                        clear hm1 hn0 hs0 hk2 hk3 hk10 hk6 hk7
                        go_wp2
                        go_quiet ((first | (go_at_call 48; exact Calls.quiet_of_same (HNB'.out _)) | (go_at_call 49; exact Calls.quiet_of_same (HAR.out _))))
                        have x0 : (wr.drewN nq).cell? ⟨w.heap.size, 0, none⟩ = some (.int .i64 k0) := c0
                        have x1 : (wr.drewN nq).cell? ⟨w.heap.size, 1, none⟩ = some (.string ⟨#[]⟩) := c1
                        have x2 : (wr.drewN nq).cell? ⟨w.heap.size, 2, none⟩ = some (.int .i64 n0) := c2
                        have x3 : (wr.drewN nq).cell? ⟨w.heap.size, 3, none⟩ = some (.slice A ts.length ac) := c4
                        have xb := drewN_below wr nq
                        clear c0 c1 c2 c4
                        generalize wr.drewN nq = wx at *
                        go_wp2
                        go_ret
                        exact ⟨by rw [hres.out, hr.out]; rfl, hb'.trans (xb.mono hb'.size)⟩
                      · have i4 : (n0 == 0) = false := by rw [beq_eq_false_iff_ne]; exact hn0
                        have hr := Lib.hid (show nodeOB k0 n0 ⟨#[]⟩ ts.length = false by unfold nodeOB numOB; rw [if_neg hn67.out.1, if_neg hn67.out.2]; simp [hn0])
                        clear hm1 hn0 hs0 hk2 hk3 hk10 hk6 hk7
                        go_wp2
                        go_quiet ((first | (go_at_call 48; exact Calls.quiet_of_same (HNB'.out _)) | (go_at_call 49; exact Calls.quiet_of_same (HAR.out _))))
                        have x0 : (wr.drewN nq).cell? ⟨w.heap.size, 0, none⟩ = some (.int .i64 k0) := c0
                        have x1 : (wr.drewN nq).cell? ⟨w.heap.size, 1, none⟩ = some (.string ⟨#[]⟩) := c1
                        have x2 : (wr.drewN nq).cell? ⟨w.heap.size, 2, none⟩ = some (.int .i64 n0) := c2
                        have x3 : (wr.drewN nq).cell? ⟨w.heap.size, 3, none⟩ = some (.slice A ts.length ac) := c4
                        have xb := drewN_below wr nq
                        clear c0 c1 c2 c4
                        generalize wr.drewN nq = wx at *
                        go_wp2
                        go_ret
                        exact ⟨by rw [hres.out, hr.out]; rfl, hb'.trans (xb.mono hb'.size)⟩
                    · have i3 : ((ts.length : Int) != ai) = true := by rw [bne_iff_ne]; exact hm1
                      have hr := Lib.hid (show nodeOB k0 n0 ⟨#[]⟩ ts.length = false by unfold nodeOB; rw [HAI.out, show decide ((ts.length : Int) = ai) = false from decide_eq_false hm1, Bool.and_false, Bool.false_and])
                      clear hm1 hs0 hk2 hk3 hk10 hk6 hk7
                      go_wp2
                      go_quiet ((first | (go_at_call 48; exact Calls.quiet_of_same (HNB'.out _)) | (go_at_call 49; exact Calls.quiet_of_same (HAR.out _))))
                      have x0 : (wr.drewN nq).cell? ⟨w.heap.size, 0, none⟩ = some (.int .i64 k0) := c0
                      have x1 : (wr.drewN nq).cell? ⟨w.heap.size, 1, none⟩ = some (.string ⟨#[]⟩) := c1
                      have x2 : (wr.drewN nq).cell? ⟨w.heap.size, 2, none⟩ = some (.int .i64 n0) := c2
                      have x3 : (wr.drewN nq).cell? ⟨w.heap.size, 3, none⟩ = some (.slice A ts.length ac) := c4
                      have xb := drewN_below wr nq
                      clear c0 c1 c2 c4
                      generalize wr.drewN nq = wx at *
                      go_wp2
                      go_ret
                      exact ⟨by rw [hres.out, hr.out]; rfl, hb'.trans (xb.mono hb'.size)⟩
                  · have i2 := otoList_nil_no hs0
                    have hr := Lib.hid (show nodeOB k0 n0 nm ts.length = false by unfold nodeOB; rw [if_neg hnn.out]; simp [hs0])
                    clear hs0 hk2 hk3 hk10 hk6 hk7
                    go_wp2
                    go_quiet ((first | (go_at_call 48; exact Calls.quiet_of_same (HNB'.out _)) | (go_at_call 49; exact Calls.quiet_of_same (HAR.out _))))
                    have x0 : (wr.drewN nq).cell? ⟨w.heap.size, 0, none⟩ = some (.int .i64 k0) := c0
                    have x1 : (wr.drewN nq).cell? ⟨w.heap.size, 1, none⟩ = some (.string nm) := c1
                    have x2 : (wr.drewN nq).cell? ⟨w.heap.size, 2, none⟩ = some (.int .i64 n0) := c2
                    have x3 : (wr.drewN nq).cell? ⟨w.heap.size, 3, none⟩ = some (.slice A ts.length ac) := c4
                    have xb := drewN_below wr nq
                    clear c0 c1 c2 c4
                    generalize wr.drewN nq = wx at *
                    go_wp2
                    go_ret
                    exact ⟨by rw [hres.out, hr.out]; rfl, hb'.trans (xb.mono hb'.size)⟩
                · rw [hin] at HNB
                  have HNB' := Lib.hid HNB
                  have hz0 := hz hin
                  have hr := Lib.hid (show nodeOB k0 n0 nm ts.length = false by unfold nodeOB; rw [if_neg hnn.out]; simp [hz0])
                  clear hin HNB hz hz0 hk2 hk3 hk10 hk6 hk7
                  go_wp2
                  go_quiet ((first | (go_at_call 48; exact Calls.quiet_of_same (HNB'.out _)) | (go_at_call 49; exact Calls.quiet_of_same (HAR.out _))))
                  have x0 : (wr.drewN nq).cell? ⟨w.heap.size, 0, none⟩ = some (.int .i64 k0) := c0
                  have x1 : (wr.drewN nq).cell? ⟨w.heap.size, 1, none⟩ = some (.string nm) := c1
                  have x2 : (wr.drewN nq).cell? ⟨w.heap.size, 2, none⟩ = some (.int .i64 n0) := c2
                  have x3 : (wr.drewN nq).cell? ⟨w.heap.size, 3, none⟩ = some (.slice A ts.length ac) := c4
                  have xb := drewN_below wr nq
                  clear c0 c1 c2 c4
                  generalize wr.drewN nq = wx at *
                  go_wp2
                  go_ret
                  exact ⟨by rw [hres.out, hr.out]; rfl, hb'.trans (xb.mono hb'.size)⟩

theorem specFormO_any (t : Ot) : FormOOne 22 t := by
  induction t using Ot.ind with
  | h k n nm ts ih => exact specFormO_of k n nm ts ih

/-- Is it an optic? -/
def opticB (t : Ot) : Bool := decide (sizeOt t ≤ 20) && decide (depthOt t ≤ 10) && formOt t

set_option maxHeartbeats 1000000 in
theorem specIsOptic_any (t : Ot) (v : Value) (w : World) (hv : OtAt w w.heap.size v t) (hsz : szOt t ≤ 1048576) :
    Calls Tryz.prog 9 #[v] w (BoolIs (opticB t) w) := by
  have hv0 := hv
  have hss := size_le_szO t
  have HL := Lib.hid (fun W h => specLeftO_any t v 20 W h (by omega) (by omega))
  have HD := Lib.hid (fun W h => specDepthO_any t v W h (by omega))
  have HF := Lib.hid (fun W h => specFormO_any t v W h hsz)
  obtain ⟨A, ac, rfl, _, _⟩ := hv.open
  obtain ⟨hb0, p0, hs0⟩ := boxes1 w 26 #[.int .i64 t.kind, .string t.name, .int .i64 t.num, .slice A t.args.length ac]
  have hv1 := hv0.up hb0
  have hpl := p0.lt
  have HZ := Lib.hid hs0
  clear hs0 hv hv0
  go_enter Tryz.func9, Tryz.ntmps9
  go_wp2_with fail
  generalize w.alloc (.cells #[.int .i64 t.kind, .string t.name, .int .i64 t.num, .slice A t.args.length ac] 26) = w0 at *
  refine (HL.out w0 hv1).mono ?_
  rintro e w1 ⟨rfl, hb1⟩
  have hb1' := hb0.trans (hb1.mono hb0.size)
  by_cases h30 : sizeOt t ≤ 20
  · rw [show leftOf 20 (sizeOt t) = 20 - sizeOt t by unfold leftOf; rw [if_neg (by omega)]]
    have i1 : (0 : Int) ≤ 20 - sizeOt t := by omega
    have p1 := p0.below hb1 hpl
    have hv2 := hv1.up hb1
    have c0 : w1.cell? ⟨w.heap.size, 0, none⟩ = some (.int .i64 t.kind) := p1.cell 0
    have c1 : w1.cell? ⟨w.heap.size, 1, none⟩ = some (.string t.name) := p1.cell 1
    have c2 : w1.cell? ⟨w.heap.size, 2, none⟩ = some (.int .i64 t.num) := p1.cell 2
    have c3 : w1.cell? ⟨w.heap.size, 3, none⟩ = some (.slice A t.args.length ac) := p1.cell 3
    have H30 := Lib.hid h30
    clear h30
    go_wp2_with fail
    refine (HD.out w1 hv2).mono ?_
    rintro e w2 ⟨rfl, hb2⟩
    have hb2' := hb1'.trans (hb2.mono hb1'.size)
    by_cases h10 : depthOt t ≤ 10
    · have i2 : (depthOt t : Int) ≤ 10 := by omega
      have p2 := p1.below hb2 p1.lt
      have hv3 := hv2.up hb2
      have d0 : w2.cell? ⟨w.heap.size, 0, none⟩ = some (.int .i64 t.kind) := p2.cell 0
      have d1 : w2.cell? ⟨w.heap.size, 1, none⟩ = some (.string t.name) := p2.cell 1
      have d2 : w2.cell? ⟨w.heap.size, 2, none⟩ = some (.int .i64 t.num) := p2.cell 2
      have d3 : w2.cell? ⟨w.heap.size, 3, none⟩ = some (.slice A t.args.length ac) := p2.cell 3
      have hr := Lib.hid (show opticB t = formOt t by unfold opticB; simp [H30.out, h10])
      clear h10
      go_wp2_with fail
      refine (HF.out w2 hv3).mono ?_
      rintro e w3 ⟨rfl, hb3⟩
      go_wp2
      go_ret
      exact ⟨by rw [hr.out]; rfl, hb2'.trans (hb3.mono hb2'.size)⟩
    · have i2 : ¬ (depthOt t : Int) ≤ 10 := by omega
      have hr := Lib.hid (show opticB t = false by unfold opticB; simp [h10])
      clear h10
      go_wp2
      go_ret
      exact ⟨by rw [hr.out]; rfl, hb2'⟩
  · rw [show leftOf 20 (sizeOt t) = -1 by unfold leftOf; rw [if_pos (by omega)]]
    have hr := Lib.hid (show opticB t = false by unfold opticB; simp [h30])
    clear h30
    go_wp2
    go_ret
    exact ⟨by rw [hr.out]; rfl, hb1'⟩

end Go.Proofs.YtlmbnefoobameaaGreatDoor
end

section
namespace Go.Proofs.YtlmbnefoobameaaGreatDoor
open Go.RowKit

theorem own_baseO {w : World} {base base' size k : Nat} {e : TypeId} {v : Value} {xs : List Value} (h : w.ownsRow base' e size v k xs) (hb : base ≤ base') : w.ownsRow base e size v k xs :=
  ⟨h.1, h.2.imp id fun ⟨g, cap, cur, h1, h2, h3⟩ => ⟨g, cap, cur, h1, Nat.le_trans hb h2, h3⟩⟩
theorem CurAt.belowO {w w' : World} {B p b : Nat} (h : CurAt w B p) (hb : Below b w w') (hp : p < b) : CurAt w' B p := by
  obtain ⟨A, n, cap, i, x, h1, h2, h3, h4, h5⟩ := h
  exact ⟨A, n, cap, i, x, h1.below hb hp, h2, h3, h4.below (hb.mono (by omega)), h5⟩
theorem CurAt.allocO {w : World} {B p : Nat} (h : CurAt w B p) (o : Obj) : CurAt (w.alloc o) B p := h.belowO ((Below.refl w.heap.size w).alloc (Nat.le_refl _) o) h.lt
theorem ints_newO (w : World) (t : TypeId) (zs : List Int) : IntsAt (w.alloc (.cells (zs.map (Value.int .i64)).toArray t)) (some ⟨w.heap.size, 0, none⟩) zs := fun i hi => by
  refine ⟨_, _, rfl, ?_⟩
  rw [(Whole1.new w t _).cell]
  simp [hi]
theorem grown_setO {w w' : World} {p q : Nat} (h : w.grownBy w' (some p)) (hq : w.heap.size ≤ q) (i : Nat) (v : Value) : w.grownBy (w'.setCell ⟨q, i, none⟩ v) (some p) :=
  ⟨h.os, h.tape, h.output, by simpa [World.setCell] using h.size, fun k hk hne => (Below.heap_setCell w' ⟨q, i, none⟩ v k (fun e => by have : k = q := e; omega)).trans (h.block k hk hne)⟩
theorem grown_ownO {w w1 w3 : World} {p : Nat} {ob : Option Nat} (h : w.grownBy w1 (some p)) (hg : w1.grownBy w3 ob) (ho : ∀ q, ob = some q → w.heap.size ≤ q) : w.grownBy w3 (some p) :=
  ⟨hg.os.trans h.os, hg.tape.trans h.tape, hg.output.trans h.output, Nat.le_trans h.size hg.size, fun i hi hne => (hg.block i (Nat.lt_of_lt_of_le hi h.size) (fun e => by have := ho i e.symm; omega)).trans (h.block i hi hne)⟩
theorem grown_allocO {w w1 : World} {p : Nat} (h : w.grownBy w1 (some p)) (o : Obj) : w.grownBy (w1.alloc o) (some p) := only_below h ((Below.refl _ _).alloc (Nat.le_refl _) o)
theorem Whole1.grownO {w w' : World} {p g : Nat} {t : TypeId} {cs : Array Value} (h : Whole1 w g t cs) (hg : w.grownBy w' (some p)) (hp : g ≠ p) : Whole1 w' g t cs := (hg.block g h.lt (fun e => by cases e; exact hp rfl)).trans h
theorem below_d0 {w w' : World} (h : Below w.drew.heap.size w.drew w') : Below w.heap.size w w' := (Below.refl w.heap.size w).drew.trans h

theorem OGatherAt.base {w : World} {base base' k : Nat} {v : Value} {ts : List Ot} {xs : List Value} {vs : Nat → Value} {lo hi : Nat → Nat} (h : OGatherAt w base' v k ts xs vs lo hi) (hb : base ≤ base') : OGatherAt w base v k ts xs vs lo hi :=
  ⟨own_baseO h.own hb, h.cells, fun i hi' => ⟨Nat.le_trans hb (h.low i hi').1, (h.low i hi').2⟩, h.apart, h.free, h.kids⟩

/-- The optic's parts are a row from base on; all is named. -/
structure OwnOAt (w : World) (base : Nat) (A : Option Addr) (ac : Nat) (t : Ot) (xs : List Value) (vs : Nat → Value) (lo hi : Nat → Nat) : Prop where
  name : t.name.size ≤ maxLen
  len : t.args.length ≤ maxLen
  parts : OGatherAt w base (.slice A t.args.length ac) t.args.length t.args xs vs lo hi
/-- The value reads as the tree; its root's slice is a row from base on. -/
def OwnOt (w : World) (base : Nat) (v : Value) (t : Ot) : Prop :=
  ∃ A ac xs vs lo hi, v = .agg #[.int .i64 t.kind, .string t.name, .int .i64 t.num, .slice A t.args.length ac] ∧ OwnOAt w base A ac t xs vs lo hi
section
variable {w w' : World} {base ac : Nat} {A : Option Addr} {t : Ot} {xs : List Value} {vs : Nat → Value} {lo hi : Nat → Nat}
theorem OwnOAt.own (h : OwnOAt w base A ac t xs vs lo hi) : OwnOt w base (.agg #[.int .i64 t.kind, .string t.name, .int .i64 t.num, .slice A t.args.length ac]) t := ⟨A, ac, xs, vs, lo, hi, rfl, h⟩
theorem OwnOAt.root (h : OwnOAt w base A ac t xs vs lo hi) (k n : Int) (nm : ByteArray) (hnm : nm.size ≤ maxLen) : OwnOAt w base A ac (.mk k n nm t.args) xs vs lo hi := ⟨hnm, h.len, h.parts⟩
theorem OwnOAt.keep (h : OwnOAt w base A ac t xs vs lo hi) (hs : w.heap.size ≤ w'.heap.size) (hk : ∀ g, base ≤ g → g < w.heap.size → w'.heap[g]? = w.heap[g]?) : OwnOAt w' base A ac t xs vs lo hi := ⟨h.name, h.len, h.parts.keep hs hk⟩
/-- What lies from base on stands, but for a block that is none of the tree's. -/
theorem OwnOAt.but (h : OwnOAt w base A ac t xs vs lo hi) (q : Nat) (hs : w.heap.size ≤ w'.heap.size) (hk : ∀ g, base ≤ g → g < w.heap.size → g ≠ q → w'.heap[g]? = w.heap[g]?) (hA : (Value.slice A t.args.length ac).ownBlock ≠ some q) (hS : ∀ i, i < t.args.length → ¬ Span (lo i) (hi i) q) : OwnOAt w' base A ac t xs vs lo hi :=
  ⟨h.name, h.len, own_keep4o h.parts.own (fun g hg => hk g (h.parts.own.lt g hg).1 (h.parts.own.lt g hg).2 (fun e => hA (by rw [hg, e]))), h.parts.cells, fun i hi' => ⟨(h.parts.low i hi').1, Nat.le_trans (h.parts.low i hi').2 hs⟩, h.parts.apart, h.parts.free,
    fun i hi' hik => (h.parts.kids i hi' hik).keep fun b hb hl => hk b (Nat.le_trans (h.parts.low i hik).1 hb.1) hl (fun e => hS i hik (by rw [← e]; exact hb))⟩
theorem OwnOAt.grown {p : Nat} (h : OwnOAt w base A ac t xs vs lo hi) (hg : w.grownBy w' (some p)) (hp : p < base) : OwnOAt w' base A ac t xs vs lo hi :=
  h.keep hg.size fun g h1 h2 => hg.block g h2 (fun e => by injection e with e; omega)
end
theorem OwnOAt.base {w : World} {base base0 ac : Nat} {A : Option Addr} {t : Ot} {xs : List Value} {vs : Nat → Value} {lo hi : Nat → Nat} (h : OwnOAt w base A ac t xs vs lo hi) (hb : base0 ≤ base) : OwnOAt w base0 A ac t xs vs lo hi := ⟨h.name, h.len, h.parts.base hb⟩
theorem OwnOt.owned {w : World} {base : Nat} {v : Value} {t : Ot} (h : OwnOt w base v t) : OtIn w (Span base w.heap.size) v t := by
  obtain ⟨A, ac, xs, vs, lo, hi, rfl, h1, h2, h3⟩ := h
  exact OtIn.of h1 (OGather.done ⟨xs, vs, lo, hi, h3⟩ h2) fun b hb => hb
theorem OwnOt.keep {w w' : World} {base : Nat} {v : Value} {t : Ot} (h : OwnOt w base v t) (hs : w.heap.size ≤ w'.heap.size) (hk : ∀ g, base ≤ g → g < w.heap.size → w'.heap[g]? = w.heap[g]?) : OwnOt w' base v t := by
  obtain ⟨A, ac, xs, vs, lo, hi, hv, h1⟩ := h
  exact ⟨A, ac, xs, vs, lo, hi, hv, h1.keep hs hk⟩
theorem OwnOt.base {w : World} {base base0 : Nat} {v : Value} {t : Ot} (h : OwnOt w base v t) (hb : base0 ≤ base) : OwnOt w base0 v t := by
  obtain ⟨A, ac, xs, vs, lo, hi, hv, h1⟩ := h
  exact ⟨A, ac, xs, vs, lo, hi, hv, h1.base hb⟩
theorem OwnOt.open {w : World} {base : Nat} {v : Value} {t : Ot} (h : OwnOt w base v t) : ∃ A ac, v = .agg #[.int .i64 t.kind, .string t.name, .int .i64 t.num, .slice A t.args.length ac] := by
  obtain ⟨A, ac, xs, vs, lo, hi, hv, _⟩ := h
  exact ⟨A, ac, hv⟩
theorem OwnOt.leaf (w : World) (base : Nat) (k n : Int) (nm : ByteArray) (hnm : nm.size ≤ maxLen) : OwnOt w base (.agg #[.int .i64 k, .string nm, .int .i64 n, .slice none 0 0]) (.mk k n nm []) := by
  obtain ⟨xs, vs, lo, hi, hg⟩ := OGather.start w base []
  exact ⟨none, 0, xs, vs, lo, hi, rfl, hnm, Nat.zero_le _, hg⟩
theorem OwnOt.of {w : World} {base ac k : Nat} {A : Option Addr} {t : Ot} (hnm : t.name.size ≤ maxLen) (hl : t.args.length ≤ maxLen) (hk : t.args.length = k) (hg : OGather w base (.slice A k ac) k t.args) : OwnOt w base (.agg #[.int .i64 t.kind, .string t.name, .int .i64 t.num, .slice A k ac]) t := by
  subst hk
  obtain ⟨xs, vs, lo, hi, hg⟩ := hg
  exact ⟨A, ac, xs, vs, lo, hi, rfl, hnm, hl, hg⟩
theorem newsO (w : World) (t : TypeId) (a b c d : Value) (h1 : a.oneCell' = true := by rfl) (h2 : b.oneCell' = true := by rfl) (h3 : c.oneCell' = true := by rfl) (h4 : d.oneCell' = true := by rfl) :
    (∀ j u, [a, b, c, d][j]? = some u → (w.alloc (.cells #[a, b, c, d] t)).cell? ((⟨w.heap.size, 0, none⟩ : Addr).add j) = some u) ∧ ∀ u ∈ [a, b, c, d], u.oneCell' = true := by
  constructor
  · intro j u hj
    rw [WideShapes.add_plain, World.cell?_alloc_at _ _ _ _ rfl, Nat.zero_add]
    simpa using hj
  · intro u hu
    simp at hu
    rcases hu with rfl | rfl | rfl | rfl
    · exact h1
    · exact h2
    · exact h3
    · exact h4
theorem OGather.grown {w w' : World} {base k p : Nat} {v : Value} {ts : List Ot} (h : OGather w base v k ts) (hg : w.grownBy w' (some p)) (hp : p < base) : OGather w' base v k ts :=
  h.keep hg.size fun g h1 h2 => hg.block g h2 (fun e => by cases e; omega)

/-- One more tree is appended. -/
theorem OGatherAt.stepB {w w1 w3 : World} {base k g cap : Nat} {v a b c d : Value} {ts : List Ot} {xs : List Value} {vs : Nat → Value} {lo hi : Nat → Nat} (h : OGatherAt w base v k ts xs vs lo hi) (hs1 : w.heap.size ≤ w1.heap.size) (hb : ∀ q, base ≤ q → q < w.heap.size → w1.heap[q]? = w.heap[q]?) (hbase : base ≤ w.heap.size) (hk : k < ts.length)
    (ht : OtIn w1 (Span w.heap.size w1.heap.size) (.agg #[a, b, c, d]) ts[k]) (hown : w3.ownsRow base 26 4 (.slice (some ⟨g, 0, none⟩) (k + 1) cap) (k + 1) (xs ++ [a, b, c, d]))
    (hg : (w1.alloc (.cells #[a, b, c, d] 26)).grownBy w3 v.ownBlock) (hat : v.ownBlock = some g ∨ g = w1.heap.size + 1) : OGather w3 base (.slice (some ⟨g, 0, none⟩) (k + 1) cap) (k + 1) ts := by
  have hs3 : w1.heap.size + 1 ≤ w3.heap.size := by have := hg.size; simp at this; exact this
  have hxl : xs.length = k * 4 := h.own.1
  have hkeep : ∀ q, q < w1.heap.size → v.ownBlock ≠ some q → w3.heap[q]? = w1.heap[q]? := fun q hq hne =>
    (hg.block q (by simp; omega) (fun e => hne e.symm)).trans (Below.heap_alloc _ _ _ hq)
  refine ⟨xs ++ [a, b, c, d], fun i => if i = k then .agg #[a, b, c, d] else vs i, fun i => if i = k then w.heap.size else lo i, fun i => if i = k then w1.heap.size else hi i, hown, fun i hi' j hj => ?_, fun i hi' => ?_, fun i j hij hj => ?_, fun i hi' q hq => ?_, fun i hi' hik => ?_⟩
  · by_cases ek : i = k
    · subst ek
      rw [if_pos rfl, List.getElem?_append_right (by omega), hxl]
      have : j = 0 ∨ j = 1 ∨ j = 2 ∨ j = 3 := by omega
      rcases this with rfl | rfl | rfl | rfl
      · simp [partAt]
      · simp [partAt]
      · simp [partAt]
      · simp [partAt]
    · rw [if_neg ek, List.getElem?_append_left (by omega)]
      exact h.cells i (by omega) j hj
  · by_cases ek : i = k
    · rw [if_pos ek, if_pos ek]
      omega
    · rw [if_neg ek, if_neg ek]
      have := h.low i (by omega)
      omega
  · rw [if_neg (show i ≠ k by omega)]
    by_cases ek : j = k
    · rw [if_pos ek]
      exact (h.low i (by omega)).2
    · rw [if_neg ek]
      exact h.apart i j hij (by omega)
  · have hqg : q = g := (Option.some.inj hq).symm
    subst hqg
    by_cases ek : i = k
    · rw [if_pos ek, if_pos ek]
      intro hs
      have a1 := hs.1
      have a2 := hs.2
      rcases hat with hat | hat
      · have := (h.own.lt q hat).2
        omega
      · omega
    · rw [if_neg ek, if_neg ek]
      rcases hat with hat | hat
      · exact h.free i (by omega) q hat
      · intro hs
        have := hs.2
        have := (h.low i (by omega)).2
        omega
  · by_cases ek : i = k
    · subst ek
      rw [if_pos rfl, if_pos rfl, if_pos rfl]
      refine ht.keep fun q hq _ => hkeep q hq.2 fun hv => ?_
      have := (h.own.lt q hv).2
      have := hq.1
      omega
    · rw [if_neg ek, if_neg ek, if_neg ek]
      refine (h.kids i hi' (by omega)).keep fun q hq hql => ?_
      rw [hkeep q (by omega) fun hv => h.free i (by omega) q hv hq]
      exact hb q (by have := (h.low i (by omega)).1; have := hq.1; omega) hql


/-- The draw of a part is appended to the parts of the value under way. -/
theorem odraw_rel {w wc wr w1 w3 : World} {p po k g cap : Nat} {A2 : Option Addr} {c2 : Nat} {ts : List Ot} {u : Ot} {xs : List Value} {vs : Nat → Value} {lo hi : Nat → Nat} {a b c d : Value} {x0 x1 x2 : Value} {B : Nat} (hk : k = ts.length) (hol : po < wc.heap.size) (hpo : w.heap.size ≤ po) (hpw : p < w.heap.size) (hsz : wc.heap.size ≤ wr.heap.size)
    (hG : OGatherAt wr wc.heap.size (.slice A2 k c2) k ts xs vs lo hi) (hb1 : wr.grownBy w1 (some p)) (hc1 : CurAt w1 B p) (ht : OtIn w1 (Span wr.heap.size w1.heap.size) (.agg #[a, b, c, d]) u)
    (hown3 : w3.ownsRow wc.heap.size 26 4 (.slice (some ⟨g, 0, none⟩) (k + 1) cap) (k + 1) (xs ++ [a, b, c, d])) (hg3 : (w1.alloc (.cells #[a, b, c, d] 26)).grownBy w3 (Value.slice A2 k c2).ownBlock) (hat3 : (Value.slice A2 k c2).ownBlock = some g ∨ g = w1.heap.size + 1)
    (ho3 : Whole1 w3 po 26 #[x0, x1, x2, .slice A2 k c2]) (hold : ∀ q, q < wc.heap.size → q ≠ po → q ≠ p → wr.heap[q]? = wc.heap[q]?) (hb : w.grownBy wr (some p)) :
    Whole1 (w3.setCell ⟨po, 3, none⟩ (.slice (some ⟨g, 0, none⟩) (k + 1) cap)) po 26 #[x0, x1, x2, .slice (some ⟨g, 0, none⟩) (k + 1) cap] ∧ OGather (w3.setCell ⟨po, 3, none⟩ (.slice (some ⟨g, 0, none⟩) (k + 1) cap)) wc.heap.size (.slice (some ⟨g, 0, none⟩) (k + 1) cap) (k + 1) (ts ++ [u]) ∧
      (∀ q, q < wc.heap.size → q ≠ po → q ≠ p → (w3.setCell ⟨po, 3, none⟩ (.slice (some ⟨g, 0, none⟩) (k + 1) cap)).heap[q]? = wc.heap[q]?) ∧ CurAt (w3.setCell ⟨po, 3, none⟩ (.slice (some ⟨g, 0, none⟩) (k + 1) cap)) B p ∧ w.grownBy (w3.setCell ⟨po, 3, none⟩ (.slice (some ⟨g, 0, none⟩) (k + 1) cap)) (some p) ∧ wc.heap.size ≤ (w3.setCell ⟨po, 3, none⟩ (.slice (some ⟨g, 0, none⟩) (k + 1) cap)).heap.size := by
  have hs1 := hb1.size
  have hs3 := hg3.size
  simp only [World.size_alloc] at hs3
  have hw0 := hb.size
  have hvb := fun q (hq : (Value.slice A2 k c2).ownBlock = some q) => (hG.own.lt q hq)
  have hG1 : OGatherAt wr wc.heap.size (.slice A2 k c2) k (ts ++ [u]) xs vs lo hi := ⟨hG.own, hG.cells, hG.low, hG.apart, hG.free, fun i hi' hik => by
    rw [List.getElem_append_left (by omega)]
    exact hG.kids i (by omega) hik⟩
  -- the cursor's block apart, the call's world is one in which all stands
  have hst : OGather w3 wc.heap.size (.slice (some ⟨g, 0, none⟩) (k + 1) cap) (k + 1) (ts ++ [u]) := OGatherAt.stepB hG1 hs1 (fun q h1 h2 => hb1.block q h2 (fun e => by cases e; omega)) hsz (by simp [hk]) (by simpa [hk] using ht) hown3 hg3 hat3
  have hgp : w.grownBy w3 (some p) := grown_ownO (grown_allocO (only_trans hb hb1) _) hg3 (fun q hq => by have := (hvb q hq).1; omega)
  have hcB : Below (p + 1) w1 w3 := ⟨hg3.os, hg3.tape, hg3.output, by omega, fun q hq => (hg3.block q (by simp; omega) (fun e => by have := (hvb q e.symm).1; omega)).trans (Below.heap_alloc _ _ _ (by omega))⟩
  have hcS := hcB.setCell (p := ⟨po, 3, none⟩) (show p + 1 ≤ po by omega) (.slice (some ⟨g, 0, none⟩) (k + 1) cap)
  refine ⟨ho3.set 3 _, hst.set hol, fun q hq hqp hqq => ?_, hc1.belowO hcS (by omega), grown_setO hgp hpo _ _, ?_⟩
  · rw [Below.heap_setCell _ _ _ _ hqp, hg3.block q (by simp; omega) (fun e => by have := (hvb q e.symm).1; omega), Below.heap_alloc _ _ _ (by omega), hb1.block q (by omega) (fun e => by cases e; exact hqq rfl)]
    exact hold q hq hqp hqq
  · show wc.heap.size ≤ (w3.setCell _ _).heap.size
    simp [World.setCell]
    omega


/-- An optic of its own, of size n at most, is handed back; only the cursor, and what is new, has turned. -/
def DrawnOt (w : World) (B p n : Nat) (e : Ending) (w' : World) : Prop :=
  (∃ v t, e = .returned v ∧ OwnOt w' w.heap.size v t ∧ szOt t ≤ n) ∧ CurAt w' B p ∧ w.grownBy w' (some p)
/-- The result's box is w.heap.size. -/
theorem drawnO_fin0 {w w3 : World} {B p n : Nat} {v : Value} {t : Ot} (h : OwnOt w3 (w.heap.size + 1) v t) (hn : szOt t ≤ n) (hc : CurAt w3 B p) (hp : p < w.heap.size) (hg : w.grownBy w3 (some p)) (a b c d : Value) :
    DrawnOt w B p n (.returned v) ((((w3.setCell ⟨w.heap.size, 0, none⟩ a).setCell ⟨w.heap.size, 1, none⟩ b).setCell ⟨w.heap.size, 2, none⟩ c).setCell ⟨w.heap.size, 3, none⟩ d) := by
  have hb : Below w.heap.size w3 ((((w3.setCell ⟨w.heap.size, 0, none⟩ a).setCell ⟨w.heap.size, 1, none⟩ b).setCell ⟨w.heap.size, 2, none⟩ c).setCell ⟨w.heap.size, 3, none⟩ d) := ((((Below.refl w.heap.size w3).setCell (by simp) _).setCell (by simp) _).setCell (by simp) _).setCell (by simp) _
  have hk : ∀ g, g ≠ w.heap.size → ((((w3.setCell ⟨w.heap.size, 0, none⟩ a).setCell ⟨w.heap.size, 1, none⟩ b).setCell ⟨w.heap.size, 2, none⟩ c).setCell ⟨w.heap.size, 3, none⟩ d).heap[g]? = w3.heap[g]? := fun g hg => by
    rw [Below.heap_setCell _ _ _ _ hg, Below.heap_setCell _ _ _ _ hg, Below.heap_setCell _ _ _ _ hg, Below.heap_setCell _ _ _ _ hg]
  exact ⟨⟨v, t, rfl, (h.keep hb.size (fun g h1 _ => hk g (by omega))).base (by omega), hn⟩, hc.belowO hb hp, ⟨hb.os.trans hg.os, hb.tape.trans hg.tape, hb.output.trans hg.output, Nat.le_trans hg.size hb.size, fun i hi hne => (hk i (by omega)).trans (hg.block i hi hne)⟩⟩
theorem szOt_root (t : Ot) (k n : Int) (nm : ByteArray) : szOt (.mk k n nm t.args) + t.name.size = szOt t + nm.size := by
  cases t
  simp only [szOt, Ot.args, Ot.name]
  omega

end Go.Proofs.YtlmbnefoobameaaGreatDoor
end

section
namespace Go.Proofs.YtlmbnefoobameaaGreatDoor
set_option maxRecDepth 100000
open Go.RowKit
attribute [local go_sem ↓] Go.wp_at_zero Go.wp_at_succ

theorem pickO2 (p B : Nat) (W : World) (n : Nat) (hn : W.heap.size = n) (a b : ByteArray) (h : CurAt W B p) :
    Calls Tryz.prog 31 #[.pointer (some ⟨p, 0, none⟩), .slice (some ⟨n, 0, none⟩) 2 2] (W.alloc (.cells #[.string a, .string b] 9)) (DrawnStr (W.alloc (.cells #[.string a, .string b] 9)) B p [a, b]) := by
  subst hn
  exact l1Pick_any p B (W.heap.size + 1) 2 (some ⟨W.heap.size, 0, none⟩) [a, b] _ (CurAt.allocO h _) (StrsAt.of_whole (t := 9) (Whole1.new W _ _) _ (by omega)) (fun q b off e => by cases e; have := h.lt; omega) (by simp) (by simp)

set_option maxHeartbeats 4000000 in
theorem specLeafO_any (p B : Nat) (w : World) (hc : CurAt w B p) : Calls Tryz.prog 59 #[.pointer (some ⟨p, 0, none⟩)] w (DrawnOt w B p 1) := by
  have hpl := hc.lt
  obtain ⟨hb0, r0, hs0⟩ := boxes1 w 26 #[.int .i64 0, .string ⟨#[]⟩, .int .i64 0, .slice none 0 0]
  have hc0 : CurAt (w.alloc (.cells #[.int .i64 0, .string ⟨#[]⟩, .int .i64 0, .slice none 0 0] 26)) B p := hc.allocO _
  have hg0 : w.grownBy (w.alloc (.cells #[.int .i64 0, .string ⟨#[]⟩, .int .i64 0, .slice none 0 0] 26)) (some p) := World.grownBy_alloc w _ _
  have H10 := Lib.hid (fun W h => l1Below_any p B 10 W h (by omega) (by omega))
  clear hc hb0
  go_enter Tryz.func59, Tryz.ntmps59
  go_wp2_with fail
  refine (H10.out _ hc0).mono ?_
  rintro e w1 ⟨⟨x, rfl, hx0, hx1⟩, hc1, hg1⟩
  have r1 := r0.grownO hg1 (by omega)
  have hg1' := only_trans hg0 hg1
  have hs1 := hg1.size
  rw [hs0] at hs1
  clear r0 hg0 hg1 hc0 hs0
  by_cases h2 : x = 1
  · subst h2
    obtain ⟨hbW, rb, hsW⟩ := boxes1 w1 26 #[.int .i64 2, .string ⟨#[]⟩, .int .i64 0, .slice none 0 0]
    have hcW := hc1.belowO hbW hc1.lt
    have rW := r1.below hbW r1.lt
    have hgW := only_below hg1' hbW
    clear hbW hc1 r1 hg1'
    have hzp : p < w1.heap.size := by omega
    have hzr : w.heap.size < w1.heap.size := by omega
    have hrz : w.heap.size ≠ w1.heap.size := by omega
    have hzne : w1.heap.size ≠ w.heap.size := by omega
    generalize hz1 : w1.heap.size = z at *
    have HPK := Lib.hid (pickO2 p B _ _ hsW ⟨#[97]⟩ ⟨#[98]⟩ hcW)
    go_wp2_with fail
    generalize w1.alloc (.cells #[.int .i64 2, .string ⟨#[]⟩, .int .i64 0, .slice none 0 0] 26) = W at *
    refine HPK.out.mono ?_
    rintro e w3 ⟨⟨s, rfl, hs⟩, hc3, hg3a⟩
    have hg3 := only_trans (World.grownBy_alloc W _ _) hg3a
    clear hg3a
    have hss : s.size ≤ 1 := by
      simp at hs
      rcases hs with rfl | rfl <;> decide
    clear hs
    have b3 := rb.grownO hg3 (by omega)
    have r3 := rW.grownO hg3 (by omega)
    have hg3' := only_trans hgW hg3
    have d0 : w3.cell? ⟨w.heap.size, 0, none⟩ = some (.int .i64 0) := r3.cell 0
    have f0 : w3.frozen? ⟨w.heap.size, 0, none⟩ = false := r3.free 0
    have d1 : w3.cell? ⟨w.heap.size, 1, none⟩ = some (.string ⟨#[]⟩) := r3.cell 1
    have f1 : w3.frozen? ⟨w.heap.size, 1, none⟩ = false := r3.free 1
    have d2 : w3.cell? ⟨w.heap.size, 2, none⟩ = some (.int .i64 0) := r3.cell 2
    have f2 : w3.frozen? ⟨w.heap.size, 2, none⟩ = false := r3.free 2
    have d3 : w3.cell? ⟨w.heap.size, 3, none⟩ = some (.slice none 0 0) := r3.cell 3
    have f3 : w3.frozen? ⟨w.heap.size, 3, none⟩ = false := r3.free 3
    have q0 : w3.cell? ⟨z, 0, none⟩ = some (.int .i64 2) := b3.cell 0
    have u0 : w3.frozen? ⟨z, 0, none⟩ = false := b3.free 0
    have q1 : w3.cell? ⟨z, 1, none⟩ = some (.string ⟨#[]⟩) := b3.cell 1
    have u1 : w3.frozen? ⟨z, 1, none⟩ = false := b3.free 1
    have q2 : w3.cell? ⟨z, 2, none⟩ = some (.int .i64 0) := b3.cell 2
    have u2 : w3.frozen? ⟨z, 2, none⟩ = false := b3.free 2
    have q3 : w3.cell? ⟨z, 3, none⟩ = some (.slice none 0 0) := b3.cell 3
    have u3 : w3.frozen? ⟨z, 3, none⟩ = false := b3.free 3
    have HF := Lib.hid (drawnO_fin0 (n := 1) (OwnOt.leaf (w3.setCell ⟨z, 1, none⟩ (.string s)) (w.heap.size + 1) 2 0 s (Nat.le_trans hss (by unfold maxLen; decide))) (by simp only [szOt, szOts]; omega) (hc3.belowO ((Below.refl z w3).setCell (by simp) _) (by omega)) hpl (grown_setO hg3' (by omega) _ _))
    clear r3 b3
    go_wp2
    exact bodyPost_ret (v := .agg #[.int .i64 2, .string s, .int .i64 0, .slice none 0 0]) (by simp [results, Tryz.results59, go_sem, d0, d1, d2, d3]) rfl (HF.out _ _ _ _)
  by_cases h10 : x = 9
  · subst h10
    obtain ⟨hbW, rb, hsW⟩ := boxes1 w1 26 #[.int .i64 10, .string ⟨#[]⟩, .int .i64 0, .slice none 0 0]
    have hcW := hc1.belowO hbW hc1.lt
    have rW := r1.below hbW r1.lt
    have hgW := only_below hg1' hbW
    clear hbW hc1 r1 hg1'
    have hzp : p < w1.heap.size := by omega
    have hzr : w.heap.size < w1.heap.size := by omega
    have hrz : w.heap.size ≠ w1.heap.size := by omega
    have hzne : w1.heap.size ≠ w.heap.size := by omega
    generalize hz1 : w1.heap.size = z at *
    have HPK := Lib.hid (pickO2 p B _ _ hsW ⟨#[97]⟩ ⟨#[98]⟩ hcW)
    go_wp2_with fail
    generalize w1.alloc (.cells #[.int .i64 10, .string ⟨#[]⟩, .int .i64 0, .slice none 0 0] 26) = W at *
    refine HPK.out.mono ?_
    rintro e w3 ⟨⟨s, rfl, hs⟩, hc3, hg3a⟩
    have hg3 := only_trans (World.grownBy_alloc W _ _) hg3a
    clear hg3a
    have hss : s.size ≤ 1 := by
      simp at hs
      rcases hs with rfl | rfl <;> decide
    clear hs
    have b3 := rb.grownO hg3 (by omega)
    have r3 := rW.grownO hg3 (by omega)
    have hg3' := only_trans hgW hg3
    have d0 : w3.cell? ⟨w.heap.size, 0, none⟩ = some (.int .i64 0) := r3.cell 0
    have f0 : w3.frozen? ⟨w.heap.size, 0, none⟩ = false := r3.free 0
    have d1 : w3.cell? ⟨w.heap.size, 1, none⟩ = some (.string ⟨#[]⟩) := r3.cell 1
    have f1 : w3.frozen? ⟨w.heap.size, 1, none⟩ = false := r3.free 1
    have d2 : w3.cell? ⟨w.heap.size, 2, none⟩ = some (.int .i64 0) := r3.cell 2
    have f2 : w3.frozen? ⟨w.heap.size, 2, none⟩ = false := r3.free 2
    have d3 : w3.cell? ⟨w.heap.size, 3, none⟩ = some (.slice none 0 0) := r3.cell 3
    have f3 : w3.frozen? ⟨w.heap.size, 3, none⟩ = false := r3.free 3
    have q0 : w3.cell? ⟨z, 0, none⟩ = some (.int .i64 10) := b3.cell 0
    have u0 : w3.frozen? ⟨z, 0, none⟩ = false := b3.free 0
    have q1 : w3.cell? ⟨z, 1, none⟩ = some (.string ⟨#[]⟩) := b3.cell 1
    have u1 : w3.frozen? ⟨z, 1, none⟩ = false := b3.free 1
    have q2 : w3.cell? ⟨z, 2, none⟩ = some (.int .i64 0) := b3.cell 2
    have u2 : w3.frozen? ⟨z, 2, none⟩ = false := b3.free 2
    have q3 : w3.cell? ⟨z, 3, none⟩ = some (.slice none 0 0) := b3.cell 3
    have u3 : w3.frozen? ⟨z, 3, none⟩ = false := b3.free 3
    have HF := Lib.hid (drawnO_fin0 (n := 1) (OwnOt.leaf (w3.setCell ⟨z, 1, none⟩ (.string s)) (w.heap.size + 1) 10 0 s (Nat.le_trans hss (by unfold maxLen; decide))) (by simp only [szOt, szOts]; omega) (hc3.belowO ((Below.refl z w3).setCell (by simp) _) (by omega)) hpl (grown_setO hg3' (by omega) _ _))
    clear r3 b3
    go_wp2
    exact bodyPost_ret (v := .agg #[.int .i64 10, .string s, .int .i64 0, .slice none 0 0]) (by simp [results, Tryz.results59, go_sem, d0, d1, d2, d3]) rfl (HF.out _ _ _ _)
  by_cases h3 : x = 2
  · subst h3
    obtain ⟨hbW, rb, hsW⟩ := boxes1 w1 26 #[.int .i64 3, .string ⟨#[]⟩, .int .i64 0, .slice none 0 0]
    have hcW := hc1.belowO hbW hc1.lt
    have rW := r1.below hbW r1.lt
    have hgW := only_below hg1' hbW
    clear hbW hc1 r1 hg1'
    have hzp : p < w1.heap.size := by omega
    have hzr : w.heap.size < w1.heap.size := by omega
    have hrz : w.heap.size ≠ w1.heap.size := by omega
    have hzne : w1.heap.size ≠ w.heap.size := by omega
    generalize hz1 : w1.heap.size = z at *
    have HPK := Lib.hid (pickO2 p B _ _ hsW ⟨#[112]⟩ ⟨#[113]⟩ hcW)
    go_wp2_with fail
    generalize w1.alloc (.cells #[.int .i64 3, .string ⟨#[]⟩, .int .i64 0, .slice none 0 0] 26) = W at *
    refine HPK.out.mono ?_
    rintro e w3 ⟨⟨s, rfl, hs⟩, hc3, hg3a⟩
    have hg3 := only_trans (World.grownBy_alloc W _ _) hg3a
    clear hg3a
    have hss : s.size ≤ 1 := by
      simp at hs
      rcases hs with rfl | rfl <;> decide
    clear hs
    have b3 := rb.grownO hg3 (by omega)
    have r3 := rW.grownO hg3 (by omega)
    have hg3' := only_trans hgW hg3
    have d0 : w3.cell? ⟨w.heap.size, 0, none⟩ = some (.int .i64 0) := r3.cell 0
    have f0 : w3.frozen? ⟨w.heap.size, 0, none⟩ = false := r3.free 0
    have d1 : w3.cell? ⟨w.heap.size, 1, none⟩ = some (.string ⟨#[]⟩) := r3.cell 1
    have f1 : w3.frozen? ⟨w.heap.size, 1, none⟩ = false := r3.free 1
    have d2 : w3.cell? ⟨w.heap.size, 2, none⟩ = some (.int .i64 0) := r3.cell 2
    have f2 : w3.frozen? ⟨w.heap.size, 2, none⟩ = false := r3.free 2
    have d3 : w3.cell? ⟨w.heap.size, 3, none⟩ = some (.slice none 0 0) := r3.cell 3
    have f3 : w3.frozen? ⟨w.heap.size, 3, none⟩ = false := r3.free 3
    have q0 : w3.cell? ⟨z, 0, none⟩ = some (.int .i64 3) := b3.cell 0
    have u0 : w3.frozen? ⟨z, 0, none⟩ = false := b3.free 0
    have q1 : w3.cell? ⟨z, 1, none⟩ = some (.string ⟨#[]⟩) := b3.cell 1
    have u1 : w3.frozen? ⟨z, 1, none⟩ = false := b3.free 1
    have q2 : w3.cell? ⟨z, 2, none⟩ = some (.int .i64 0) := b3.cell 2
    have u2 : w3.frozen? ⟨z, 2, none⟩ = false := b3.free 2
    have q3 : w3.cell? ⟨z, 3, none⟩ = some (.slice none 0 0) := b3.cell 3
    have u3 : w3.frozen? ⟨z, 3, none⟩ = false := b3.free 3
    have HF := Lib.hid (drawnO_fin0 (n := 1) (OwnOt.leaf (w3.setCell ⟨z, 1, none⟩ (.string s)) (w.heap.size + 1) 3 0 s (Nat.le_trans hss (by unfold maxLen; decide))) (by simp only [szOt, szOts]; omega) (hc3.belowO ((Below.refl z w3).setCell (by simp) _) (by omega)) hpl (grown_setO hg3' (by omega) _ _))
    clear r3 b3
    go_wp2
    exact bodyPost_ret (v := .agg #[.int .i64 3, .string s, .int .i64 0, .slice none 0 0]) (by simp [results, Tryz.results59, go_sem, d0, d1, d2, d3]) rfl (HF.out _ _ _ _)
  by_cases h6 : x = 5
  · subst h6
    obtain ⟨hbW, rb, hsW⟩ := boxes1 w1 26 #[.int .i64 6, .string ⟨#[]⟩, .int .i64 0, .slice none 0 0]
    have hcW := hc1.belowO hbW hc1.lt
    have rW := r1.below hbW r1.lt
    have hgW := only_below hg1' hbW
    clear hbW hc1 r1 hg1'
    have hzp : p < w1.heap.size := by omega
    have hzr : w.heap.size < w1.heap.size := by omega
    have hrz : w.heap.size ≠ w1.heap.size := by omega
    have hzne : w1.heap.size ≠ w.heap.size := by omega
    generalize hz1 : w1.heap.size = z at *
    have HPK := Lib.hid (l1Below_any p B 3 _ hcW (by omega) (by omega))
    go_wp2_with fail
    generalize w1.alloc (.cells #[.int .i64 6, .string ⟨#[]⟩, .int .i64 0, .slice none 0 0] 26) = W at *
    refine HPK.out.mono ?_
    rintro e w3 ⟨⟨y, rfl, hy0, hy1⟩, hc3, hg3⟩
    have b3 := rb.grownO hg3 (by omega)
    have r3 := rW.grownO hg3 (by omega)
    have hg3' := only_trans hgW hg3
    have d0 : w3.cell? ⟨w.heap.size, 0, none⟩ = some (.int .i64 0) := r3.cell 0
    have f0 : w3.frozen? ⟨w.heap.size, 0, none⟩ = false := r3.free 0
    have d1 : w3.cell? ⟨w.heap.size, 1, none⟩ = some (.string ⟨#[]⟩) := r3.cell 1
    have f1 : w3.frozen? ⟨w.heap.size, 1, none⟩ = false := r3.free 1
    have d2 : w3.cell? ⟨w.heap.size, 2, none⟩ = some (.int .i64 0) := r3.cell 2
    have f2 : w3.frozen? ⟨w.heap.size, 2, none⟩ = false := r3.free 2
    have d3 : w3.cell? ⟨w.heap.size, 3, none⟩ = some (.slice none 0 0) := r3.cell 3
    have f3 : w3.frozen? ⟨w.heap.size, 3, none⟩ = false := r3.free 3
    have q0 : w3.cell? ⟨z, 0, none⟩ = some (.int .i64 6) := b3.cell 0
    have u0 : w3.frozen? ⟨z, 0, none⟩ = false := b3.free 0
    have q1 : w3.cell? ⟨z, 1, none⟩ = some (.string ⟨#[]⟩) := b3.cell 1
    have u1 : w3.frozen? ⟨z, 1, none⟩ = false := b3.free 1
    have q2 : w3.cell? ⟨z, 2, none⟩ = some (.int .i64 0) := b3.cell 2
    have u2 : w3.frozen? ⟨z, 2, none⟩ = false := b3.free 2
    have q3 : w3.cell? ⟨z, 3, none⟩ = some (.slice none 0 0) := b3.cell 3
    have u3 : w3.frozen? ⟨z, 3, none⟩ = false := b3.free 3
    have HF := Lib.hid (drawnO_fin0 (n := 1) (OwnOt.leaf (w3.setCell ⟨z, 2, none⟩ (.int .i64 (y))) (w.heap.size + 1) 6 (y) ⟨#[]⟩ (Nat.zero_le _)) (by simp [szOt, szOts, ByteArray.size]) (hc3.belowO ((Below.refl z w3).setCell (by simp) _) (by omega)) hpl (grown_setO hg3' (by omega) _ _))
    clear r3 b3
    go_wp2
    exact bodyPost_ret (v := .agg #[.int .i64 6, .string ⟨#[]⟩, .int .i64 (y), .slice none 0 0]) (by simp [results, Tryz.results59, go_sem, d0, d1, d2, d3]) rfl (HF.out _ _ _ _)
  by_cases h7 : x = 6
  · subst h7
    obtain ⟨hbW, rb, hsW⟩ := boxes1 w1 26 #[.int .i64 7, .string ⟨#[]⟩, .int .i64 0, .slice none 0 0]
    have hcW := hc1.belowO hbW hc1.lt
    have rW := r1.below hbW r1.lt
    have hgW := only_below hg1' hbW
    clear hbW hc1 r1 hg1'
    have hzp : p < w1.heap.size := by omega
    have hzr : w.heap.size < w1.heap.size := by omega
    have hrz : w.heap.size ≠ w1.heap.size := by omega
    have hzne : w1.heap.size ≠ w.heap.size := by omega
    generalize hz1 : w1.heap.size = z at *
    have HPK := Lib.hid (l1Below_any p B 7 _ hcW (by omega) (by omega))
    go_wp2_with fail
    generalize w1.alloc (.cells #[.int .i64 7, .string ⟨#[]⟩, .int .i64 0, .slice none 0 0] 26) = W at *
    refine HPK.out.mono ?_
    rintro e w3 ⟨⟨y, rfl, hy0, hy1⟩, hc3, hg3⟩
    have b3 := rb.grownO hg3 (by omega)
    have r3 := rW.grownO hg3 (by omega)
    have hg3' := only_trans hgW hg3
    have d0 : w3.cell? ⟨w.heap.size, 0, none⟩ = some (.int .i64 0) := r3.cell 0
    have f0 : w3.frozen? ⟨w.heap.size, 0, none⟩ = false := r3.free 0
    have d1 : w3.cell? ⟨w.heap.size, 1, none⟩ = some (.string ⟨#[]⟩) := r3.cell 1
    have f1 : w3.frozen? ⟨w.heap.size, 1, none⟩ = false := r3.free 1
    have d2 : w3.cell? ⟨w.heap.size, 2, none⟩ = some (.int .i64 0) := r3.cell 2
    have f2 : w3.frozen? ⟨w.heap.size, 2, none⟩ = false := r3.free 2
    have d3 : w3.cell? ⟨w.heap.size, 3, none⟩ = some (.slice none 0 0) := r3.cell 3
    have f3 : w3.frozen? ⟨w.heap.size, 3, none⟩ = false := r3.free 3
    have q0 : w3.cell? ⟨z, 0, none⟩ = some (.int .i64 7) := b3.cell 0
    have u0 : w3.frozen? ⟨z, 0, none⟩ = false := b3.free 0
    have q1 : w3.cell? ⟨z, 1, none⟩ = some (.string ⟨#[]⟩) := b3.cell 1
    have u1 : w3.frozen? ⟨z, 1, none⟩ = false := b3.free 1
    have q2 : w3.cell? ⟨z, 2, none⟩ = some (.int .i64 0) := b3.cell 2
    have u2 : w3.frozen? ⟨z, 2, none⟩ = false := b3.free 2
    have q3 : w3.cell? ⟨z, 3, none⟩ = some (.slice none 0 0) := b3.cell 3
    have u3 : w3.frozen? ⟨z, 3, none⟩ = false := b3.free 3
    have HF := Lib.hid (drawnO_fin0 (n := 1) (OwnOt.leaf (w3.setCell ⟨z, 2, none⟩ (.int .i64 (y - 3))) (w.heap.size + 1) 7 (y - 3) ⟨#[]⟩ (Nat.zero_le _)) (by simp [szOt, szOts, ByteArray.size]) (hc3.belowO ((Below.refl z w3).setCell (by simp) _) (by omega)) hpl (grown_setO hg3' (by omega) _ _))
    clear r3 b3
    go_wp2
    exact bodyPost_ret (v := .agg #[.int .i64 7, .string ⟨#[]⟩, .int .i64 (y - 3), .slice none 0 0]) (by simp [results, Tryz.results59, go_sem, d0, d1, d2, d3]) rfl (HF.out _ _ _ _)
  have e2 : ((1 + x) == 2) = false := by rw [beq_eq_false_iff_ne]; omega
  have e10 : ((1 + x) == 10) = false := by rw [beq_eq_false_iff_ne]; omega
  have e3 : ((1 + x) == 3) = false := by rw [beq_eq_false_iff_ne]; omega
  have e6 : ((1 + x) == 6) = false := by rw [beq_eq_false_iff_ne]; omega
  have e7 : ((1 + x) == 7) = false := by rw [beq_eq_false_iff_ne]; omega
  clear h2 h10 h3 h6 h7
  obtain ⟨hbW, rb, hsW⟩ := boxes1 w1 26 #[.int .i64 (1 + x), .string ⟨#[]⟩, .int .i64 0, .slice none 0 0]
  have hcW := hc1.belowO hbW hc1.lt
  have rW := r1.below hbW r1.lt
  have hgW := only_below hg1' hbW
  clear hbW hc1 r1 hg1'
  have hzp : p < w1.heap.size := by omega
  have hzr : w.heap.size < w1.heap.size := by omega
  have hrz : w.heap.size ≠ w1.heap.size := by omega
  have hzne : w1.heap.size ≠ w.heap.size := by omega
  generalize hz1 : w1.heap.size = z at *
  go_upto_region 12 with fail
  generalize w1.alloc (.cells #[.int .i64 (1 + x), .string ⟨#[]⟩, .int .i64 0, .slice none 0 0] 26) = W at *
  have d0 : W.cell? ⟨w.heap.size, 0, none⟩ = some (.int .i64 0) := rW.cell 0
  have f0 : W.frozen? ⟨w.heap.size, 0, none⟩ = false := rW.free 0
  have d1 : W.cell? ⟨w.heap.size, 1, none⟩ = some (.string ⟨#[]⟩) := rW.cell 1
  have f1 : W.frozen? ⟨w.heap.size, 1, none⟩ = false := rW.free 1
  have d2 : W.cell? ⟨w.heap.size, 2, none⟩ = some (.int .i64 0) := rW.cell 2
  have f2 : W.frozen? ⟨w.heap.size, 2, none⟩ = false := rW.free 2
  have d3 : W.cell? ⟨w.heap.size, 3, none⟩ = some (.slice none 0 0) := rW.cell 3
  have f3 : W.frozen? ⟨w.heap.size, 3, none⟩ = false := rW.free 3
  have q0 : W.cell? ⟨z, 0, none⟩ = some (.int .i64 (1 + x)) := rb.cell 0
  have u0 : W.frozen? ⟨z, 0, none⟩ = false := rb.free 0
  have q1 : W.cell? ⟨z, 1, none⟩ = some (.string ⟨#[]⟩) := rb.cell 1
  have u1 : W.frozen? ⟨z, 1, none⟩ = false := rb.free 1
  have q2 : W.cell? ⟨z, 2, none⟩ = some (.int .i64 0) := rb.cell 2
  have u2 : W.frozen? ⟨z, 2, none⟩ = false := rb.free 2
  have q3 : W.cell? ⟨z, 3, none⟩ = some (.slice none 0 0) := rb.cell 3
  have u3 : W.frozen? ⟨z, 3, none⟩ = false := rb.free 3
  have HF := Lib.hid (drawnO_fin0 (n := 1) (OwnOt.leaf W (w.heap.size + 1) (1 + x) 0 ⟨#[]⟩ (Nat.zero_le _)) (by simp [szOt, szOts, ByteArray.size]) hcW hpl hgW)
  go_wp2
  exact bodyPost_ret (v := .agg #[.int .i64 (1 + x), .string ⟨#[]⟩, .int .i64 0, .slice none 0 0]) (by simp [results, Tryz.results59, go_sem, d0, d1, d2, d3]) rfl (HF.out _ _ _ _)

end Go.Proofs.YtlmbnefoobameaaGreatDoor
end

section
namespace Go.Proofs.YtlmbnefoobameaaGreatDoor
set_option maxRecDepth 100000
open Go.RowKit
attribute [local go_sem ↓] Go.wp_at_zero Go.wp_at_succ

/-- What is drawn to a depth measures no more. -/
def anyB : Nat → Nat | 0 => 1 | d + 1 => 2 * (anyB d + 1)
theorem anyB_pos : ∀ d, 1 ≤ anyB d
  | 0 => Nat.le_refl _
  | d + 1 => by rw [anyB]; omega
def AnyOne (d : Nat) : Prop := ∀ (D : Int) (p B : Nat) (w : World), D = (d : Int) → d ≤ 4 → CurAt w B p → Calls Tryz.prog 28 #[.pointer (some ⟨p, 0, none⟩), .int .i64 D] w (DrawnOt w B p (anyB d))
theorem pickKinds (p B : Nat) (W : World) (n : Nat) (hn : W.heap.size = n) (h : CurAt W B p) :
    Calls Tryz.prog 30 #[.pointer (some ⟨p, 0, none⟩), .slice (some ⟨n, 0, none⟩) 4 4] (W.alloc (.cells #[.int .i64 11, .int .i64 12, .int .i64 12, .int .i64 13] 3)) (DrawnOf (W.alloc (.cells #[.int .i64 11, .int .i64 12, .int .i64 12, .int .i64 13] 3)) B p [11, 12, 12, 13]) := by
  subst hn
  exact l1PickInt_any p B 4 (some ⟨W.heap.size, 0, none⟩) [11, 12, 12, 13] _ (CurAt.allocO h _) (ints_newO W _ [11, 12, 12, 13]) (fun q b off e => by cases e; have := h.lt; omega) (by decide) (by decide)

set_option maxHeartbeats 1000000 in
theorem anyLeaf (d : Nat) (D : Int) (hD : D < 2) : ∀ (p B : Nat) (w : World), CurAt w B p → Calls Tryz.prog 28 #[.pointer (some ⟨p, 0, none⟩), .int .i64 D] w (DrawnOt w B p (anyB d)) := by
  intro p B w hc
  have hpl := hc.lt
  obtain ⟨hb0, rX, hs0⟩ := boxes1 w 26 #[.int .i64 0, .string ⟨#[]⟩, .int .i64 0, .slice none 0 0]
  have hcX : CurAt (w.alloc (.cells #[.int .i64 0, .string ⟨#[]⟩, .int .i64 0, .slice none 0 0] 26)) B p := hc.allocO _
  have hgX : w.grownBy (w.alloc (.cells #[.int .i64 0, .string ⟨#[]⟩, .int .i64 0, .slice none 0 0] 26)) (some p) := World.grownBy_alloc w _ _
  clear hc hb0
  go_enter Tryz.func28, Tryz.ntmps28
  have HLF := Lib.hid (fun W h => specLeafO_any p B W h)
  go_wp2_with fail
  refine (HLF.out _ hcX).mono ?_
  rintro e w3 ⟨⟨v, t, rfl, hO, hz⟩, hc3, hg3⟩
  obtain ⟨A2, c2, rfl⟩ := hO.open
  have r3 := rX.grownO hg3 (by omega)
  have hg3' := only_trans hgX hg3
  have hO3 := hO.base (base0 := w.heap.size + 1) (by omega)
  have d0 : w3.cell? ⟨w.heap.size, 0, none⟩ = some (.int .i64 0) := r3.cell 0
  have f0 : w3.frozen? ⟨w.heap.size, 0, none⟩ = false := r3.free 0
  have d1 : w3.cell? ⟨w.heap.size, 1, none⟩ = some (.string ⟨#[]⟩) := r3.cell 1
  have f1 : w3.frozen? ⟨w.heap.size, 1, none⟩ = false := r3.free 1
  have d2 : w3.cell? ⟨w.heap.size, 2, none⟩ = some (.int .i64 0) := r3.cell 2
  have f2 : w3.frozen? ⟨w.heap.size, 2, none⟩ = false := r3.free 2
  have d3 : w3.cell? ⟨w.heap.size, 3, none⟩ = some (.slice none 0 0) := r3.cell 3
  have f3 : w3.frozen? ⟨w.heap.size, 3, none⟩ = false := r3.free 3
  have HF := Lib.hid (drawnO_fin0 (n := anyB d) hO3 (Nat.le_trans hz (anyB_pos d)) hc3 hpl hg3')
  clear r3 hO hO3
  go_wp2
  exact bodyPost_ret (v := .agg #[.int .i64 t.kind, .string t.name, .int .i64 t.num, .slice A2 t.args.length c2]) (by simp [results, Tryz.results28, go_sem, d0, d1, d2, d3]) rfl (HF.out _ _ _ _)

set_option maxHeartbeats 8000000 in
theorem anyNode (d : Nat) (D : Int) (hD : 2 ≤ D) (hD4 : D ≤ 4) (hIH : ∀ (p B : Nat) (W : World), CurAt W B p → Calls Tryz.prog 28 #[.pointer (some ⟨p, 0, none⟩), .int .i64 (D - 1)] W (DrawnOt W B p (anyB d))) : ∀ (p B : Nat) (w : World), CurAt w B p → Calls Tryz.prog 28 #[.pointer (some ⟨p, 0, none⟩), .int .i64 D] w (DrawnOt w B p (anyB (d + 1))) := by
  intro p B w hc
  have hpl := hc.lt
  have HIH := Lib.hid hIH
  have hwr : IntKind.i64.wrap (D - 1) = D - 1 := by rw [IntKind.wrap_i64]; omega
  obtain ⟨hb0, r0, hs0⟩ := boxes1 w 26 #[.int .i64 0, .string ⟨#[]⟩, .int .i64 0, .slice none 0 0]
  have hc0 : CurAt (w.alloc (.cells #[.int .i64 0, .string ⟨#[]⟩, .int .i64 0, .slice none 0 0] 26)) B p := hc.allocO _
  have hg0 : w.grownBy (w.alloc (.cells #[.int .i64 0, .string ⟨#[]⟩, .int .i64 0, .slice none 0 0] 26)) (some p) := World.grownBy_alloc w _ _
  have HON := Lib.hid (fun W h => l1Once_any p B 3 W h (by omega) (by omega))
  clear hc hb0 hIH
  go_enter Tryz.func28, Tryz.ntmps28
  go_wp2_with fail
  refine (HON.out _ hc0).mono ?_
  rintro e w1 ⟨⟨b, rfl⟩, hcX, hg1⟩
  have rX := r0.grownO hg1 (by omega)
  have hgX := only_trans hg0 hg1
  have hs1 := hg1.size
  rw [hs0] at hs1
  clear r0 hg0 hg1 hc0 hs0
  cases b with
  | true =>
    have HLF := Lib.hid (fun W h => specLeafO_any p B W h)
    go_wp2_with fail
    refine (HLF.out _ hcX).mono ?_
    rintro e w3 ⟨⟨v, t, rfl, hO, hz⟩, hc3, hg3⟩
    obtain ⟨A2, c2, rfl⟩ := hO.open
    have r3 := rX.grownO hg3 (by omega)
    have hg3' := only_trans hgX hg3
    have hO3 := hO.base (base0 := w.heap.size + 1) (by omega)
    have d0 : w3.cell? ⟨w.heap.size, 0, none⟩ = some (.int .i64 0) := r3.cell 0
    have f0 : w3.frozen? ⟨w.heap.size, 0, none⟩ = false := r3.free 0
    have d1 : w3.cell? ⟨w.heap.size, 1, none⟩ = some (.string ⟨#[]⟩) := r3.cell 1
    have f1 : w3.frozen? ⟨w.heap.size, 1, none⟩ = false := r3.free 1
    have d2 : w3.cell? ⟨w.heap.size, 2, none⟩ = some (.int .i64 0) := r3.cell 2
    have f2 : w3.frozen? ⟨w.heap.size, 2, none⟩ = false := r3.free 2
    have d3 : w3.cell? ⟨w.heap.size, 3, none⟩ = some (.slice none 0 0) := r3.cell 3
    have f3 : w3.frozen? ⟨w.heap.size, 3, none⟩ = false := r3.free 3
    have HF := Lib.hid (drawnO_fin0 (n := anyB (d + 1)) hO3 (Nat.le_trans hz (anyB_pos (d + 1))) hc3 hpl hg3')
    clear r3 hO hO3
    go_wp2
    exact bodyPost_ret (v := .agg #[.int .i64 t.kind, .string t.name, .int .i64 t.num, .slice A2 t.args.length c2]) (by simp [results, Tryz.results28, go_sem, d0, d1, d2, d3]) rfl (HF.out _ _ _ _)
  | false =>
    have HPK := Lib.hid (pickKinds p B w1 w1.heap.size rfl hcX)
    go_wp2_with fail
    refine HPK.out.mono ?_
    rintro e w2 ⟨⟨κ, rfl, hκ⟩, hc2, hg2a⟩
    have hg2 := only_trans (World.grownBy_alloc w1 _ _) hg2a
    have hs2 := hg2.size
    have hr2 := rX.grownO hg2 (by omega)
    have hgg2 := only_trans hgX hg2
    have hm0 : ∃ m : Nat, arityI κ = (m : Int) ∧ m ≤ 2 := by
      simp at hκ
      rcases hκ with rfl | rfl | rfl
      · exact ⟨1, rfl, by omega⟩
      · exact ⟨2, rfl, by omega⟩
      · exact ⟨2, rfl, by omega⟩
    obtain ⟨m, hm, hm2⟩ := hm0
    have HAR : Hid (∀ W, Calls Tryz.prog 49 #[.int .i64 κ] W fun e w' => e = .returned (.int .i64 (m : Int)) ∧ W = w') := Lib.hid (fun W => by have := specArity_any κ W; rw [hm] at this; exact this)
    obtain ⟨hbW, o0, hsW⟩ := boxes1 w2 26 #[.int .i64 κ, .string ⟨#[]⟩, .int .i64 0, .slice none 0 0]
    have hcW := hc2.belowO hbW hc2.lt
    have rW := hr2.below hbW hr2.lt
    have hgW := only_below hgg2 hbW
    clear hbW hc2 hr2 hgg2 hg2 hg2a HPK rX hgX hcX hm hκ
    go_wp2_with fail
    generalize w2.alloc (.cells #[.int .i64 κ, .string ⟨#[]⟩, .int .i64 0, .slice none 0 0] 26) = wc at *
    generalize hz1 : w2.heap.size = po at *
    refine (HAR.out _).mono ?_
    rintro e w3 ⟨rfl, rfl⟩
    have hol : po < wc.heap.size := o0.lt
    have hrl : w.heap.size < wc.heap.size := by omega
    have HGC := Lib.hid hgW
    obtain ⟨i1, hi1, hy0, hy1, hy2⟩ := info_parts infoOptic
    clear hgW
    go_wp2
    go_loopw [7] (fun i wr => ∃ (k c2 : Nat) (A2 : Option Addr) (us : List Ot), k = us.length ∧ k ≤ m ∧ i = .int .i64 k ∧ szOts us ≤ k * (anyB d + 1) ∧ Whole1 wr po 26 #[.int .i64 κ, .string ⟨#[]⟩, .int .i64 0, .slice A2 k c2] ∧ OGather wr wc.heap.size (.slice A2 k c2) k us ∧ (∀ q, q < wc.heap.size → q ≠ po → q ≠ p → wr.heap[q]? = wc.heap[q]?) ∧ CurAt wr B p ∧ w.grownBy wr (some p) ∧ wc.heap.size ≤ wr.heap.size) (fun i _ => m - (intOf i).toNat)
    case atStart => exact ⟨0, 0, none, [], rfl, Nat.zero_le _, rfl, by simp [szOts], o0, OGather.start _ _ _, fun _ _ _ _ => rfl, hcW, HGC.out, Nat.le_refl _⟩
    case round =>
      obtain ⟨k, c2, A2, us, hul, hk, rfl, hszu, ho, hga, hold, hcr, hb, hsz1⟩ := hrel
      have HOLD := Lib.hid hold
      have HSZU := Lib.hid hszu
      have HCR := Lib.hid hcr
      have HB9 := Lib.hid hb
      have hpr : p < wr.heap.size := hcr.lt
      have HUL := Lib.hid hul
      clear hold hszu hcr hb hul
      by_cases hlt : k < m
      · have hltI : (k : Int) < (m : Int) := by omega
        obtain ⟨xs, vs, lo, hi', hG⟩ := hga
        have HT := Lib.hid (HIH.out p B wr.drew (HCR.out.belowO ((Below.refl _ wr).drew) hpr))
        have HG := Lib.hid hG
        have HO := Lib.hid ho
        have o2 : wr.cell? ⟨po, 3, none⟩ = some (.slice A2 k c2) := ho.cell 3
        have f2 : wr.frozen? ⟨po, 3, none⟩ = false := ho.free 3
        have how : po < wr.heap.size := by omega
        have HOWN := Lib.hid hG.own
        clear hG ho
        go_wp2
        go_region_law (first
          | (go_simp; go_at_call 28; refine HT.out.mono ?_; rintro e w1 ⟨⟨v1, u, rfl, ho1, hz1⟩, hc1, hg1⟩; have hg1' : wr.grownBy w1 (some p) := ⟨hg1.os, hg1.tape, hg1.output, hg1.size, hg1.block⟩; have HC1 := Lib.hid hc1; have HT1 := Lib.hid ho1.owned; obtain ⟨T2, U2, rfl⟩ := ho1.open; clear ho1 hc1; have hs1 := hg1'.size; have y1 := HO.out.grownO hg1' (by omega); have y2 : w1.cell? ⟨po, 3, none⟩ = some (.slice A2 k c2) := y1.cell 3; have y4 := y1.below ((Below.refl w1.heap.size w1).alloc (Nat.le_refl _) (.cells #[.int .i64 u.kind, .string u.name, .int .i64 u.num, .slice T2 u.args.length U2] 26)) y1.lt; have y3 : (w1.alloc (.cells #[.int .i64 u.kind, .string u.name, .int .i64 u.num, .slice T2 u.args.length U2] 26)).cell? ⟨po, 3, none⟩ = some (.slice A2 k c2) := y4.cell 3; clear y1 y4; have hown2 := World.ownsRow.alloc (own_keep4o HOWN.out (fun g hg => hg1'.block g (HOWN.out.lt g hg).2 (fun e => by cases e; have := (HOWN.out.lt p hg).1; omega))) (.cells #[.int .i64 u.kind, .string u.name, .int .i64 u.num, .slice T2 u.args.length U2] 26); have hnews := newsO w1 26 (.int .i64 u.kind) (.string u.name) (.int .i64 u.num) (.slice T2 u.args.length U2))
          | (refine step_append_lies _ (by rfl) (.tmp 29) (.tmp 34) _ (by rfl) wc.heap.size 26 i1 (.agg #[.int .i64 0, .string ⟨#[]⟩, .int .i64 0, .slice none 0 0]) 4 56 Tryz.underlying24 hi1 hy0 hy1 hy2 rfl (by decide) _ k xs (by rfl) hown2 ⟨w1.heap.size, 0, none⟩ 1 1 [.int .i64 u.kind, .string u.name, .int .i64 u.num, .slice T2 u.args.length U2] (by rfl) rfl hnews.1 hnews.2 (by omega) (by unfold maxLen; omega) (by omega) (by simp; omega) (w1.heap.size + 1) (by simp) ?_; intro g cap w3 hown3 hg3 hat3 hlt3; have hvb := fun q (hq : (Value.slice A2 k c2).ownBlock = some q) => (HOWN.out.lt q hq).1; have ho3 : Whole1 w3 po 26 #[.int .i64 κ, .string ⟨#[]⟩, .int .i64 0, .slice A2 k c2] := ((hg3.block po (by simp; omega) (fun e => by have := hvb po e.symm; omega)).trans (Below.heap_alloc _ _ _ (by omega))).trans (HO.out.grownO hg1' (by omega)); have m2 : w3.cell? ⟨po, 3, none⟩ = some (.slice A2 k c2) := ho3.cell 3; have n2 : w3.frozen? ⟨po, 3, none⟩ = false := ho3.free 3))
        all_goals
          go_wp2
          go_roundw
          case rel => exact ⟨k + 1, cap, some ⟨g, 0, none⟩, us ++ [u], by simp [HUL.out], by omega, by go_num, (by rw [szOts_append, szOts, szOts, Nat.add_mul]; have := HSZU.out; omega), odraw_rel HUL.out hol (by omega) hpl hsz1 HG.out hg1' HC1.out HT1.out hown3 hg3 hat3 ho3 HOLD.out HB9.out⟩
          case measure => simp [intOf]; omega
      · have hke : k = m := by omega
        subst hke
        have hul := HUL.out
        have hltI : ¬ ((k : Nat) : Int) < (k : Int) := by omega
        have r3 : Whole1 wr w.heap.size 26 #[.int .i64 0, .string ⟨#[]⟩, .int .i64 0, .slice none 0 0] := (HOLD.out _ hrl (by omega) (by omega)).trans rW
        have o0 : wr.cell? ⟨po, 0, none⟩ = some (.int .i64 κ) := ho.cell 0
        have g0 : wr.frozen? ⟨po, 0, none⟩ = false := ho.free 0
        have o1 : wr.cell? ⟨po, 1, none⟩ = some (.string ⟨#[]⟩) := ho.cell 1
        have g1 : wr.frozen? ⟨po, 1, none⟩ = false := ho.free 1
        have o2 : wr.cell? ⟨po, 2, none⟩ = some (.int .i64 0) := ho.cell 2
        have g2 : wr.frozen? ⟨po, 2, none⟩ = false := ho.free 2
        have o3 : wr.cell? ⟨po, 3, none⟩ = some (.slice A2 k c2) := ho.cell 3
        have g3 : wr.frozen? ⟨po, 3, none⟩ = false := ho.free 3
        have d0 : wr.cell? ⟨w.heap.size, 0, none⟩ = some (.int .i64 0) := r3.cell 0
        have f0 : wr.frozen? ⟨w.heap.size, 0, none⟩ = false := r3.free 0
        have d1 : wr.cell? ⟨w.heap.size, 1, none⟩ = some (.string ⟨#[]⟩) := r3.cell 1
        have f1 : wr.frozen? ⟨w.heap.size, 1, none⟩ = false := r3.free 1
        have d2 : wr.cell? ⟨w.heap.size, 2, none⟩ = some (.int .i64 0) := r3.cell 2
        have f2 : wr.frozen? ⟨w.heap.size, 2, none⟩ = false := r3.free 2
        have d3 : wr.cell? ⟨w.heap.size, 3, none⟩ = some (.slice none 0 0) := r3.cell 3
        have f3 : wr.frozen? ⟨w.heap.size, 3, none⟩ = false := r3.free 3
        have hown : OwnOt wr (w.heap.size + 1) (.agg #[.int .i64 κ, .string ⟨#[]⟩, .int .i64 0, .slice A2 k c2]) (.mk κ 0 ⟨#[]⟩ us) := by
          obtain ⟨xs, vs, lo, hi', hG⟩ := hga
          exact OwnOt.of (t := .mk κ 0 ⟨#[]⟩ us) (Nat.zero_le _) (by simp only [Ot.args]; unfold maxLen; omega) hul.symm ⟨xs, vs, lo, hi', hG.base (by omega)⟩
        have hszt : szOt (.mk κ 0 ⟨#[]⟩ us) ≤ anyB (d + 1) := by
          rw [szOt, anyB]
          have h1 := HSZU.out
          have h0 : (⟨#[]⟩ : ByteArray).size = 0 := rfl
          have h2 : k * (anyB d + 1) ≤ 2 * (anyB d + 1) := Nat.mul_le_mul_right _ hm2
          omega
        have HF := Lib.hid (drawnO_fin0 (n := anyB (d + 1)) hown hszt HCR.out hpl HB9.out)
        clear ho hga r3 hown hszt
        go_wp2
        exact bodyPost_ret (v := .agg #[.int .i64 κ, .string ⟨#[]⟩, .int .i64 0, .slice A2 k c2]) (by simp [results, Tryz.results28, go_sem, d0, d1, d2, d3]; exact HUL.out.symm) rfl (HF.out _ _ _ _)

theorem specAnyO_any : ∀ d, AnyOne d
  | 0 => fun D p B w hD h4 hc => anyLeaf 0 D (by omega) p B w hc
  | d + 1 => fun D p B w hD h4 hc => by
    by_cases h2 : D < 2
    · exact anyLeaf (d + 1) D h2 p B w hc
    · exact anyNode d D (by omega) (by omega) (fun p B W h => specAnyO_any d (D - 1) p B W (by omega) (by omega) h) p B w hc

end Go.Proofs.YtlmbnefoobameaaGreatDoor
end
