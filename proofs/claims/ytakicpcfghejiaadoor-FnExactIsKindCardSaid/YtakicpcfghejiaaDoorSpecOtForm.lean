/- spec.ArityOf, spec.l7Form, spec.IsOptic. -/
import Derived.Test.YtakicpcfghejiaaDoorSpecOt
import Derived.Test.YtakicpcfghejiaaDoorSpecTy5
import Derived.Deep.QuietTactic
import Derived.BigQuiet
import Derived.Test.YtakicpcfghejiaaDoorEqTy
namespace Go.Proofs.YtakicpcfghejiaaDoor
open Go.RowKit

theorem osize_nil {nm : ByteArray} (h : nm.size = 0) : nm = ⟨#[]⟩ := by
  obtain ⟨⟨l⟩⟩ := nm
  have : l = [] := List.length_eq_zero_iff.1 h
  rw [this]
theorem otoList_nil_no {nm : ByteArray} (h : nm.size ≠ 0) : (nm.toList == []) = false := by
  rw [ByteArray.toList_eq]
  obtain ⟨⟨l⟩⟩ := nm
  cases l with
  | nil => exact absurd rfl h
  | cons x r => rfl
theorem isNameB_pos (s : ByteArray) (h : isNameB s = true) : s.size ≠ 0 := by
  unfold isNameB at h
  simp only [Bool.and_eq_true, decide_eq_true_eq] at h
  omega
/-- How many parts a kind has; -1 for no kind. -/
def arityI (k : Int) : Int := if k = 11 then 1 else if k = 12 ∨ k = 13 then 2 else if 1 ≤ k ∧ k ≤ 10 then 0 else -1
/-- The number that fits a kind. -/
def numOB (k n : Int) : Bool := if k = 6 then decide (0 ≤ n ∧ n ≤ 1000) else if k = 7 then decide (-1000 ≤ n ∧ n ≤ 1000) else decide (n = 0)
/-- Has a node of this kind this name, this number and so many parts? -/
def nodeOB (k n : Int) (nm : ByteArray) (m : Nat) : Bool :=
  (if k = 2 ∨ k = 3 ∨ k = 10 then isNameB nm else decide (nm.size = 0)) && decide ((m : Int) = arityI k) && numOB k n
mutual
/-- Has every node one of the forms? -/
def formOt : Ot → Bool | .mk k n nm ts => formOts ts && nodeOB k n nm ts.length
def formOts : List Ot → Bool | [] => true | t :: r => formOt t && formOts r
end
theorem formOts_all : ∀ (ts : List Ot), (∀ i, (h : i < ts.length) → formOt ts[i] = true) → formOts ts = true
  | [], _ => by rw [formOts]
  | t :: r, h => by
    rw [formOts, show formOt t = true from h 0 (by simp), formOts_all r fun i hi => h (i + 1) (by simpa using hi)]
    rfl
theorem formOts_no : ∀ (ts : List Ot) (i : Nat) (h : i < ts.length), formOt ts[i] = false → formOts ts = false
  | [], i, h, _ => absurd h (by simp)
  | t :: r, 0, _, e => by
    rw [formOts]
    have : formOt t = false := e
    rw [this]
    rfl
  | t :: r, i + 1, h, e => by
    rw [formOts, formOts_no r i (by simpa using h) (by simpa using e), Bool.and_false]
theorem formOts_at : ∀ (ts : List Ot), formOts ts = true → ∀ i, (h : i < ts.length) → formOt ts[i] = true := by
  intro ts h i hi
  cases hf : formOt ts[i] with
  | true => rfl
  | false => rw [formOts_no ts i hi hf] at h; cases h
theorem formOt_eq (t : Ot) : formOt t = (formOts t.args && nodeOB t.kind t.num t.name t.args.length) := by
  cases t
  rw [formOt]
  rfl

def FormOOne (f : Nat) (t : Ot) : Prop := ∀ (v : Value) (w : World), OtAt w w.heap.size v t → szOt t ≤ 1048576 → Calls Tryd.prog f #[v] w (BoolIs (formOt t) w)

/-- Is it an optic? -/
def opticB (t : Ot) : Bool := decide (sizeOt t ≤ 20) && decide (depthOt t ≤ 10) && formOt t

end Go.Proofs.YtakicpcfghejiaaDoor
