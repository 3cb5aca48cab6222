/- spec.l5Form, spec.IsValue. -/
import Derived.Test.YtinkanbaiflhdaaSpecVa
import Derived.Test.YtinkanbaiflhdaaSpecTy5
namespace Go.Proofs.Ytinkanbaiflhdaa
open Go.RowKit

theorem isNameB_size (s : ByteArray) (h : isNameB s = true) : 1 ≤ s.size ∧ s.size ≤ 4 := by
  unfold isNameB at h
  simp only [Bool.and_eq_true, decide_eq_true_eq] at h
  exact ⟨h.1.2, h.2⟩

theorem size_nil {nm : ByteArray} (h : nm.size = 0) : nm = ⟨#[]⟩ := by
  obtain ⟨⟨l⟩⟩ := nm
  have : l = [] := List.length_eq_zero_iff.1 h
  rw [this]
theorem toList_nil_no {nm : ByteArray} (h : nm.size ≠ 0) : (nm.toList == []) = false := by
  rw [ByteArray.toList_eq]
  obtain ⟨⟨l⟩⟩ := nm
  cases l with
  | nil => exact absurd rfl h
  | cons x r => rfl
/-- Has a node of this kind this number, this name, these labels and so many parts? -/
def nodeVB (k n : Int) (nm : ByteArray) (ls : List ByteArray) (m : Nat) : Bool :=
  if k = 1 then decide (nm.size = 0) && decide (ls.length = 0) && decide (m = 0)
  else if k = 2 then decide (nm.size = 0) && decide (ls.length = 0) && decide (m = 0) && decide (0 ≤ n ∧ n ≤ 1)
  else if k = 3 then decide (nm.size = 0) && decide (n = 0) && decide (m = ls.length) && labelsB ls
  else if k = 4 then isNameB nm && decide (ls.length = 0) && decide (n = 0) && decide (m = 1)
  else if k = 5 then decide (nm.size = 0) && decide (ls.length = 0) && decide (n = 0)
  else false
theorem nodeVB_name (k n : Int) (nm : ByteArray) (ls : List ByteArray) (m : Nat) (h : nm.size ≠ 0) (hk : k ≠ 4) : nodeVB k n nm ls m = false := by
  unfold nodeVB
  simp [h, hk]
theorem nodeVB_labels (k n : Int) (nm : ByteArray) (ls : List ByteArray) (m : Nat) (h : ls.length ≠ 0) (hk : k ≠ 3) : nodeVB k n nm ls m = false := by
  unfold nodeVB
  simp only [h, hk, if_false, decide_false, Bool.and_false, Bool.false_and]
  simp
theorem nodeVB_noname (k n : Int) (nm : ByteArray) (ls : List ByteArray) (m : Nat) (h : isNameB nm = false) (hk : k = 4) : nodeVB k n nm ls m = false := by
  unfold nodeVB
  subst hk
  simp [h]
theorem nodeVB_other (k n : Int) (nm : ByteArray) (ls : List ByteArray) (m : Nat) (h1 : k ≠ 1) (h2 : k ≠ 2) (h3 : k ≠ 3) (h4 : k ≠ 4) (h5 : k ≠ 5) : nodeVB k n nm ls m = false := by
  unfold nodeVB
  rw [if_neg h1, if_neg h2, if_neg h3, if_neg h4, if_neg h5]
mutual
/-- Has every node one of the forms? -/
def formVa : Va → Bool | .mk k n nm ls ts => formVas ts && nodeVB k n nm ls ts.length
def formVas : List Va → Bool | [] => true | t :: r => formVa t && formVas r
end
theorem formVas_all : ∀ (ts : List Va), (∀ i, (h : i < ts.length) → formVa ts[i] = true) → formVas ts = true
  | [], _ => by rw [formVas]
  | t :: r, h => by
    rw [formVas, show formVa t = true from h 0 (by simp), formVas_all r fun i hi => h (i + 1) (by simpa using hi)]
    rfl
theorem formVas_no : ∀ (ts : List Va) (i : Nat) (h : i < ts.length), formVa ts[i] = false → formVas ts = false
  | [], i, h, _ => absurd h (by simp)
  | t :: r, 0, _, e => by
    rw [formVas]
    have : formVa t = false := e
    rw [this]
    rfl
  | t :: r, i + 1, h, e => by
    rw [formVas, formVas_no r i (by simpa using h) (by simpa using e), Bool.and_false]
theorem formVas_at : ∀ (ts : List Va), formVas ts = true → ∀ i, (h : i < ts.length) → formVa ts[i] = true := by
  intro ts h i hi
  cases hf : formVa ts[i] with
  | true => rfl
  | false => rw [formVas_no ts i hi hf] at h; cases h
theorem formVa_eq (t : Va) : formVa t = (formVas t.args && nodeVB t.kind t.num t.name t.labels t.args.length) := by
  cases t
  rw [formVa]
  rfl

def FormVOne (f : Nat) (t : Va) : Prop := ∀ (v : Value) (w : World), VaAt w w.heap.size v t → szVa t ≤ 1048576 → Calls Try.prog f #[v] w (BoolIs (formVa t) w)

/-- Is it a value? -/
def valueB (t : Va) : Bool := decide (sizeVa t ≤ 300) && formVa t

end Go.Proofs.Ytinkanbaiflhdaa
