/- spec.l3Labels, spec.l3Form, spec.IsValidType. -/
import Derived.Test.YthdfidhijmcbdaaSpecTy2
import Derived.Test.YthdfidhijmcbdaaSpecNames
import Derived.Test.YthdfidhijmcbdaaEqTy
import Derived.Deep.RegionHeld3

namespace Go.Proofs.Ythdfidhijmcbdaa
open Go.RowKit

/-- A bool is handed back; what was there stands. -/
def BoolIs (b : Bool) (w : World) (e : Ending) (w' : World) : Prop := e = .returned (.bool b) ∧ Below w.heap.size w w'

theorem l1In_yes (x lo hi : Int) (w : World) (h1 : lo ≤ x) (h2 : x ≤ hi) : Calls Try.prog 22 #[.int .i64 x, .int .i64 lo, .int .i64 hi] w fun e w' => e = .returned (.bool true) ∧ w = w' := by
  go_enter Try.func22, Try.ntmps22
  go_wp2
  go_ret
  exact ⟨rfl, rfl⟩
theorem l1In_no (x lo hi : Int) (w : World) (h : x < lo ∨ hi < x) : Calls Try.prog 22 #[.int .i64 x, .int .i64 lo, .int .i64 hi] w fun e w' => e = .returned (.bool false) ∧ w = w' := by
  by_cases h1 : lo ≤ x
  · have h2 : ¬ x ≤ hi := by omega
    clear h
    go_enter Try.func22, Try.ntmps22
    go_wp2
    go_ret
    exact ⟨rfl, rfl⟩
  · clear h
    go_enter Try.func22, Try.ntmps22
    go_wp2
    go_ret
    exact ⟨rfl, rfl⟩

/-- Can they be the labels of a record or a sum? -/
def labelsB (ls : List ByteArray) : Bool := ls.all isNameB && (decide (1 ≤ ls.length) && decide (ls.length ≤ 4)) && ascB ls
theorem labelsB_no (ls : List ByteArray) (k : Nat) (h : k < ls.length) (hn : isNameB ls[k] = false) : labelsB ls = false := by
  have : ls.all isNameB = false := by
    rw [List.all_eq_false]
    exact ⟨_, List.getElem_mem h, by rw [hn]; simp⟩
  unfold labelsB
  rw [this]
  rfl
theorem labelsB_all (ls : List ByteArray) (h : ∀ k, (hk : k < ls.length) → isNameB ls[k] = true) : labelsB ls = ((decide (1 ≤ ls.length) && decide (ls.length ≤ 4)) && ascB ls) := by
  have : ls.all isNameB = true := by
    rw [List.all_eq_true]
    intro x hx
    obtain ⟨i, hi, rfl⟩ := List.getElem_of_mem hx
    exact h i hi
  unfold labelsB
  rw [this, Bool.true_and]

/-- Has a node of this kind these labels and so many parts? -/
def nodeB (k : Int) (ls : List ByteArray) (m : Nat) : Bool :=
  if k = 1 ∨ k = 2 then decide (ls.length = 0) && decide (m = 0) else if k = 3 ∨ k = 4 then decide (m = ls.length) && labelsB ls else if k = 5 then decide (ls.length = 0) && decide (m = 1) else false
mutual
/-- Has every node one of the forms? -/
def formTy : Ty → Bool | .mk k ls ts => formTys ts && nodeB k ls ts.length
def formTys : List Ty → Bool | [] => true | t :: r => formTy t && formTys r
end
theorem formTys_all : ∀ (ts : List Ty), (∀ i, (h : i < ts.length) → formTy ts[i] = true) → formTys ts = true
  | [], _ => by rw [formTys]
  | t :: r, h => by
    rw [formTys, show formTy t = true from h 0 (by simp), formTys_all r fun i hi => h (i + 1) (by simpa using hi)]
    rfl
theorem formTys_no : ∀ (ts : List Ty) (i : Nat) (h : i < ts.length), formTy ts[i] = false → formTys ts = false
  | [], i, h, _ => absurd h (by simp)
  | t :: r, 0, _, e => by
    rw [formTys]
    have : formTy t = false := e
    rw [this]
    rfl
  | t :: r, i + 1, h, e => by
    rw [formTys, formTys_no r i (by simpa using h) (by simpa using e), Bool.and_false]

def FormOne (f : Nat) (t : Ty) : Prop := ∀ (v : Value) (w : World), TyAt w w.heap.size v t → szTy t ≤ 1048576 → Calls Try.prog f #[v] w (BoolIs (formTy t) w)

end Go.Proofs.Ythdfidhijmcbdaa

namespace Go.Proofs.Ythdfidhijmcbdaa
open Go.RowKit

/-- The same strings? -/
def textsB (a b : List ByteArray) : Bool := decide (a = b)
theorem textsB_len (a b : List ByteArray) (h : a.length ≠ b.length) : textsB a b = false := by
  unfold textsB
  simp
  exact fun e => h (by rw [e])
theorem textsB_no (a b : List ByteArray) (k : Nat) (h1 : k < a.length) (h2 : k < b.length) (h : a[k] ≠ b[k]) : textsB a b = false := by
  unfold textsB
  simp
  intro e
  subst e
  exact h rfl
theorem textsB_yes (a b : List ByteArray) (hl : a.length = b.length) (h : ∀ k, (h1 : k < a.length) → (h2 : k < b.length) → a[k] = b[k]) : textsB a b = true := by
  unfold textsB
  simp
  exact List.ext_getElem hl h

/-- The same tree? -/
noncomputable def eqTyB (a b : Ty) : Bool := @decide (a = b) (Classical.propDecidable _)
theorem eqTyB_yes {a b : Ty} (h : a = b) : eqTyB a b = true := by unfold eqTyB; simp [h]
theorem eqTyB_no {a b : Ty} (h : a ≠ b) : eqTyB a b = false := by unfold eqTyB; simp [h]
theorem Ty.ext {a b : Ty} (h1 : a.kind = b.kind) (h2 : a.labels = b.labels) (h3 : a.args = b.args) : a = b := by
  cases a; cases b
  simp only [Ty.kind, Ty.labels, Ty.args] at h1 h2 h3
  rw [h1, h2, h3]

def EqualOne (f : Nat) (t : Ty) : Prop := ∀ (t' : Ty) (v v' : Value) (w : World), TyAt w w.heap.size v t → TyAt w w.heap.size v' t' → Calls Try.prog f #[v, v'] w (BoolIs (eqTyB t t') w)

end Go.Proofs.Ythdfidhijmcbdaa

namespace Go.Proofs.Ythdfidhijmcbdaa
open Go.RowKit

/-- Is it a valid type? -/
def validB (t : Ty) : Bool := decide (sizeTy t ≤ 30) && decide (depthTy t ≤ 8) && formTy t

/-- A valid record type of equal parts? -/
noncomputable def uniformB (t : Ty) : Bool := validB t && decide (t.kind = 3) && (match t.args with | [] => true | a :: r => r.all fun b => eqTyB a b)
theorem uniform_no (t : Ty) (k : Nat) (h0 : 0 < t.args.length) (h : k < t.args.length) (hk : 1 ≤ k) (hne : t.args[0] ≠ t.args[k]) : uniformB t = false := by
  unfold uniformB
  cases ha : t.args with
  | nil => rw [ha] at h; simp at h
  | cons a r =>
    have h' : k - 1 < r.length := by rw [ha] at h; simp at h; omega
    have e1 : t.args[0] = a := by simp [ha]
    have e2 : t.args[k] = r[k - 1] := by
      have : t.args[k]? = r[k - 1]? := by
        rw [ha]
        cases k with
        | zero => omega
        | succ k => simp
      rw [List.getElem?_eq_getElem h, List.getElem?_eq_getElem h'] at this
      exact Option.some.inj this
    rw [e1, e2] at hne
    have : (r.all fun b => eqTyB a b) = false := by
      rw [List.all_eq_false]
      exact ⟨_, List.getElem_mem h', by rw [eqTyB_no hne]; simp⟩
    simp [this]
theorem uniform_yes (t : Ty) (hv : validB t = true) (hk : t.kind = 3) (h : ∀ k, (hk : k < t.args.length) → 1 ≤ k → t.args[0]'(by omega) = t.args[k]) : uniformB t = true := by
  unfold uniformB
  rw [hv]
  cases ha : t.args with
  | nil => simp [hk]
  | cons a r =>
    have : (r.all fun b => eqTyB a b) = true := by
      rw [List.all_eq_true]
      intro b hb
      obtain ⟨i, hi, rfl⟩ := List.getElem_of_mem hb
      have := h (i + 1) (by rw [ha]; simpa using hi) (by omega)
      apply eqTyB_yes
      simpa [ha] using this
    simp [hk, this]

end Go.Proofs.Ythdfidhijmcbdaa
