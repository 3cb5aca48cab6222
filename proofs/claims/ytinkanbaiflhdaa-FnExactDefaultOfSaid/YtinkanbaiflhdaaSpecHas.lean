/- spec.l5Has, spec.HasType. -/
import Derived.Test.YtinkanbaiflhdaaSpecVaForm
import Derived.Test.YtinkanbaiflhdaaSpecTy5
import Derived.Test.YtinkanbaiflhdaaSpecNames
import Derived.Deep.RegionHeld3
namespace Go.Proofs.Ytinkanbaiflhdaa
open Go.RowKit

mutual
/-- Is the value one of the type's? -/
def hasB : Va → Ty → Bool
  | .mk k _ nm ls vs, t =>
    if t.kind = 1 then decide (k = 1) else if t.kind = 2 then decide (k = 2)
    else if t.kind = 3 then decide (k = 3) && textsB ls t.labels && hasZip vs t.args
    else if t.kind = 4 then decide (k = 4) && decide (0 ≤ idxOf t.labels nm) && hasHead vs t.args[(idxOf t.labels nm).toNat]?
    else decide (k = 5) && hasEach vs t.args[0]?
def hasZip : List Va → List Ty → Bool
  | [], _ => true
  | _ :: _, [] => false
  | v :: r, t :: s => hasB v t && hasZip r s
def hasHead : List Va → Option Ty → Bool
  | v :: _, some t => hasB v t
  | _, _ => false
def hasEach : List Va → Option Ty → Bool
  | v :: r, some t => hasB v t && hasEach r (some t)
  | _, _ => true
end
theorem hasZip_no : ∀ (vs : List Va) (ts : List Ty) (i : Nat) (h1 : i < vs.length) (h2 : i < ts.length), hasB vs[i] ts[i] = false → hasZip vs ts = false
  | v :: r, t :: s, 0, _, _, h => by
    rw [hasZip]
    have : hasB v t = false := h
    rw [this]
    rfl
  | v :: r, t :: s, i + 1, h1, h2, h => by
    rw [hasZip, hasZip_no r s i (by simpa using h1) (by simpa using h2) (by simpa using h), Bool.and_false]
theorem hasZip_yes : ∀ (vs : List Va) (ts : List Ty), vs.length ≤ ts.length → (∀ i, (h1 : i < vs.length) → (h2 : i < ts.length) → hasB vs[i] ts[i] = true) → hasZip vs ts = true
  | [], _, _, _ => by rw [hasZip]
  | v :: r, [], h, _ => absurd h (by simp)
  | v :: r, t :: s, h, hall => by
    rw [hasZip, show hasB v t = true from hall 0 (by simp) (by simp), hasZip_yes r s (by simpa using h) fun i h1 h2 => hall (i + 1) (by simpa using h1) (by simpa using h2)]
    rfl
theorem hasEach_no : ∀ (vs : List Va) (t : Ty) (i : Nat) (h1 : i < vs.length), hasB vs[i] t = false → hasEach vs (some t) = false
  | v :: r, t, 0, _, h => by
    rw [hasEach]
    have : hasB v t = false := h
    rw [this]
    rfl
  | v :: r, t, i + 1, h1, h => by
    rw [hasEach, hasEach_no r t i (by simpa using h1) (by simpa using h), Bool.and_false]
theorem hasEach_yes : ∀ (vs : List Va) (t : Ty), (∀ i, (h1 : i < vs.length) → hasB vs[i] t = true) → hasEach vs (some t) = true
  | [], _, _ => by simp [hasEach]
  | v :: r, t, hall => by
    rw [hasEach, show hasB v t = true from hall 0 (by simp), hasEach_yes r t fun i h1 => hall (i + 1) (by simpa using h1)]
    rfl
theorem hasHead_at (vs : List Va) (ts : List Ty) (i : Nat) (h0 : 0 < vs.length) (h1 : i < ts.length) : hasHead vs ts[i]? = hasB vs[0] ts[i] := by
  rw [List.getElem?_eq_getElem h1]
  cases vs with
  | nil => simp at h0
  | cons v r => rw [hasHead]; rfl
theorem idx_lt (ss : List ByteArray) (s : ByteArray) (h : 0 ≤ idxOf ss s) : (idxOf ss s).toNat < ss.length := by
  by_cases hx : ∃ k, ∃ h : k < ss.length, ss[k].data.toList = s.data.toList ∧ ∀ j, (hj : j < ss.length) → j < k → ss[j].data.toList ≠ s.data.toList
  · obtain ⟨k, hk, h1, h2⟩ := hx
    rw [idxOf_at ss s k hk h1 h2]
    simpa using hk
  · have : ∀ k j, (hj : j < ss.length) → j < k → ss[j].data.toList ≠ s.data.toList := by
      intro k
      induction k with
      | zero => intro j _ h; omega
      | succ k ih =>
        intro j hj hjk he
        by_cases e : j = k
        · subst e
          exact hx ⟨j, hj, he, ih⟩
        · exact ih j hj (by omega) he
    rw [idxOf_none ss s fun j hj => this ss.length j hj hj] at h
    omega
theorem formTy_mk (k : Int) (ls : List ByteArray) (ts : List Ty) (h : formTy (.mk k ls ts) = true) : nodeB k ls ts.length = true ∧ ∀ i, (h : i < ts.length) → formTy ts[i] = true := by
  rw [formTy, Bool.and_eq_true] at h
  refine ⟨h.2, fun i hi => ?_⟩
  cases hf : formTy ts[i] with
  | true => rfl
  | false => rw [formTys_no ts i hi hf] at h; simp at h
theorem nodeB_kind (k : Int) (ls : List ByteArray) (m : Nat) (h : nodeB k ls m = true) : (k = 1 ∨ k = 2) ∨ ((k = 3 ∨ k = 4) ∧ m = ls.length ∧ 1 ≤ m) ∨ (k = 5 ∧ m = 1) := by
  unfold nodeB labelsB at h
  split at h
  · exact .inl (by assumption)
  · split at h
    · simp only [Bool.and_eq_true, decide_eq_true_eq] at h
      exact .inr (.inl ⟨by assumption, h.1, by omega⟩)
    · split at h
      · simp only [Bool.and_eq_true, decide_eq_true_eq] at h
        exact .inr (.inr ⟨by assumption, h.2⟩)
      · cases h
theorem formVa_mk (k n : Int) (nm : ByteArray) (ls : List ByteArray) (vs : List Va) (h : formVa (.mk k n nm ls vs) = true) : nodeVB k n nm ls vs.length = true ∧ ∀ i, (h : i < vs.length) → formVa vs[i] = true := by
  rw [formVa, Bool.and_eq_true] at h
  exact ⟨h.2, formVas_at vs h.1⟩
theorem nodeVB_rec (n : Int) (nm : ByteArray) (ls : List ByteArray) (m : Nat) (h : nodeVB 3 n nm ls m = true) : m = ls.length := by
  unfold nodeVB at h
  simp at h
  exact h.1.2
theorem nodeVB_tag (n : Int) (nm : ByteArray) (ls : List ByteArray) (m : Nat) (h : nodeVB 4 n nm ls m = true) : m = 1 := by
  unfold nodeVB at h
  simp at h
  exact h.2

def HasVOne (f : Nat) (v : Va) : Prop := ∀ (t : Ty) (V V' : Value) (w : World), VaAt w w.heap.size V v → TyAt w w.heap.size V' t → formVa v = true → formTy t = true → Calls Try.prog f #[V, V'] w (BoolIs (hasB v t) w)

/-- Is it a value, a valid type, and one of its values? -/
def hasTypeB (v : Va) (t : Ty) : Bool := valueB v && validB t && hasB v t

end Go.Proofs.Ytinkanbaiflhdaa
