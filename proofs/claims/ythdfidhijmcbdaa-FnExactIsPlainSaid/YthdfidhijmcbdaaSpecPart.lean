/- spec.PartType. -/
import Derived.Test.YthdfidhijmcbdaaSpecTy5
import Derived.Test.YthdfidhijmcbdaaSpecCopy
namespace Go.Proofs.Ythdfidhijmcbdaa
open Go.RowKit

/-- The part of a label, if there is one. -/
def partB (t : Ty) (l : ByteArray) : Option Ty := if validB t ∧ 0 ≤ idxOf t.labels l then t.args[(idxOf t.labels l).toNat]? else none
/-- The type without anything. -/
def zeroTy : Ty := .mk 0 [] []
theorem idxOf_lt (ss : List ByteArray) (s : ByteArray) (h : 0 ≤ idxOf ss s) : (idxOf ss s).toNat < ss.length := by
  unfold idxOf at *
  split
  · rename_i k hk
    have := List.mem_of_find?_eq_some hk
    have := List.mem_range.1 this
    simpa using this
  · rename_i hk
    rw [hk] at h
    simp at h
theorem valid_labels (t : Ty) (hv : validB t = true) (h0 : 0 < t.labels.length) : t.args.length = t.labels.length := by
  cases t with
  | mk k ls ts =>
    unfold validB at hv
    simp only [Bool.and_eq_true] at hv
    have hf := hv.2
    rw [formTy, Bool.and_eq_true] at hf
    have hn := hf.2
    simp only [Ty.labels, Ty.args] at *
    unfold nodeB at hn
    split at hn
    · simp at hn
      have := hn.1
      simp [this] at h0
    · split at hn
      · simp at hn
        exact hn.1
      · split at hn
        · simp at hn
          have := hn.1
          simp [this] at h0
        · cases hn
theorem partB_some (t : Ty) (l : ByteArray) (hv : validB t = true) (hi : 0 ≤ idxOf t.labels l) : ∃ k : Nat, idxOf t.labels l = k ∧ ∃ h : k < t.args.length, partB t l = some t.args[k] := by
  have h1 := idxOf_lt t.labels l hi
  have h2 := valid_labels t hv (by omega)
  refine ⟨(idxOf t.labels l).toNat, by omega, by omega, ?_⟩
  unfold partB
  rw [if_pos ⟨hv, hi⟩, List.getElem?_eq_getElem]
theorem partB_none (t : Ty) (l : ByteArray) (h : validB t = false ∨ idxOf t.labels l < 0) : partB t l = none := by
  unfold partB
  rw [if_neg]
  rintro ⟨h1, h2⟩
  rcases h with h | h
  · rw [h1] at h; cases h
  · omega

end Go.Proofs.Ythdfidhijmcbdaa
