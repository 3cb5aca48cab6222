/- How long the text of a tree is, and how it is joined: free of the program. -/
import Derived.Test.YtmacbkcjeamaeaaTyText
namespace Go.Proofs.Ytmacbkcjeamaeaa
open Go.RowKit

def sumLens (xs : List (List UInt8)) : Nat := (xs.map List.length).sum
theorem commas_len : ∀ (xs : List (List UInt8)), (commas xs).length ≤ sumLens xs + xs.length
  | [] => Nat.le_refl _
  | [a] => by simp [commas, sumLens]
  | a :: b :: r => by
    have := commas_len (b :: r)
    simp only [commas, sumLens, List.map_cons, List.sum_cons, List.length_append, List.length_cons] at this ⊢
    omega
theorem commas_snoc : ∀ (xs : List (List UInt8)) (a : List UInt8), xs ≠ [] → commas (xs ++ [a]) = commas xs ++ 44 :: a
  | [], _, h => absurd rfl h
  | [x], a, _ => rfl
  | x :: y :: r, a, _ => by
    have := commas_snoc (y :: r) a (by simp)
    rw [List.cons_append] at this
    show x ++ 44 :: commas (y :: (r ++ [a])) = (x ++ 44 :: commas (y :: r)) ++ 44 :: a
    rw [this]
    simp
def bytesOf (xs : List (List UInt8)) : List ByteArray := xs.map fun x => ⟨x.toArray⟩
theorem join_commas (xs : List (List UInt8)) : ∀ (k : Nat), k ≤ xs.length → joinTo (bytesOf xs) ⟨#[44]⟩ k = commas (xs.take k)
  | 0, _ => by simp [joinTo, commas]
  | k + 1, h => by
    have h1 := join_commas xs k (by omega)
    have h2 : (bytesOf xs).getD k ⟨#[]⟩ = ⟨xs[k].toArray⟩ := by simp [bytesOf, show k < xs.length by omega]
    rw [joinTo, h1, h2, List.take_succ_eq_append_getElem (by omega)]
    by_cases hk : 0 < k
    · rw [if_pos hk, commas_snoc _ _ (by intro e; have e2 := congrArg List.length e; rw [List.length_take, List.length_nil] at e2; omega)]
      simp
    · obtain rfl : k = 0 := by omega
      simp [commas]
theorem bytesOf_sum : ∀ (xs : List (List UInt8)), sumSizes (bytesOf xs) = sumLens xs
  | [] => rfl
  | a :: r => by
    have := bytesOf_sum r
    simp only [bytesOf, sumSizes, sumLens, List.map_cons, List.sum_cons] at this ⊢
    rw [this]
    rfl

theorem name_len {s : ByteArray} (h : isNameB s = true) : s.size ≤ 4 := by
  unfold isNameB at h
  simp only [Bool.and_eq_true, decide_eq_true_eq] at h
  exact h.2
theorem lab_sum : ∀ (ls : List ByteArray) (xs : List (List UInt8)), (∀ l ∈ ls, l.size ≤ 4) → sumLens (lab ls xs) ≤ sumLens xs + 5 * xs.length ∧ (lab ls xs).length ≤ xs.length
  | [], xs, _ => by simp [lab, sumLens]
  | _ :: _, [], _ => by simp [lab, sumLens]
  | l :: ls, x :: xs, h => by
    have h1 := lab_sum ls xs fun l hl => h l (by simp [hl])
    have h2 := h l (by simp)
    have h3 : l.data.toList.length = l.size := by simp
    simp only [lab, sumLens, List.map_cons, List.sum_cons, List.length_append, List.length_cons] at h1 ⊢
    omega
theorem lab_same : ∀ (ls : List ByteArray) (xs : List (List UInt8)), ls.length = xs.length → (lab ls xs).length = ls.length
  | [], _, _ => rfl
  | _ :: _, [], h => by simp at h
  | l :: ls, x :: xs, h => by simp [lab, lab_same ls xs (by simpa using h)]
theorem lab_get : ∀ (ls : List ByteArray) (xs : List (List UInt8)) (k : Nat) (h1 : k < ls.length) (h2 : k < xs.length) (h3 : k < (lab ls xs).length), (lab ls xs)[k] = ls[k].data.toList ++ 58 :: xs[k]
  | [], _, _, h, _, _ => by simp at h
  | _ :: _, [], _, _, h, _ => by simp at h
  | l :: ls, x :: xs, 0, _, _, _ => rfl
  | l :: ls, x :: xs, k + 1, h1, h2, h3 => lab_get ls xs k (by simpa using h1) (by simpa using h2) (by simpa [lab] using h3)
theorem txts_sum : ∀ (ts : List Ty), (∀ i, (h : i < ts.length) → (txt ts[i]).length + 6 ≤ 8 * sizeTy ts[i]) → sumLens (txts ts) + 6 * ts.length ≤ 8 * sizeTys ts ∧ (txts ts).length = ts.length
  | [], _ => by simp [txts, sumLens, sizeTys]
  | t :: r, h => by
    have h1 := txts_sum r fun i hi => h (i + 1) (by simpa using hi)
    have h2 := h 0 (by simp)
    simp only [txts, sumLens, sizeTys, List.map_cons, List.sum_cons, List.length_cons, List.getElem_cons_zero] at h1 h2 ⊢
    omega
theorem formTys_get {ts : List Ty} (h : formTys ts = true) (i : Nat) (hi : i < ts.length) : formTy ts[i] = true := formTys_mem h _ (List.getElem_mem hi)
theorem txt_len (t : Ty) : formTy t = true → (txt t).length + 6 ≤ 8 * sizeTy t := by
  induction t using Ty.ind with
  | h k ls ts ih =>
    intro hf
    rw [formTy, Bool.and_eq_true] at hf
    obtain ⟨h1, h2⟩ := txts_sum ts fun i hi => ih i hi (formTys_get hf.1 i hi)
    have hn := hf.2
    unfold nodeB at hn
    rw [txt, sizeTy]
    unfold nodeTxt
    split at hn
    · rename_i h12
      split
      · simp
        omega
      · split
        · simp
          omega
        · omega
    · rename_i h12
      rw [if_neg (by omega), if_neg (by omega)]
      split at hn
      · rename_i h34
        simp only [Bool.and_eq_true, decide_eq_true_eq] at hn
        have h3 := lab_sum ls (txts ts) fun l hl => name_len (labelsB_names hn.2 l hl)
        have h4 := commas_len (lab ls (txts ts))
        split
        · simp only [List.length_cons, List.length_append, List.length_nil]
          omega
        · rw [if_pos (by omega)]
          simp only [List.length_cons, List.length_append, List.length_nil]
          omega
      · rename_i h34
        rw [if_neg (by omega), if_neg (by omega)]
        have hh : (txts ts).headD [] = [] ∨ ((txts ts).headD []).length ≤ sumLens (txts ts) := by
          cases txts ts with
          | nil => exact .inl rfl
          | cons a r => exact .inr (by simp [sumLens])
        have hn1 : ts.length = 1 := by
          split at hn
          · simp only [Bool.and_eq_true, decide_eq_true_eq] at hn
            exact hn.2
          · cases hn
        simp only [List.length_cons, List.length_append, List.length_nil]
        rcases hh with hh | hh
        · rw [hh]
          simp
          omega
        · omega

end Go.Proofs.Ytmacbkcjeamaeaa
