/- How long the text of a value is. -/
import Derived.Test.YtlmbnefoobameaaDoorVTxt
namespace Go.Proofs.YtlmbnefoobameaaDoor
open Go.RowKit

theorem emptySize0 : (⟨#[]⟩ : ByteArray).size = 0 := rfl
theorem itoa_len (n : Int) (h : -9223372036854775808 ≤ n ∧ n ≤ 9223372036854775807) : (Lib.itoa n).length ≤ 20 := by
  by_cases h0 : n < 0
  · rw [Lib.itoa, if_pos h0]
    have := dec_len 18 n.natAbs (by omega)
    simp
    omega
  · rw [Lib.itoa, if_neg h0]
    have := dec_len 18 n.toNat (by omega)
    omega
theorem labE_sum : ∀ (ls : List ByteArray) (xs : List (List UInt8)), (∀ l ∈ ls, l.size ≤ 4) → sumLens (labE ls xs) ≤ sumLens xs + 5 * xs.length ∧ (labE ls xs).length ≤ xs.length
  | [], xs, _ => by simp [labE, sumLens]
  | _ :: _, [], _ => by simp [labE, sumLens]
  | l :: ls, x :: xs, h => by
    have h1 := labE_sum ls xs fun l hl => h l (by simp [hl])
    have h2 := h l (by simp)
    have h3 : l.data.toList.length = l.size := by simp
    simp only [labE, sumLens, List.map_cons, List.sum_cons, List.length_append, List.length_cons] at h1 ⊢
    omega
theorem labE_same : ∀ (ls : List ByteArray) (xs : List (List UInt8)), ls.length = xs.length → (labE ls xs).length = ls.length
  | [], _, _ => rfl
  | _ :: _, [], h => by simp at h
  | l :: ls, x :: xs, h => by simp [labE, labE_same ls xs (by simpa using h)]
theorem labE_get : ∀ (ls : List ByteArray) (xs : List (List UInt8)) (k : Nat) (h1 : k < ls.length) (h2 : k < xs.length) (h3 : k < (labE ls xs).length), (labE ls xs)[k] = ls[k].data.toList ++ 61 :: xs[k]
  | [], _, _, h, _, _ => by simp at h
  | _ :: _, [], _, _, h, _ => by simp at h
  | l :: ls, x :: xs, 0, _, _, _ => rfl
  | l :: ls, x :: xs, k + 1, h1, h2, h3 => labE_get ls xs k (by simpa using h1) (by simpa using h2) (by simpa [labE] using h3)
theorem txtVs_sum : ∀ (ts : List Va), (∀ i, (h : i < ts.length) → (txtV ts[i]).length + 6 ≤ 26 * sizeVa ts[i]) → sumLens (txtVs ts) + 6 * ts.length ≤ 26 * sizeVas ts ∧ (txtVs ts).length = ts.length
  | [], _ => by simp [txtVs, sumLens, sizeVas]
  | t :: r, h => by
    have h1 := txtVs_sum r fun i hi => h (i + 1) (by simpa using hi)
    have h2 := h 0 (by simp)
    simp only [txtVs, sumLens, sizeVas, List.map_cons, List.sum_cons, List.length_cons, List.getElem_cons_zero] at h1 h2 ⊢
    omega
theorem formVas_get {ts : List Va} (h : formVas ts = true) (i : Nat) (hi : i < ts.length) : formVa ts[i] = true := formVas_mem h _ (List.getElem_mem hi)
/-- The kinds of nodes. -/
theorem nodeVB_kind {k n : Int} {nm : ByteArray} {ls : List ByteArray} {m : Nat} (h : nodeVB k n nm ls m = true) :
    k = 1 ∧ m = 0 ∨ k = 2 ∧ m = 0 ∧ 0 ≤ n ∧ n ≤ 1 ∨ k = 3 ∧ ls.length = m ∧ labelsB ls = true ∨ k = 4 ∧ m = 1 ∧ isNameB nm = true ∨ k = 5 := by
  unfold nodeVB at h
  split at h
  · simp only [Bool.and_eq_true, decide_eq_true_eq] at h
    exact Or.inl ⟨by assumption, h.2⟩
  · split at h
    · simp only [Bool.and_eq_true, decide_eq_true_eq] at h
      exact Or.inr (Or.inl ⟨by assumption, h.1.2, h.2⟩)
    · split at h
      · simp only [Bool.and_eq_true, decide_eq_true_eq] at h
        exact Or.inr (Or.inr (Or.inl ⟨by assumption, h.1.2.symm, h.2⟩))
      · split at h
        · simp only [Bool.and_eq_true, decide_eq_true_eq] at h
          exact Or.inr (Or.inr (Or.inr (Or.inl ⟨by assumption, h.2, h.1.1.1⟩)))
        · split at h
          · exact Or.inr (Or.inr (Or.inr (Or.inr (by assumption))))
          · cases h
theorem txtV_len (t : Va) : formVa t = true → numsB t = true → (txtV t).length + 6 ≤ 26 * sizeVa t := by
  induction t using Va.ind with
  | h k n nm ls ts ih =>
    intro hf hq
    rw [formVa, Bool.and_eq_true] at hf
    have hq2 := numsB_of _ hq
    obtain ⟨h1, h2⟩ := txtVs_sum ts fun i hi => ih i hi (formVas_get hf.1 i hi) (hq2.2 i hi)
    have hn := nodeVB_kind hf.2
    have hi := itoa_len n hq2.1
    rw [txtV, sizeVa]
    unfold nodeTxtV
    rcases hn with ⟨rfl, hm⟩ | ⟨rfl, hm, _⟩ | ⟨rfl, hm, hl⟩ | ⟨rfl, hm, hl⟩ | rfl
    · rw [if_pos rfl]
      omega
    · rw [if_neg (by decide), if_pos rfl]
      simp
      omega
    · rw [if_neg (by decide), if_neg (by decide), if_pos rfl]
      have h3 := labE_sum ls (txtVs ts) fun l hl2 => name_len (labelsB_names hl l hl2)
      have h4 := commas_len (labE ls (txtVs ts))
      simp only [List.length_cons, List.length_append, List.length_nil]
      omega
    · rw [if_neg (by decide), if_neg (by decide), if_neg (by decide), if_pos rfl]
      have h3 := name_len hl
      have h4 : nm.data.toList.length = nm.size := by simp
      have hh : (txtVs ts).headD [] = [] ∨ ((txtVs ts).headD []).length ≤ sumLens (txtVs ts) := by
        cases txtVs ts with
        | nil => exact .inl rfl
        | cons a r => exact .inr (by simp [sumLens])
      simp only [List.length_cons, List.length_append, List.length_nil]
      rcases hh with hh | hh
      · rw [hh]
        simp
        omega
      · omega
    · rw [if_neg (by decide), if_neg (by decide), if_neg (by decide), if_neg (by decide)]
      have h4 := commas_len (txtVs ts)
      simp only [List.length_cons, List.length_append, List.length_nil]
      omega

/-- A value that is read is no larger than its text. -/
theorem commas_sum : ∀ (xs : List (List UInt8)), sumLens xs + xs.length ≤ (commas xs).length + 1
  | [] => by simp [sumLens, commas]
  | [a] => by simp [sumLens, commas]
  | a :: b :: r => by
    have := commas_sum (b :: r)
    simp only [commas, sumLens, List.map_cons, List.sum_cons, List.length_append, List.length_cons] at this ⊢
    omega
theorem szVas_le_sum : ∀ (ts : List Va), (∀ t ∈ ts, szVa t + 1 ≤ (txtV t).length) → szVas ts ≤ sumLens (ts.map txtV)
  | [], _ => by simp [szVas, sumLens]
  | t :: r, h => by
    have h1 := szVas_le_sum r fun u hu => h u (by simp [hu])
    have h2 := h t (by simp)
    simp only [szVas, sumLens, List.map_cons, List.sum_cons] at h1 ⊢
    omega
theorem szPairs_le_sum : ∀ (ps : List (ByteArray × Va)), (∀ p ∈ ps, szVa p.2 + 1 ≤ (txtV p.2).length) → (ps.map (·.1)).length + sumSizes (ps.map (·.1)) + szVas (ps.map (·.2)) ≤ sumLens (ps.map fun p => p.1.data.toList ++ 61 :: txtV p.2)
  | [], _ => by simp [szVas, sumLens, sumSizes]
  | p :: r, h => by
    have h1 := szPairs_le_sum r fun u hu => h u (by simp [hu])
    have h2 := h p (by simp)
    have h3 : p.1.data.toList.length = p.1.size := by simp
    simp only [szVas, sumLens, sumSizes, List.map_cons, List.sum_cons, List.length_append, List.length_cons] at h1 ⊢
    omega
theorem rdVa_sz (n : Nat) : ∀ (l : List UInt8) (t : Va) (r : List UInt8), rdVa n l = some (t, r) → szVa t + 1 ≤ (txtV t).length := by
  induction n with
  | zero =>
    intro l t r h
    cases h
  | succ n ih =>
    intro l t r h
    rw [rdVa] at h
    split at h
    · cases h
      simp [szVa, szVas, sumSizes, txtV, nodeTxtV, emptySize0]
    · split at h
      · cases h
        simp [szVa, szVas, sumSizes, txtV, nodeTxtV, emptySize0]
      · split at h
        · unfold rdRec at h
          split at h
          · cases h
          · rename_i ps q hq
            cases h
            have hall := rdSeqE_all (P := fun p : ByteArray × Va => szVa p.2 + 1 ≤ (txtV p.2).length) (fun l a r h => by
              unfold rdField at h
              split at h
              · cases h
              · split at h
                · cases h
                · rename_i t q ht
                  cases h
                  exact ih _ _ _ ht) _ _ _ _ hq
            have h1 := szPairs_le_sum ps hall
            rw [txtV, nodeTxtV, if_neg (by decide), if_neg (by decide), if_pos rfl, labE_map]
            have h2 := commas_sum (ps.map fun p : ByteArray × Va => p.1.data.toList ++ 61 :: txtV p.2)
            simp only [szVa, List.length_cons, List.length_append, List.length_nil, emptySize0] at h1 h2 ⊢
            simp
            simp at h1 h2
            omega
        · split at h
          · unfold rdList at h
            split at h
            · cases h
            · rename_i ts q hq
              cases h
              have hall := rdSeqE_all (P := fun t : Va => szVa t + 1 ≤ (txtV t).length) ih _ _ _ _ hq
              have h1 := szVas_le_sum ts hall
              rw [txtV, nodeTxtV, if_neg (by decide), if_neg (by decide), if_neg (by decide), if_neg (by decide), txtVs_map]
              have h2 := commas_sum (ts.map txtV)
              simp only [szVa, List.length_cons, List.length_append, List.length_nil, emptySize0] at h1 h2 ⊢
              simp [sumSizes]
              omega
          · split at h
            · unfold rdTag at h
              split at h
              · cases h
              · split at h
                · cases h
                · rename_i u q2 hu
                  split at h
                  · cases h
                  · cases h
                    have h1 := ih _ _ _ hu
                    rw [txtV, nodeTxtV, if_neg (by decide), if_neg (by decide), if_neg (by decide), if_pos rfl]
                    generalize (⟨(List.takeWhile wordC _).toArray⟩ : ByteArray) = nm
                    have h2 : nm.data.toList.length = nm.size := by simp
                    have h3 : szVa (.mk 4 0 nm [] [u]) = nm.size + (1 + szVa u) := by simp [szVa, szVas, sumSizes]
                    rw [h3]
                    simp only [txtVs, List.headD_cons, List.length_cons, List.length_append, List.length_nil]
                    omega
            · unfold rdIntV at h
              split at h
              · split at h
                · cases h
                · cases h
                  rw [szVa]
                  have := txtV_pos (.mk 1 (by assumption) ⟨#[]⟩ [] [])
                  simpa [szVas, sumSizes, emptySize0] using this
              · split at h
                · cases h
                · cases h
                  rw [szVa]
                  have := txtV_pos (.mk 1 (by assumption) ⟨#[]⟩ [] [])
                  simpa [szVas, sumSizes, emptySize0] using this

theorem parseVB_of {s : ByteArray} {t : Va} (hv : valueB t = true) (hs : smallB t = true) (ht : txtV t = s.data.toList) : parseVB s = some t := by
  have h := hv
  unfold valueB at h
  simp only [Bool.and_eq_true, decide_eq_true_eq] at h
  have h1 := rdVa_full 300 t h.2 (by have := depth_le_sizeV t; omega) hs [] (fun c hc => by cases hc)
  rw [List.append_nil, ht] at h1
  unfold parseVB
  rw [h1]
  simp [hv]
theorem rdVa_small (n : Nat) : ∀ (l : List UInt8) (t : Va) (r : List UInt8), rdVa n l = some (t, r) → smallB t = true := by
  induction n with
  | zero =>
    intro l t r h
    cases h
  | succ n ih =>
    intro l t r h
    rw [rdVa] at h
    split at h
    · cases h
      rfl
    · split at h
      · cases h
        rfl
      · split at h
        · unfold rdRec at h
          split at h
          · cases h
          · rename_i ps q hq
            cases h
            have hall := rdSeqE_all (P := fun p : ByteArray × Va => smallB p.2 = true) (fun l a r h => by
              unfold rdField at h
              split at h
              · cases h
              · split at h
                · cases h
                · rename_i t q ht
                  cases h
                  exact ih _ _ _ ht) _ _ _ _ hq
            rw [smallB, smallBs_of _ fun t ht => by
              obtain ⟨p, hp, rfl⟩ := List.mem_map.1 ht
              exact hall p hp]
            rfl
        · split at h
          · unfold rdList at h
            split at h
            · cases h
            · rename_i ts q hq
              cases h
              rw [smallB, smallBs_of _ (rdSeqE_all (P := fun t : Va => smallB t = true) ih _ _ _ _ hq)]
              rfl
          · split at h
            · unfold rdTag at h
              split at h
              · cases h
              · split at h
                · cases h
                · rename_i u q2 hu
                  split at h
                  · cases h
                  · cases h
                    rw [smallB, smallBs, smallBs, ih _ _ _ hu]
                    rfl
            · unfold rdIntV at h
              split at h
              · split at h
                · cases h
                · rename_i n hn
                  cases h
                  have := unItoa_some hn
                  simp [smallB, smallBs, this]
              · split at h
                · cases h
                · rename_i n hn
                  cases h
                  have := unItoa_some hn
                  simp [smallB, smallBs, this]
end Go.Proofs.YtlmbnefoobameaaDoor
