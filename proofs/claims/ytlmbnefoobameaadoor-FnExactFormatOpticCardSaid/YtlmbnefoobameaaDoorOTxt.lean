/- The text of an optic, and the optic that a text is read as: free of the program. -/
import Derived.Test.YtlmbnefoobameaaDoorVTxtLen
import Derived.Test.YtlmbnefoobameaaDoorSpecOtForm

namespace Go.Proofs.YtlmbnefoobameaaDoor
open Go.RowKit

def nodeTxtO (k n : Int) (nm : ByteArray) (xs : List (List UInt8)) : List UInt8 :=
  if k = 1 then [105, 100]
  else if k = 2 then 46 :: nm.data.toList
  else if k = 3 then 63 :: nm.data.toList
  else if k = 4 then [101, 97, 99, 104]
  else if k = 5 then [97, 108, 108]
  else if k = 6 then 97 :: 116 :: 32 :: Lib.itoa n
  else if k = 7 then 97 :: 100 :: 100 :: 32 :: Lib.itoa n
  else if k = 8 then [110, 111, 116]
  else if k = 9 then [114, 101, 118]
  else if k = 10 then 119 :: 114 :: 97 :: 112 :: 32 :: nm.data.toList
  else if k = 11 then 109 :: 97 :: 112 :: 32 :: xs.headD []
  else 40 :: (xs.headD [] ++ (if k = 12 then 59 else 124) :: (xs.tail.headD [] ++ [41]))
mutual
/-- The text of an optic. -/
def txtO : Ot → List UInt8 | .mk k n nm ts => nodeTxtO k n nm (txtOs ts)
def txtOs : List Ot → List (List UInt8) | [] => [] | t :: r => txtO t :: txtOs r
end
theorem txtOs_map : ∀ (ts : List Ot), txtOs ts = ts.map txtO
  | [] => by rw [txtOs]; rfl
  | t :: r => by rw [txtOs, txtOs_map r]; rfl
theorem txtO_1 : txtO (.mk 1 0 ⟨#[]⟩ []) = [105, 100] := by simp [txtO, nodeTxtO]
theorem txtO_2 (nm : ByteArray) : txtO (.mk 2 0 nm []) = 46 :: nm.data.toList := by simp [txtO, nodeTxtO]
theorem txtO_3 (nm : ByteArray) : txtO (.mk 3 0 nm []) = 63 :: nm.data.toList := by simp [txtO, nodeTxtO]
theorem txtO_4 : txtO (.mk 4 0 ⟨#[]⟩ []) = [101, 97, 99, 104] := by simp [txtO, nodeTxtO]
theorem txtO_5 : txtO (.mk 5 0 ⟨#[]⟩ []) = [97, 108, 108] := by simp [txtO, nodeTxtO]
theorem txtO_6 (n : Int) : txtO (.mk 6 n ⟨#[]⟩ []) = 97 :: 116 :: 32 :: Lib.itoa n := by simp [txtO, nodeTxtO]
theorem txtO_7 (n : Int) : txtO (.mk 7 n ⟨#[]⟩ []) = 97 :: 100 :: 100 :: 32 :: Lib.itoa n := by simp [txtO, nodeTxtO]
theorem txtO_8 : txtO (.mk 8 0 ⟨#[]⟩ []) = [110, 111, 116] := by simp [txtO, nodeTxtO]
theorem txtO_9 : txtO (.mk 9 0 ⟨#[]⟩ []) = [114, 101, 118] := by simp [txtO, nodeTxtO]
theorem txtO_10 (nm : ByteArray) : txtO (.mk 10 0 nm []) = 119 :: 114 :: 97 :: 112 :: 32 :: nm.data.toList := by simp [txtO, nodeTxtO]
theorem txtO_11 (t : Ot) : txtO (.mk 11 0 ⟨#[]⟩ [t]) = 109 :: 97 :: 112 :: 32 :: txtO t := by simp [txtO, nodeTxtO, txtOs]
theorem txtO_12 (a b : Ot) : txtO (.mk 12 0 ⟨#[]⟩ [a, b]) = 40 :: (txtO a ++ 59 :: (txtO b ++ [41])) := by simp [txtO, nodeTxtO, txtOs]
theorem txtO_13 (a b : Ot) : txtO (.mk 13 0 ⟨#[]⟩ [a, b]) = 40 :: (txtO a ++ 124 :: (txtO b ++ [41])) := by simp [txtO, nodeTxtO, txtOs]

/-- The forms of a node. -/
def FormsO (k n : Int) (nm : ByteArray) (ts : List Ot) : Prop :=
  ((k = 1 ∨ k = 4 ∨ k = 5 ∨ k = 8 ∨ k = 9) ∧ n = 0 ∧ nm = ⟨#[]⟩ ∧ ts = []) ∨ ((k = 2 ∨ k = 3 ∨ k = 10) ∧ n = 0 ∧ isNameB nm = true ∧ ts = []) ∨ ((k = 6 ∨ k = 7) ∧ (-1000 ≤ n ∧ n ≤ 1000) ∧ nm = ⟨#[]⟩ ∧ ts = []) ∨
  (k = 11 ∧ n = 0 ∧ nm = ⟨#[]⟩ ∧ ∃ t, ts = [t]) ∨ ((k = 12 ∨ k = 13) ∧ n = 0 ∧ nm = ⟨#[]⟩ ∧ ∃ a b, ts = [a, b])
theorem two_parts : ∀ {ts : List Ot}, ts.length = 2 → ∃ a b, ts = [a, b]
  | [a, b], _ => ⟨a, b, rfl⟩
  | [], h => by simp at h
  | [_], h => by simp at h
  | _ :: _ :: _ :: _, h => by simp at h
theorem nodeOB_forms {k n : Int} {nm : ByteArray} {ts : List Ot} (h : nodeOB k n nm ts.length = true) : FormsO k n nm ts := by
  unfold nodeOB at h
  simp only [Bool.and_eq_true, decide_eq_true_eq] at h
  obtain ⟨⟨h1, h2⟩, h3⟩ := h
  unfold arityI at h2
  unfold numOB at h3
  by_cases hn : k = 2 ∨ k = 3 ∨ k = 10
  · rw [if_pos hn] at h1
    rw [if_neg (by omega), if_neg (by omega), if_pos (by omega)] at h2
    rw [if_neg (by omega), if_neg (by omega)] at h3
    exact Or.inr (Or.inl ⟨hn, by simpa using h3, h1, List.eq_nil_of_length_eq_zero (by omega)⟩)
  · rw [if_neg hn] at h1
    have hnm := osize_nil (by simpa using h1)
    by_cases h11 : k = 11
    · rw [if_pos h11] at h2
      rw [if_neg (by omega), if_neg (by omega)] at h3
      exact Or.inr (Or.inr (Or.inr (Or.inl ⟨h11, by simpa using h3, hnm, List.length_eq_one_iff.1 (by omega)⟩)))
    · rw [if_neg h11] at h2
      by_cases h12 : k = 12 ∨ k = 13
      · rw [if_pos h12] at h2
        rw [if_neg (by omega), if_neg (by omega)] at h3
        exact Or.inr (Or.inr (Or.inr (Or.inr ⟨h12, by simpa using h3, hnm, two_parts (by omega)⟩)))
      · rw [if_neg h12] at h2
        by_cases h10 : 1 ≤ k ∧ k ≤ 10
        · rw [if_pos h10] at h2
          have hts : ts = [] := List.eq_nil_of_length_eq_zero (by omega)
          by_cases h6 : k = 6
          · rw [if_pos h6] at h3
            simp only [decide_eq_true_eq] at h3
            exact Or.inr (Or.inr (Or.inl ⟨Or.inl h6, by omega, hnm, hts⟩))
          · rw [if_neg h6] at h3
            by_cases h7 : k = 7
            · rw [if_pos h7] at h3
              simp only [decide_eq_true_eq] at h3
              exact Or.inr (Or.inr (Or.inl ⟨Or.inr h7, h3, hnm, hts⟩))
            · rw [if_neg h7] at h3
              exact Or.inl ⟨by omega, by simpa using h3, hnm, hts⟩
        · rw [if_neg h10] at h2
          omega
theorem formOts_mem : ∀ {ts : List Ot}, formOts ts = true → ∀ t ∈ ts, formOt t = true
  | [], _, t, h => by cases h
  | a :: r, h, t, ht => by
    rw [formOts, Bool.and_eq_true] at h
    rcases List.mem_cons.1 ht with rfl | h2
    · exact h.1
    · exact formOts_mem h.2 t h2
theorem depthOts_mem : ∀ {ts : List Ot} {n : Nat}, depthOts ts ≤ n → ∀ t ∈ ts, depthOt t ≤ n
  | [], _, _, t, h => by cases h
  | a :: r, n, h, t, ht => by
    rw [depthOts] at h
    rcases List.mem_cons.1 ht with rfl | h2
    · omega
    · exact depthOts_mem (by omega) t h2

/-- A name. -/
def rdNm (k : Int) (l : List UInt8) : Option (Ot × List UInt8) := some (.mk k 0 ⟨(l.takeWhile wordC).toArray⟩ [], l.dropWhile wordC)
def rdNumO (k : Int) (l : List UInt8) : Option (Ot × List UInt8) :=
  match rdIntV l with
  | none => none
  | some (v, r) => some (.mk k v.num ⟨#[]⟩ [], r)
/-- The second optic of two, and the closing bracket. -/
def rdLast (f : List UInt8 → Option (Ot × List UInt8)) (k : Int) (a : Ot) (l : List UInt8) : Option (Ot × List UInt8) :=
  match f l with
  | none => none
  | some (b, q) => match eat 41 q with
    | none => none
    | some r => some (.mk k 0 ⟨#[]⟩ [a, b], r)
def rdTwo (f : List UInt8 → Option (Ot × List UInt8)) (l : List UInt8) : Option (Ot × List UInt8) :=
  match f l with
  | none => none
  | some (a, q) => match eat 59 q with
    | some r => rdLast f 12 a r
    | none => match eat 124 q with
      | none => none
      | some r => rdLast f 13 a r
def rdMapO (f : List UInt8 → Option (Ot × List UInt8)) (l : List UInt8) : Option (Ot × List UInt8) :=
  match f l with
  | none => none
  | some (t, r) => some (.mk 11 0 ⟨#[]⟩ [t], r)
/-- An optic of n levels at most is read, sign by sign. -/
def rdOt : Nat → List UInt8 → Option (Ot × List UInt8)
  | 0, _ => none
  | n + 1, l =>
    match eats [105, 100] l with
    | some r => some (.mk 1 0 ⟨#[]⟩ [], r)
    | none => match eats [46] l with
      | some r => rdNm 2 r
      | none => match eats [63] l with
        | some r => rdNm 3 r
        | none => match eats [101, 97, 99, 104] l with
          | some r => some (.mk 4 0 ⟨#[]⟩ [], r)
          | none => match eats [97, 108, 108] l with
            | some r => some (.mk 5 0 ⟨#[]⟩ [], r)
            | none => match eats [97, 116, 32] l with
              | some r => rdNumO 6 r
              | none => match eats [97, 100, 100, 32] l with
                | some r => rdNumO 7 r
                | none => match eats [110, 111, 116] l with
                  | some r => some (.mk 8 0 ⟨#[]⟩ [], r)
                  | none => match eats [114, 101, 118] l with
                    | some r => some (.mk 9 0 ⟨#[]⟩ [], r)
                    | none => match eats [119, 114, 97, 112, 32] l with
                      | some r => rdNm 10 r
                      | none => match eats [109, 97, 112, 32] l with
                        | some r => rdMapO (rdOt n) r
                        | none => match eat 40 l with
                          | none => none
                          | some r => rdTwo (rdOt n) r
/-- A number behind a blank. -/
def rdStepO (k : Int) (l : List UInt8) : Option (Ot × List UInt8) :=
  match eat 32 l with
  | none => none
  | some q => match unItoa (q.takeWhile intC) with
    | none => none
    | some n => some (.mk k n ⟨#[]⟩ [], q.dropWhile intC)
/-- What a word stands for. -/
def rdWordO (f : List UInt8 → Option (Ot × List UInt8)) (u l : List UInt8) : Option (Ot × List UInt8) :=
  if u = [105, 100] then some (.mk 1 0 ⟨#[]⟩ [], l)
  else if u = [101, 97, 99, 104] then some (.mk 4 0 ⟨#[]⟩ [], l)
  else if u = [97, 108, 108] then some (.mk 5 0 ⟨#[]⟩ [], l)
  else if u = [110, 111, 116] then some (.mk 8 0 ⟨#[]⟩ [], l)
  else if u = [114, 101, 118] then some (.mk 9 0 ⟨#[]⟩ [], l)
  else if u = [97, 116] then rdStepO 6 l
  else if u = [97, 100, 100] then rdStepO 7 l
  else if u = [119, 114, 97, 112] then (match eat 32 l with
    | none => none
    | some q => rdNm 10 q)
  else if u = [109, 97, 112] then (match eat 32 l with
    | none => none
    | some q => rdMapO f q)
  else none
/-- An optic of n levels at most is read, word by word. -/
def rdOi : Nat → List UInt8 → Option (Ot × List UInt8)
  | 0, _ => none
  | n + 1, l =>
    match eat 40 l with
    | some r => rdTwo (rdOi n) r
    | none => match eat 46 l with
      | some r => rdNm 2 r
      | none => match eat 63 l with
        | some r => rdNm 3 r
        | none => rdWordO (rdOi n) (l.takeWhile wordC) (l.dropWhile wordC)

/-- What is read is the text of what it is read as, and no shorter than the tree. -/
def SoundO (f : List UInt8 → Option (Ot × List UInt8)) : Prop := ∀ l t r, f l = some (t, r) → l = txtO t ++ r ∧ szOt t + 1 ≤ (txtO t).length
theorem name_len0 (l : List UInt8) : (⟨l.toArray⟩ : ByteArray).size = l.length := by simp [ByteArray.size]
theorem rdLast_sound {f : List UInt8 → Option (Ot × List UInt8)} (hf : SoundO f) (k : Int) (hk : k = 12 ∨ k = 13) (a : Ot) (ha : szOt a + 1 ≤ (txtO a).length) (l : List UInt8) (t : Ot) (r : List UInt8) (h : rdLast f k a l = some (t, r)) :
    40 :: (txtO a ++ (if k = 12 then 59 else 124) :: l) = txtO t ++ r ∧ szOt t + 1 ≤ (txtO t).length := by
  unfold rdLast at h
  split at h
  · cases h
  · rename_i b q hb
    split at h
    · cases h
    · rename_i r' hr
      cases h
      obtain ⟨h1, h2⟩ := hf _ _ _ hb
      rw [h1, eat_some hr]
      rcases hk with rfl | rfl
      · rw [txtO_12]
        refine ⟨by simp, ?_⟩
        simp [szOt, szOts, emptySize0]
        omega
      · rw [txtO_13]
        refine ⟨by simp, ?_⟩
        simp [szOt, szOts, emptySize0]
        omega
theorem rdTwo_sound {f : List UInt8 → Option (Ot × List UInt8)} (hf : SoundO f) (l : List UInt8) (t : Ot) (r : List UInt8) (h : rdTwo f l = some (t, r)) : 40 :: l = txtO t ++ r ∧ szOt t + 1 ≤ (txtO t).length := by
  unfold rdTwo at h
  split at h
  · cases h
  · rename_i a q ha
    obtain ⟨h1, h2⟩ := hf _ _ _ ha
    split at h
    · rename_i r' hr
      have h3 := rdLast_sound hf 12 (.inl rfl) a h2 _ _ _ h
      rw [if_pos rfl] at h3
      rw [h1, eat_some hr]
      exact h3
    · split at h
      · cases h
      · rename_i r' hr
        have h3 := rdLast_sound hf 13 (.inr rfl) a h2 _ _ _ h
        rw [if_neg (by decide)] at h3
        rw [h1, eat_some hr]
        exact h3
theorem rdMapO_sound {f : List UInt8 → Option (Ot × List UInt8)} (hf : SoundO f) (l : List UInt8) (t : Ot) (r : List UInt8) (h : rdMapO f l = some (t, r)) : 109 :: 97 :: 112 :: 32 :: l = txtO t ++ r ∧ szOt t + 1 ≤ (txtO t).length := by
  unfold rdMapO at h
  split at h
  · cases h
  · rename_i u q hu
    cases h
    obtain ⟨h1, h2⟩ := hf _ _ _ hu
    rw [txtO_11, h1]
    refine ⟨by simp, ?_⟩
    simp [szOt, szOts, emptySize0]
    omega
theorem rdNm_sound (k : Int) (pre : List UInt8) (hk : ∀ nm, txtO (.mk k 0 nm []) = pre ++ nm.data.toList) (hp : pre ≠ []) (l : List UInt8) (t : Ot) (r : List UInt8) (h : rdNm k l = some (t, r)) : pre ++ l = txtO t ++ r ∧ szOt t + 1 ≤ (txtO t).length := by
  unfold rdNm at h
  cases h
  rw [hk]
  refine ⟨by rw [List.append_assoc]; exact congrArg (pre ++ ·) (word_split l), ?_⟩
  have hl : 1 ≤ pre.length := by
    cases pre with
    | nil => exact absurd rfl hp
    | cons a q => simp
  simp [szOt, szOts, name_len0]
  omega
theorem rdNumO_sound (k : Int) (pre : List UInt8) (hk : ∀ n, txtO (.mk k n ⟨#[]⟩ []) = pre ++ Lib.itoa n) (hp : pre ≠ []) (l : List UInt8) (t : Ot) (r : List UInt8) (h : rdNumO k l = some (t, r)) : pre ++ l = txtO t ++ r ∧ szOt t + 1 ≤ (txtO t).length := by
  unfold rdNumO at h
  split at h
  · cases h
  · rename_i v q hv
    cases h
    have h1 := rdInt_sound _ _ _ hv
    have h2 : txtV v = Lib.itoa v.num := by
      unfold rdIntV at hv
      split at hv
      · split at hv
        · cases hv
        · cases hv
          simp [txtV, nodeTxtV, Va.num]
      · split at hv
        · cases hv
        · cases hv
          simp [txtV, nodeTxtV, Va.num]
    rw [hk, h1, h2]
    refine ⟨by simp, ?_⟩
    have hl : 1 ≤ pre.length := by
      cases pre with
      | nil => exact absurd rfl hp
      | cons a q => simp
    simp [szOt, szOts, emptySize0]
    omega
theorem rdStepO_sound (k : Int) (pre : List UInt8) (hk : ∀ n, txtO (.mk k n ⟨#[]⟩ []) = pre ++ 32 :: Lib.itoa n) (l : List UInt8) (t : Ot) (r : List UInt8) (h : rdStepO k l = some (t, r)) : pre ++ l = txtO t ++ r ∧ szOt t + 1 ≤ (txtO t).length := by
  unfold rdStepO at h
  split at h
  · cases h
  · rename_i q hq
    split at h
    · cases h
    · rename_i n hn
      cases h
      rw [hk, eat_some hq, ← (unItoa_some hn).1]
      refine ⟨by simp, ?_⟩
      simp [szOt, szOts, emptySize0]
      omega
theorem rdOt_sound (n : Nat) : SoundO (rdOt n) := by
  induction n with
  | zero =>
    intro l t r h
    cases h
  | succ n ih =>
    intro l t r h
    rw [rdOt] at h
    split at h
    · rename_i r' hr
      cases h
      rw [eats_some hr, txtO_1]
      exact ⟨rfl, by simp [szOt, szOts, emptySize0]⟩
    split at h
    · rename_i r' hr
      rw [eats_some hr]
      exact rdNm_sound 2 [46] txtO_2 (by simp) _ _ _ h
    split at h
    · rename_i r' hr
      rw [eats_some hr]
      exact rdNm_sound 3 [63] txtO_3 (by simp) _ _ _ h
    split at h
    · rename_i r' hr
      cases h
      rw [eats_some hr, txtO_4]
      exact ⟨rfl, by simp [szOt, szOts, emptySize0]⟩
    split at h
    · rename_i r' hr
      cases h
      rw [eats_some hr, txtO_5]
      exact ⟨rfl, by simp [szOt, szOts, emptySize0]⟩
    split at h
    · rename_i r' hr
      rw [eats_some hr]
      exact rdNumO_sound 6 [97, 116, 32] txtO_6 (by simp) _ _ _ h
    split at h
    · rename_i r' hr
      rw [eats_some hr]
      exact rdNumO_sound 7 [97, 100, 100, 32] txtO_7 (by simp) _ _ _ h
    split at h
    · rename_i r' hr
      cases h
      rw [eats_some hr, txtO_8]
      exact ⟨rfl, by simp [szOt, szOts, emptySize0]⟩
    split at h
    · rename_i r' hr
      cases h
      rw [eats_some hr, txtO_9]
      exact ⟨rfl, by simp [szOt, szOts, emptySize0]⟩
    split at h
    · rename_i r' hr
      rw [eats_some hr]
      exact rdNm_sound 10 [119, 114, 97, 112, 32] txtO_10 (by simp) _ _ _ h
    split at h
    · rename_i r' hr
      rw [eats_some hr]
      exact rdMapO_sound ih _ _ _ h
    split at h
    · cases h
    · rename_i r' hr
      rw [eat_some hr]
      exact rdTwo_sound ih _ _ _ h
theorem rdWordO_sound {f : List UInt8 → Option (Ot × List UInt8)} (hf : SoundO f) (u l : List UInt8) (t : Ot) (r : List UInt8) (h : rdWordO f u l = some (t, r)) : u ++ l = txtO t ++ r ∧ szOt t + 1 ≤ (txtO t).length := by
  unfold rdWordO at h
  split at h
  · rename_i hu
    cases h
    rw [hu, txtO_1]
    exact ⟨rfl, by simp [szOt, szOts, emptySize0]⟩
  split at h
  · rename_i hu
    cases h
    rw [hu, txtO_4]
    exact ⟨rfl, by simp [szOt, szOts, emptySize0]⟩
  split at h
  · rename_i hu
    cases h
    rw [hu, txtO_5]
    exact ⟨rfl, by simp [szOt, szOts, emptySize0]⟩
  split at h
  · rename_i hu
    cases h
    rw [hu, txtO_8]
    exact ⟨rfl, by simp [szOt, szOts, emptySize0]⟩
  split at h
  · rename_i hu
    cases h
    rw [hu, txtO_9]
    exact ⟨rfl, by simp [szOt, szOts, emptySize0]⟩
  split at h
  · rename_i hu
    rw [hu]
    exact rdStepO_sound 6 [97, 116] txtO_6 _ _ _ h
  split at h
  · rename_i hu
    rw [hu]
    exact rdStepO_sound 7 [97, 100, 100] txtO_7 _ _ _ h
  split at h
  · rename_i hu
    split at h
    · cases h
    · rename_i q hq
      rw [hu, eat_some hq]
      exact rdNm_sound 10 [119, 114, 97, 112, 32] txtO_10 (by simp) _ _ _ h
  split at h
  · rename_i hu
    split at h
    · cases h
    · rename_i q hq
      rw [hu, eat_some hq]
      exact rdMapO_sound hf _ _ _ h
  · cases h
theorem rdOi_sound (n : Nat) : SoundO (rdOi n) := by
  induction n with
  | zero =>
    intro l t r h
    cases h
  | succ n ih =>
    intro l t r h
    rw [rdOi] at h
    split at h
    · rename_i r' hr
      rw [eat_some hr]
      exact rdTwo_sound ih _ _ _ h
    split at h
    · rename_i r' hr
      rw [eat_some hr]
      exact rdNm_sound 2 [46] txtO_2 (by simp) _ _ _ h
    split at h
    · rename_i r' hr
      rw [eat_some hr]
      exact rdNm_sound 3 [63] txtO_3 (by simp) _ _ _ h
    · have h1 := rdWordO_sound ih _ _ _ _ h
      rw [List.takeWhile_append_dropWhile] at h1
      exact h1

/-- What comes behind a text: no letter, no digit, no minus. -/
def StopO (r : List UInt8) : Prop := ∀ c, r.head? = some c → wordC c = false ∧ intC c = false
theorem stopO_cons (c : UInt8) (r : List UInt8) (h : wordC c = false) (h2 : intC c = false) : StopO (c :: r) := fun x hx => by
  simp at hx
  rw [← hx]
  exact ⟨h, h2⟩
theorem StopO.dig {r : List UInt8} (h : StopO r) : Stop r := fun c hc => by
  have := (h c hc).2
  cases hd : digC c with
  | false => rfl
  | true => rw [digC_intC hd] at this; cases this
theorem take_run {C : UInt8 → Bool} {l r : List UInt8} (h : ∀ c ∈ l, C c = true) (hr : ∀ c, r.head? = some c → C c = false) : (l ++ r).takeWhile C = l ∧ (l ++ r).dropWhile C = r := by
  induction l with
  | nil =>
    cases r with
    | nil => exact ⟨rfl, rfl⟩
    | cons c q =>
      have h1 := hr c rfl
      simp [h1]
  | cons a q ih =>
    have h1 := ih fun c hc => h c (by simp [hc])
    have h2 := h a (by simp)
    simp [h2, h1]
theorem itoa_ints (n : Int) : ∀ c ∈ Lib.itoa n, intC c = true := by
  intro c hc
  by_cases h : n < 0
  · rw [Lib.itoa, if_pos h] at hc
    rcases List.mem_cons.1 hc with rfl | hc
    · rfl
    · exact digC_intC (digs_all _ c hc)
  · rw [Lib.itoa, if_neg h] at hc
    exact digC_intC (digs_all _ c hc)
def ReadsO (f : List UInt8 → Option (Ot × List UInt8)) (t : Ot) : Prop := ∀ r, StopO r → f (txtO t ++ r) = some (t, r)
theorem nm_reads (k : Int) (nm : ByteArray) (h : isNameB nm = true) (r : List UInt8) (hr : StopO r) : rdNm k (nm.data.toList ++ r) = some (.mk k 0 nm [], r) := by
  have h1 := take_run (name_word nm h) fun c hc => (hr c hc).1
  rw [rdNm, h1.1, h1.2]
theorem numO_reads (k n : Int) (h : -1000 ≤ n ∧ n ≤ 1000) (r : List UInt8) (hr : StopO r) : rdNumO k (Lib.itoa n ++ r) = some (.mk k n ⟨#[]⟩ [], r) := by
  rw [rdNumO, int_reads n r (by omega) (by omega) hr.dig]
  rfl
theorem stepO_reads (k n : Int) (h : -1000 ≤ n ∧ n ≤ 1000) (r : List UInt8) (hr : StopO r) : rdStepO k (32 :: (Lib.itoa n ++ r)) = some (.mk k n ⟨#[]⟩ [], r) := by
  have h1 := take_run (itoa_ints n) fun c hc => (hr c hc).2
  rw [rdStepO, eat_cons]
  simp only [h1.1, h1.2]
  rw [unItoa_of rfl (by omega) (by omega)]
theorem two_reads {f : List UInt8 → Option (Ot × List UInt8)} (k : Int) (hk : k = 12 ∨ k = 13) (a b : Ot) (ha : ReadsO f a) (hb : ReadsO f b) (r : List UInt8) :
    rdTwo f (txtO a ++ (if k = 12 then 59 else 124) :: (txtO b ++ 41 :: r)) = some (.mk k 0 ⟨#[]⟩ [a, b], r) := by
  rcases hk with rfl | rfl
  · rw [if_pos rfl, rdTwo, ha _ (stopO_cons 59 _ (by decide) (by decide))]
    simp only [eat_cons]
    rw [rdLast, hb _ (stopO_cons 41 _ (by decide) (by decide))]
    simp only [eat_cons]
  · rw [if_neg (by decide), rdTwo, ha _ (stopO_cons 124 _ (by decide) (by decide))]
    simp only [eat_cons, show eat 59 (124 :: (txtO b ++ 41 :: r)) = none from eat_other _ (by decide)]
    rw [rdLast, hb _ (stopO_cons 41 _ (by decide) (by decide))]
    simp only [eat_cons]
theorem mapO_reads {f : List UInt8 → Option (Ot × List UInt8)} (t : Ot) (ht : ReadsO f t) (r : List UInt8) (hr : StopO r) : rdMapO f (txtO t ++ r) = some (.mk 11 0 ⟨#[]⟩ [t], r) := by rw [rdMapO, ht r hr]
theorem eats_miss (a : UInt8) (p : List UInt8) (c : UInt8) (l : List UInt8) (h : a ≠ c) : eats (a :: p) (c :: l) = none := by
  have : (a == c) = false := by rw [beq_eq_false_iff_ne]; exact h
  simp [eats, List.isPrefixOf, this]
theorem eats_next (a : UInt8) (p l : List UInt8) : eats (a :: p) (a :: l) = eats p l := by
  simp [eats, List.isPrefixOf]
theorem eats_nil (l : List UInt8) : eats [] l = some l := by simp [eats]
theorem rdOt_full (n : Nat) : ∀ (t : Ot), formOt t = true → depthOt t ≤ n → ReadsO (rdOt n) t := by
  induction n with
  | zero =>
    intro t _ h
    rw [depthOt_eq] at h
    omega
  | succ n ih =>
    intro t hf hd r hr
    cases t with
    | mk k n0 nm ts =>
      rw [formOt, Bool.and_eq_true] at hf
      rw [depthOt] at hd
      have hts : ∀ t ∈ ts, ReadsO (rdOt n) t := fun t ht => ih t (formOts_mem hf.1 t ht) (depthOts_mem (by omega) t ht)
      rcases nodeOB_forms hf.2 with ⟨hk, rfl, rfl, rfl⟩ | ⟨hk, rfl, hnm, rfl⟩ | ⟨hk, hn, rfl, rfl⟩ | ⟨rfl, rfl, rfl, t, rfl⟩ | ⟨hk, rfl, rfl, a, b, rfl⟩
      · rcases hk with rfl | rfl | rfl | rfl | rfl
        · rw [txtO_1]
          simp [rdOt, eats_next, eats_nil]
        · rw [txtO_4]
          simp [rdOt, eats_next, eats_nil, eats_miss]
        · rw [txtO_5]
          simp [rdOt, eats_next, eats_nil, eats_miss]
        · rw [txtO_8]
          simp [rdOt, eats_next, eats_nil, eats_miss]
        · rw [txtO_9]
          simp [rdOt, eats_next, eats_nil, eats_miss]
      · rcases hk with rfl | rfl | rfl
        · rw [txtO_2]
          simp [rdOt, eats_next, eats_nil, eats_miss, nm_reads _ nm hnm r hr]
        · rw [txtO_3]
          simp [rdOt, eats_next, eats_nil, eats_miss, nm_reads _ nm hnm r hr]
        · rw [txtO_10]
          simp [rdOt, eats_next, eats_nil, eats_miss, nm_reads _ nm hnm r hr]
      · rcases hk with rfl | rfl
        · rw [txtO_6]
          simp [rdOt, eats_next, eats_nil, eats_miss, numO_reads _ n0 hn r hr]
        · rw [txtO_7]
          simp [rdOt, eats_next, eats_nil, eats_miss, numO_reads _ n0 hn r hr]
      · rw [txtO_11]
        simp [rdOt, eats_next, eats_nil, eats_miss, mapO_reads t (hts t (by simp)) r hr]
      · have h2 := two_reads k hk a b (hts a (by simp)) (hts b (by simp)) r
        rcases hk with rfl | rfl
        · rw [if_pos rfl] at h2
          rw [txtO_12]
          simp [rdOt, eats_miss, eat_cons, h2]
        · rw [if_neg (by decide)] at h2
          rw [txtO_13]
          simp [rdOt, eats_miss, eat_cons, h2]
theorem word_run (u r : List UInt8) (hu : u.all wordC = true) (hr : ∀ c, r.head? = some c → wordC c = false) : (u ++ r).takeWhile wordC = u ∧ (u ++ r).dropWhile wordC = r :=
  take_run (fun c hc => List.all_eq_true.1 hu c hc) hr
theorem blank_stop (l : List UInt8) : ∀ c, (32 :: l : List UInt8).head? = some c → wordC c = false := fun c hc => by
  simp at hc
  rw [← hc]
  rfl
theorem rdOi_word (n : Nat) (c : UInt8) (u r : List UInt8) (hu : (c :: u).all wordC = true) (hr : ∀ c, r.head? = some c → wordC c = false) : rdOi (n + 1) (c :: (u ++ r)) = rdWordO (rdOi n) (c :: u) r := by
  have h1 := word_run (c :: u) r hu hr
  have hc : wordC c = true := List.all_eq_true.1 hu c (by simp)
  have ne : ∀ x : UInt8, wordC x = false → c ≠ x := fun x hx e => by rw [e, hx] at hc; cases hc
  rw [List.cons_append] at h1
  rw [rdOi, eat_other _ (ne 40 (by decide)), eat_other _ (ne 46 (by decide)), eat_other _ (ne 63 (by decide))]
  simp only [h1.1, h1.2]
theorem rdOi_full (n : Nat) : ∀ (t : Ot), formOt t = true → depthOt t ≤ n → ReadsO (rdOi n) t := by
  induction n with
  | zero =>
    intro t _ h
    rw [depthOt_eq] at h
    omega
  | succ n ih =>
    intro t hf hd r hr
    have hr1 : ∀ c, r.head? = some c → wordC c = false := fun c hc => (hr c hc).1
    cases t with
    | mk k n0 nm ts =>
      rw [formOt, Bool.and_eq_true] at hf
      rw [depthOt] at hd
      have hts : ∀ t ∈ ts, ReadsO (rdOi n) t := fun t ht => ih t (formOts_mem hf.1 t ht) (depthOts_mem (by omega) t ht)
      rcases nodeOB_forms hf.2 with ⟨hk, rfl, rfl, rfl⟩ | ⟨hk, rfl, hnm, rfl⟩ | ⟨hk, hn, rfl, rfl⟩ | ⟨rfl, rfl, rfl, t, rfl⟩ | ⟨hk, rfl, rfl, a, b, rfl⟩
      · rcases hk with rfl | rfl | rfl | rfl | rfl
        · rw [txtO_1]
          exact rdOi_word n 105 [100] r (by decide) hr1
        · rw [txtO_4]
          exact rdOi_word n 101 [97, 99, 104] r (by decide) hr1
        · rw [txtO_5]
          exact rdOi_word n 97 [108, 108] r (by decide) hr1
        · rw [txtO_8]
          exact rdOi_word n 110 [111, 116] r (by decide) hr1
        · rw [txtO_9]
          exact rdOi_word n 114 [101, 118] r (by decide) hr1
      · rcases hk with rfl | rfl | rfl
        · rw [txtO_2]
          simp [rdOi, eat, nm_reads _ nm hnm r hr]
        · rw [txtO_3]
          simp [rdOi, eat, nm_reads _ nm hnm r hr]
        · rw [txtO_10]
          refine (rdOi_word n 119 [114, 97, 112] (32 :: (nm.data.toList ++ r)) (by decide) (blank_stop _)).trans ?_
          simp [rdWordO, eat_cons, nm_reads _ nm hnm r hr]
      · rcases hk with rfl | rfl
        · rw [txtO_6]
          refine (rdOi_word n 97 [116] (32 :: (Lib.itoa n0 ++ r)) (by decide) (blank_stop _)).trans ?_
          simp [rdWordO, stepO_reads _ n0 hn r hr]
        · rw [txtO_7]
          refine (rdOi_word n 97 [100, 100] (32 :: (Lib.itoa n0 ++ r)) (by decide) (blank_stop _)).trans ?_
          simp [rdWordO, stepO_reads _ n0 hn r hr]
      · rw [txtO_11]
        refine (rdOi_word n 109 [97, 112] (32 :: (txtO t ++ r)) (by decide) (blank_stop _)).trans ?_
        simp [rdWordO, eat_cons, mapO_reads t (hts t (by simp)) r hr]
      · have h2 := two_reads k hk a b (hts a (by simp)) (hts b (by simp)) r
        rcases hk with rfl | rfl
        · rw [if_pos rfl] at h2
          rw [txtO_12]
          simp [rdOi, eat_cons, h2]
        · rw [if_neg (by decide)] at h2
          rw [txtO_13]
          simp [rdOi, eat_cons, h2]

/-- An optic: few nodes, few levels, each of one of the forms. -/
theorem opticB_parts {t : Ot} (h : opticB t = true) : sizeOt t ≤ 20 ∧ depthOt t ≤ 10 ∧ formOt t = true := by
  unfold opticB at h
  simp only [Bool.and_eq_true, decide_eq_true_eq] at h
  exact ⟨h.1.1, h.1.2, h.2⟩
/-- The optic of a text. -/
def parseOB (s : ByteArray) : Option Ot :=
  match rdOt 10 s.data.toList with
  | some (t, []) => if opticB t then some t else none
  | _ => none
theorem parseOB_some {s : ByteArray} {t : Ot} (h : parseOB s = some t) : opticB t = true ∧ txtO t = s.data.toList := by
  unfold parseOB at h
  split at h
  · rename_i t' e
    split at h
    · cases h
      have := (rdOt_sound 10 _ _ _ e).1
      simp_all
    · cases h
  · cases h
theorem parseOB_of {s : ByteArray} {t : Ot} (hv : opticB t = true) (ht : txtO t = s.data.toList) : parseOB s = some t := by
  obtain ⟨_, h1, h2⟩ := opticB_parts hv
  have h3 := rdOt_full 10 t h2 h1 [] (fun c hc => by cases hc)
  rw [List.append_nil, ht] at h3
  unfold parseOB
  rw [h3]
  simp [hv]
theorem parseOB_none {s : ByteArray} (h : ∀ t, opticB t = true → txtO t = s.data.toList → False) : parseOB s = none := by
  cases hp : parseOB s with
  | none => rfl
  | some t => exact (h t (parseOB_some hp).1 (parseOB_some hp).2).elim
/-- The other reader reads the same. -/
theorem parseOB_oi (s : ByteArray) : parseOB s = match rdOi 10 s.data.toList with
  | some (t, []) => if opticB t then some t else none
  | _ => none := by
  split
  · rename_i t e
    split
    · rename_i hv
      have := (rdOi_sound 10 _ _ _ e).1
      exact parseOB_of hv (by simpa using this.symm)
    · rename_i hv
      refine parseOB_none fun u hu ht => ?_
      obtain ⟨_, h1, h2⟩ := opticB_parts hu
      have h3 := rdOi_full 10 u h2 h1 [] (fun c hc => by cases hc)
      rw [List.append_nil, ht, e] at h3
      cases h3
      exact hv hu
  · rename_i hne
    refine parseOB_none fun u hu ht => ?_
    obtain ⟨_, h1, h2⟩ := opticB_parts hu
    have h3 := rdOi_full 10 u h2 h1 [] (fun c hc => by cases hc)
    rw [List.append_nil, ht] at h3
    exact hne u h3
/-- The text of an optic; nothing of another tree. -/
def formatOB (t : Ot) : ByteArray := if opticB t then ⟨(txtO t).toArray⟩ else ⟨#[]⟩
theorem ite_len {c : Prop} [Decidable c] {a b : List UInt8} (ha : 1 ≤ a.length) (hb : 1 ≤ b.length) : 1 ≤ (if c then a else b).length := by
  split <;> assumption
theorem txtO_pos (t : Ot) : 1 ≤ (txtO t).length := by
  cases t with
  | mk k n nm ts =>
    rw [txtO]
    unfold nodeTxtO
    repeat' apply ite_len
    all_goals exact Nat.le_add_left 1 _
/-- How long a text is. -/
theorem txtO_len (t : Ot) : formOt t = true → (txtO t).length ≤ 24 * sizeOt t := by
  induction t using Ot.ind with
  | h k n nm ts ih =>
    intro hf
    rw [formOt, Bool.and_eq_true] at hf
    have hts : ∀ i, (h : i < ts.length) → (txtO ts[i]).length ≤ 24 * sizeOt ts[i] := fun i hi => ih i hi (formOts_at ts hf.1 i hi)
    rw [sizeOt]
    rcases nodeOB_forms hf.2 with ⟨hk, rfl, rfl, rfl⟩ | ⟨hk, rfl, hnm, rfl⟩ | ⟨hk, hn, rfl, rfl⟩ | ⟨rfl, rfl, rfl, t, rfl⟩ | ⟨hk, rfl, rfl, a, b, rfl⟩
    · rcases hk with rfl | rfl | rfl | rfl | rfl <;> simp [txtO, nodeTxtO, sizeOts]
    · have h3 := name_len hnm
      have h4 : nm.data.toList.length = nm.size := by simp
      rcases hk with rfl | rfl | rfl
      · rw [txtO_2]
        simp only [List.length_cons]
        omega
      · rw [txtO_3]
        simp only [List.length_cons]
        omega
      · rw [txtO_10]
        simp only [List.length_cons]
        omega
    · have h3 := itoa_len n (by omega)
      rcases hk with rfl | rfl
      · rw [txtO_6]
        simp only [List.length_cons]
        omega
      · rw [txtO_7]
        simp only [List.length_cons]
        omega
    · have h1 := hts 0 (by simp)
      rw [txtO_11]
      simp only [List.length_cons, sizeOts, List.getElem_cons_zero] at h1 ⊢
      omega
    · have h1 := hts 0 (by simp)
      have h2 := hts 1 (by simp)
      rcases hk with rfl | rfl
      · rw [txtO_12]
        simp only [List.length_cons, List.length_append, List.length_nil, sizeOts, List.getElem_cons_zero, List.getElem_cons_succ] at h1 h2 ⊢
        omega
      · rw [txtO_13]
        simp only [List.length_cons, List.length_append, List.length_nil, sizeOts, List.getElem_cons_zero, List.getElem_cons_succ] at h1 h2 ⊢
        omega

end Go.Proofs.YtlmbnefoobameaaDoor
