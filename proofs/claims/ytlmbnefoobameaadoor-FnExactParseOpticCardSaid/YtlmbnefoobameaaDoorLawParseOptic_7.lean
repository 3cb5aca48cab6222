/- Lemmas: OTxt, Cur, PickInt, ODrawLib, OBuild, SpecCopy, Labeled. -/
import Derived.Test.YtlmbnefoobameaaDoorLawParseOptic_6
import Derived.Test.YtlmbnefoobameaaDoorProg
import Derived.Test.YtlmbnefoobameaaDoorLawParseOptic_1
import Derived.Laws.BitsAllLaws
import Derived.BigGuard
import Derived.Test.YtlmbnefoobameaaDoorLawParseOptic_4
import Derived.Test.YtlmbnefoobameaaDoorLawParseOptic_2
import Derived.Deep.RegionHeldLaw
import Derived.Deep.AppendLies
import Derived.Deep.DeepCutAuto
import Derived.Deep.DrawnRows

section
namespace Go.Proofs.YtlmbnefoobameaaDoor
open Go.RowKit

def nodeTxtO (k n : Int) (nm : ByteArray) (xs : List (List UInt8)) : List UInt8 :=
  if k = 1 then [105, 100]
  else if k = 2 then 46 :: nm.data.toList
  else if k = 3 then 63 :: nm.data.toList
  else if k = 4 then [101, 97, 99, 104]
  else if k = 5 then [97, 108, 108]
  else if k = 6 then 97 :: 116 :: 32 :: Lib.itoa n
  else if k = 7 then 97 :: 100 :: 100 :: 32 :: Lib.itoa n
  else if k = 8 then [110, 111, 116]
  else if k = 9 then [114, 101, 118]
  else if k = 10 then 119 :: 114 :: 97 :: 112 :: 32 :: nm.data.toList
  else if k = 11 then 109 :: 97 :: 112 :: 32 :: xs.headD []
  else 40 :: (xs.headD [] ++ (if k = 12 then 59 else 124) :: (xs.tail.headD [] ++ [41]))
mutual
/-- The text of an optic. -/
def txtO : Ot → List UInt8 | .mk k n nm ts => nodeTxtO k n nm (txtOs ts)
def txtOs : List Ot → List (List UInt8) | [] => [] | t :: r => txtO t :: txtOs r
end
theorem txtOs_map : ∀ (ts : List Ot), txtOs ts = ts.map txtO
  | [] => by rw [txtOs]; rfl
  | t :: r => by rw [txtOs, txtOs_map r]; rfl
theorem txtO_1 : txtO (.mk 1 0 ⟨#[]⟩ []) = [105, 100] := by simp [txtO, nodeTxtO]
theorem txtO_2 (nm : ByteArray) : txtO (.mk 2 0 nm []) = 46 :: nm.data.toList := by simp [txtO, nodeTxtO]
theorem txtO_3 (nm : ByteArray) : txtO (.mk 3 0 nm []) = 63 :: nm.data.toList := by simp [txtO, nodeTxtO]
theorem txtO_4 : txtO (.mk 4 0 ⟨#[]⟩ []) = [101, 97, 99, 104] := by simp [txtO, nodeTxtO]
theorem txtO_5 : txtO (.mk 5 0 ⟨#[]⟩ []) = [97, 108, 108] := by simp [txtO, nodeTxtO]
theorem txtO_6 (n : Int) : txtO (.mk 6 n ⟨#[]⟩ []) = 97 :: 116 :: 32 :: Lib.itoa n := by simp [txtO, nodeTxtO]
theorem txtO_7 (n : Int) : txtO (.mk 7 n ⟨#[]⟩ []) = 97 :: 100 :: 100 :: 32 :: Lib.itoa n := by simp [txtO, nodeTxtO]
theorem txtO_8 : txtO (.mk 8 0 ⟨#[]⟩ []) = [110, 111, 116] := by simp [txtO, nodeTxtO]
theorem txtO_9 : txtO (.mk 9 0 ⟨#[]⟩ []) = [114, 101, 118] := by simp [txtO, nodeTxtO]
theorem txtO_10 (nm : ByteArray) : txtO (.mk 10 0 nm []) = 119 :: 114 :: 97 :: 112 :: 32 :: nm.data.toList := by simp [txtO, nodeTxtO]
theorem txtO_11 (t : Ot) : txtO (.mk 11 0 ⟨#[]⟩ [t]) = 109 :: 97 :: 112 :: 32 :: txtO t := by simp [txtO, nodeTxtO, txtOs]
theorem txtO_12 (a b : Ot) : txtO (.mk 12 0 ⟨#[]⟩ [a, b]) = 40 :: (txtO a ++ 59 :: (txtO b ++ [41])) := by simp [txtO, nodeTxtO, txtOs]
theorem txtO_13 (a b : Ot) : txtO (.mk 13 0 ⟨#[]⟩ [a, b]) = 40 :: (txtO a ++ 124 :: (txtO b ++ [41])) := by simp [txtO, nodeTxtO, txtOs]

/-- The forms of a node. -/
def FormsO (k n : Int) (nm : ByteArray) (ts : List Ot) : Prop :=
  ((k = 1 ∨ k = 4 ∨ k = 5 ∨ k = 8 ∨ k = 9) ∧ n = 0 ∧ nm = ⟨#[]⟩ ∧ ts = []) ∨ ((k = 2 ∨ k = 3 ∨ k = 10) ∧ n = 0 ∧ isNameB nm = true ∧ ts = []) ∨ ((k = 6 ∨ k = 7) ∧ (-1000 ≤ n ∧ n ≤ 1000) ∧ nm = ⟨#[]⟩ ∧ ts = []) ∨
  (k = 11 ∧ n = 0 ∧ nm = ⟨#[]⟩ ∧ ∃ t, ts = [t]) ∨ ((k = 12 ∨ k = 13) ∧ n = 0 ∧ nm = ⟨#[]⟩ ∧ ∃ a b, ts = [a, b])
theorem two_parts : ∀ {ts : List Ot}, ts.length = 2 → ∃ a b, ts = [a, b]
  | [a, b], _ => ⟨a, b, rfl⟩
  | [], h => by simp at h
  | [_], h => by simp at h
  | _ :: _ :: _ :: _, h => by simp at h
theorem nodeOB_forms {k n : Int} {nm : ByteArray} {ts : List Ot} (h : nodeOB k n nm ts.length = true) : FormsO k n nm ts := by
  unfold nodeOB at h
  simp only [Bool.and_eq_true, decide_eq_true_eq] at h
  obtain ⟨⟨h1, h2⟩, h3⟩ := h
  unfold arityI at h2
  unfold numOB at h3
  by_cases hn : k = 2 ∨ k = 3 ∨ k = 10
  · rw [if_pos hn] at h1
    rw [if_neg (by omega), if_neg (by omega), if_pos (by omega)] at h2
    rw [if_neg (by omega), if_neg (by omega)] at h3
    exact Or.inr (Or.inl ⟨hn, by simpa using h3, h1, List.eq_nil_of_length_eq_zero (by omega)⟩)
  · rw [if_neg hn] at h1
    have hnm := osize_nil (by simpa using h1)
    by_cases h11 : k = 11
    · rw [if_pos h11] at h2
      rw [if_neg (by omega), if_neg (by omega)] at h3
      exact Or.inr (Or.inr (Or.inr (Or.inl ⟨h11, by simpa using h3, hnm, List.length_eq_one_iff.1 (by omega)⟩)))
    · rw [if_neg h11] at h2
      by_cases h12 : k = 12 ∨ k = 13
      · rw [if_pos h12] at h2
        rw [if_neg (by omega), if_neg (by omega)] at h3
        exact Or.inr (Or.inr (Or.inr (Or.inr ⟨h12, by simpa using h3, hnm, two_parts (by omega)⟩)))
      · rw [if_neg h12] at h2
        by_cases h10 : 1 ≤ k ∧ k ≤ 10
        · rw [if_pos h10] at h2
          have hts : ts = [] := List.eq_nil_of_length_eq_zero (by omega)
          by_cases h6 : k = 6
          · rw [if_pos h6] at h3
            simp only [decide_eq_true_eq] at h3
            exact Or.inr (Or.inr (Or.inl ⟨Or.inl h6, by omega, hnm, hts⟩))
          · rw [if_neg h6] at h3
            by_cases h7 : k = 7
            · rw [if_pos h7] at h3
              simp only [decide_eq_true_eq] at h3
              exact Or.inr (Or.inr (Or.inl ⟨Or.inr h7, h3, hnm, hts⟩))
            · rw [if_neg h7] at h3
              exact Or.inl ⟨by omega, by simpa using h3, hnm, hts⟩
        · rw [if_neg h10] at h2
          omega
theorem formOts_mem : ∀ {ts : List Ot}, formOts ts = true → ∀ t ∈ ts, formOt t = true
  | [], _, t, h => by cases h
  | a :: r, h, t, ht => by
    rw [formOts, Bool.and_eq_true] at h
    rcases List.mem_cons.1 ht with rfl | h2
    · exact h.1
    · exact formOts_mem h.2 t h2
theorem depthOts_mem : ∀ {ts : List Ot} {n : Nat}, depthOts ts ≤ n → ∀ t ∈ ts, depthOt t ≤ n
  | [], _, _, t, h => by cases h
  | a :: r, n, h, t, ht => by
    rw [depthOts] at h
    rcases List.mem_cons.1 ht with rfl | h2
    · omega
    · exact depthOts_mem (by omega) t h2

/-- A name. -/
def rdNm (k : Int) (l : List UInt8) : Option (Ot × List UInt8) := some (.mk k 0 ⟨(l.takeWhile wordC).toArray⟩ [], l.dropWhile wordC)
def rdNumO (k : Int) (l : List UInt8) : Option (Ot × List UInt8) :=
  match rdIntV l with
  | none => none
  | some (v, r) => some (.mk k v.num ⟨#[]⟩ [], r)
/-- The second optic of two, and the closing bracket. -/
def rdLast (f : List UInt8 → Option (Ot × List UInt8)) (k : Int) (a : Ot) (l : List UInt8) : Option (Ot × List UInt8) :=
  match f l with
  | none => none
  | some (b, q) => match eat 41 q with
    | none => none
    | some r => some (.mk k 0 ⟨#[]⟩ [a, b], r)
def rdTwo (f : List UInt8 → Option (Ot × List UInt8)) (l : List UInt8) : Option (Ot × List UInt8) :=
  match f l with
  | none => none
  | some (a, q) => match eat 59 q with
    | some r => rdLast f 12 a r
    | none => match eat 124 q with
      | none => none
      | some r => rdLast f 13 a r
def rdMapO (f : List UInt8 → Option (Ot × List UInt8)) (l : List UInt8) : Option (Ot × List UInt8) :=
  match f l with
  | none => none
  | some (t, r) => some (.mk 11 0 ⟨#[]⟩ [t], r)
/-- An optic of n levels at most is read, sign by sign. -/
def rdOt : Nat → List UInt8 → Option (Ot × List UInt8)
  | 0, _ => none
  | n + 1, l =>
    match eats [105, 100] l with
    | some r => some (.mk 1 0 ⟨#[]⟩ [], r)
    | none => match eats [46] l with
      | some r => rdNm 2 r
      | none => match eats [63] l with
        | some r => rdNm 3 r
        | none => match eats [101, 97, 99, 104] l with
          | some r => some (.mk 4 0 ⟨#[]⟩ [], r)
          | none => match eats [97, 108, 108] l with
            | some r => some (.mk 5 0 ⟨#[]⟩ [], r)
            | none => match eats [97, 116, 32] l with
              | some r => rdNumO 6 r
              | none => match eats [97, 100, 100, 32] l with
                | some r => rdNumO 7 r
                | none => match eats [110, 111, 116] l with
                  | some r => some (.mk 8 0 ⟨#[]⟩ [], r)
                  | none => match eats [114, 101, 118] l with
                    | some r => some (.mk 9 0 ⟨#[]⟩ [], r)
                    | none => match eats [119, 114, 97, 112, 32] l with
                      | some r => rdNm 10 r
                      | none => match eats [109, 97, 112, 32] l with
                        | some r => rdMapO (rdOt n) r
                        | none => match eat 40 l with
                          | none => none
                          | some r => rdTwo (rdOt n) r
/-- A number behind a blank. -/
def rdStepO (k : Int) (l : List UInt8) : Option (Ot × List UInt8) :=
  match eat 32 l with
  | none => none
  | some q => match unItoa (q.takeWhile intC) with
    | none => none
    | some n => some (.mk k n ⟨#[]⟩ [], q.dropWhile intC)
/-- What a word stands for. -/
def rdWordO (f : List UInt8 → Option (Ot × List UInt8)) (u l : List UInt8) : Option (Ot × List UInt8) :=
  if u = [105, 100] then some (.mk 1 0 ⟨#[]⟩ [], l)
  else if u = [101, 97, 99, 104] then some (.mk 4 0 ⟨#[]⟩ [], l)
  else if u = [97, 108, 108] then some (.mk 5 0 ⟨#[]⟩ [], l)
  else if u = [110, 111, 116] then some (.mk 8 0 ⟨#[]⟩ [], l)
  else if u = [114, 101, 118] then some (.mk 9 0 ⟨#[]⟩ [], l)
  else if u = [97, 116] then rdStepO 6 l
  else if u = [97, 100, 100] then rdStepO 7 l
  else if u = [119, 114, 97, 112] then (match eat 32 l with
    | none => none
    | some q => rdNm 10 q)
  else if u = [109, 97, 112] then (match eat 32 l with
    | none => none
    | some q => rdMapO f q)
  else none
/-- An optic of n levels at most is read, word by word. -/
def rdOi : Nat → List UInt8 → Option (Ot × List UInt8)
  | 0, _ => none
  | n + 1, l =>
    match eat 40 l with
    | some r => rdTwo (rdOi n) r
    | none => match eat 46 l with
      | some r => rdNm 2 r
      | none => match eat 63 l with
        | some r => rdNm 3 r
        | none => rdWordO (rdOi n) (l.takeWhile wordC) (l.dropWhile wordC)

/-- What is read is the text of what it is read as, and no shorter than the tree. -/
def SoundO (f : List UInt8 → Option (Ot × List UInt8)) : Prop := ∀ l t r, f l = some (t, r) → l = txtO t ++ r ∧ szOt t + 1 ≤ (txtO t).length
theorem name_len0 (l : List UInt8) : (⟨l.toArray⟩ : ByteArray).size = l.length := by simp [ByteArray.size]
theorem rdLast_sound {f : List UInt8 → Option (Ot × List UInt8)} (hf : SoundO f) (k : Int) (hk : k = 12 ∨ k = 13) (a : Ot) (ha : szOt a + 1 ≤ (txtO a).length) (l : List UInt8) (t : Ot) (r : List UInt8) (h : rdLast f k a l = some (t, r)) :
    40 :: (txtO a ++ (if k = 12 then 59 else 124) :: l) = txtO t ++ r ∧ szOt t + 1 ≤ (txtO t).length := by
  unfold rdLast at h
  split at h
  · cases h
  · rename_i b q hb
    split at h
    · cases h
    · rename_i r' hr
      cases h
      obtain ⟨h1, h2⟩ := hf _ _ _ hb
      rw [h1, eat_some hr]
      rcases hk with rfl | rfl
      · rw [txtO_12]
        refine ⟨by simp, ?_⟩
        simp [szOt, szOts, emptySize0]
        omega
      · rw [txtO_13]
        refine ⟨by simp, ?_⟩
        simp [szOt, szOts, emptySize0]
        omega
theorem rdTwo_sound {f : List UInt8 → Option (Ot × List UInt8)} (hf : SoundO f) (l : List UInt8) (t : Ot) (r : List UInt8) (h : rdTwo f l = some (t, r)) : 40 :: l = txtO t ++ r ∧ szOt t + 1 ≤ (txtO t).length := by
  unfold rdTwo at h
  split at h
  · cases h
  · rename_i a q ha
    obtain ⟨h1, h2⟩ := hf _ _ _ ha
    split at h
    · rename_i r' hr
      have h3 := rdLast_sound hf 12 (.inl rfl) a h2 _ _ _ h
      rw [if_pos rfl] at h3
      rw [h1, eat_some hr]
      exact h3
    · split at h
      · cases h
      · rename_i r' hr
        have h3 := rdLast_sound hf 13 (.inr rfl) a h2 _ _ _ h
        rw [if_neg (by decide)] at h3
        rw [h1, eat_some hr]
        exact h3
theorem rdMapO_sound {f : List UInt8 → Option (Ot × List UInt8)} (hf : SoundO f) (l : List UInt8) (t : Ot) (r : List UInt8) (h : rdMapO f l = some (t, r)) : 109 :: 97 :: 112 :: 32 :: l = txtO t ++ r ∧ szOt t + 1 ≤ (txtO t).length := by
  unfold rdMapO at h
  split at h
  · cases h
  · rename_i u q hu
    cases h
    obtain ⟨h1, h2⟩ := hf _ _ _ hu
    rw [txtO_11, h1]
    refine ⟨by simp, ?_⟩
    simp [szOt, szOts, emptySize0]
    omega
theorem rdNm_sound (k : Int) (pre : List UInt8) (hk : ∀ nm, txtO (.mk k 0 nm []) = pre ++ nm.data.toList) (hp : pre ≠ []) (l : List UInt8) (t : Ot) (r : List UInt8) (h : rdNm k l = some (t, r)) : pre ++ l = txtO t ++ r ∧ szOt t + 1 ≤ (txtO t).length := by
  unfold rdNm at h
  cases h
  rw [hk]
  refine ⟨by rw [List.append_assoc]; exact congrArg (pre ++ ·) (word_split l), ?_⟩
  have hl : 1 ≤ pre.length := by
    cases pre with
    | nil => exact absurd rfl hp
    | cons a q => simp
  simp [szOt, szOts, name_len0]
  omega
theorem rdNumO_sound (k : Int) (pre : List UInt8) (hk : ∀ n, txtO (.mk k n ⟨#[]⟩ []) = pre ++ Lib.itoa n) (hp : pre ≠ []) (l : List UInt8) (t : Ot) (r : List UInt8) (h : rdNumO k l = some (t, r)) : pre ++ l = txtO t ++ r ∧ szOt t + 1 ≤ (txtO t).length := by
  unfold rdNumO at h
  split at h
  · cases h
  · rename_i v q hv
    cases h
    have h1 := rdInt_sound _ _ _ hv
    have h2 : txtV v = Lib.itoa v.num := by
      unfold rdIntV at hv
      split at hv
      · split at hv
        · cases hv
        · cases hv
          simp [txtV, nodeTxtV, Va.num]
      · split at hv
        · cases hv
        · cases hv
          simp [txtV, nodeTxtV, Va.num]
    rw [hk, h1, h2]
    refine ⟨by simp, ?_⟩
    have hl : 1 ≤ pre.length := by
      cases pre with
      | nil => exact absurd rfl hp
      | cons a q => simp
    simp [szOt, szOts, emptySize0]
    omega
theorem rdStepO_sound (k : Int) (pre : List UInt8) (hk : ∀ n, txtO (.mk k n ⟨#[]⟩ []) = pre ++ 32 :: Lib.itoa n) (l : List UInt8) (t : Ot) (r : List UInt8) (h : rdStepO k l = some (t, r)) : pre ++ l = txtO t ++ r ∧ szOt t + 1 ≤ (txtO t).length := by
  unfold rdStepO at h
  split at h
  · cases h
  · rename_i q hq
    split at h
    · cases h
    · rename_i n hn
      cases h
      rw [hk, eat_some hq, ← (unItoa_some hn).1]
      refine ⟨by simp, ?_⟩
      simp [szOt, szOts, emptySize0]
      omega
theorem rdOt_sound (n : Nat) : SoundO (rdOt n) := by
  induction n with
  | zero =>
    intro l t r h
    cases h
  | succ n ih =>
    intro l t r h
    rw [rdOt] at h
    split at h
    · rename_i r' hr
      cases h
      rw [eats_some hr, txtO_1]
      exact ⟨rfl, by simp [szOt, szOts, emptySize0]⟩
    split at h
    · rename_i r' hr
      rw [eats_some hr]
      exact rdNm_sound 2 [46] txtO_2 (by simp) _ _ _ h
    split at h
    · rename_i r' hr
      rw [eats_some hr]
      exact rdNm_sound 3 [63] txtO_3 (by simp) _ _ _ h
    split at h
    · rename_i r' hr
      cases h
      rw [eats_some hr, txtO_4]
      exact ⟨rfl, by simp [szOt, szOts, emptySize0]⟩
    split at h
    · rename_i r' hr
      cases h
      rw [eats_some hr, txtO_5]
      exact ⟨rfl, by simp [szOt, szOts, emptySize0]⟩
    split at h
    · rename_i r' hr
      rw [eats_some hr]
      exact rdNumO_sound 6 [97, 116, 32] txtO_6 (by simp) _ _ _ h
    split at h
    · rename_i r' hr
      rw [eats_some hr]
      exact rdNumO_sound 7 [97, 100, 100, 32] txtO_7 (by simp) _ _ _ h
    split at h
    · rename_i r' hr
      cases h
      rw [eats_some hr, txtO_8]
      exact ⟨rfl, by simp [szOt, szOts, emptySize0]⟩
    split at h
    · rename_i r' hr
      cases h
      rw [eats_some hr, txtO_9]
      exact ⟨rfl, by simp [szOt, szOts, emptySize0]⟩
    split at h
    · rename_i r' hr
      rw [eats_some hr]
      exact rdNm_sound 10 [119, 114, 97, 112, 32] txtO_10 (by simp) _ _ _ h
    split at h
    · rename_i r' hr
      rw [eats_some hr]
      exact rdMapO_sound ih _ _ _ h
    split at h
    · cases h
    · rename_i r' hr
      rw [eat_some hr]
      exact rdTwo_sound ih _ _ _ h
theorem rdWordO_sound {f : List UInt8 → Option (Ot × List UInt8)} (hf : SoundO f) (u l : List UInt8) (t : Ot) (r : List UInt8) (h : rdWordO f u l = some (t, r)) : u ++ l = txtO t ++ r ∧ szOt t + 1 ≤ (txtO t).length := by
  unfold rdWordO at h
  split at h
  · rename_i hu
    cases h
    rw [hu, txtO_1]
    exact ⟨rfl, by simp [szOt, szOts, emptySize0]⟩
  split at h
  · rename_i hu
    cases h
    rw [hu, txtO_4]
    exact ⟨rfl, by simp [szOt, szOts, emptySize0]⟩
  split at h
  · rename_i hu
    cases h
    rw [hu, txtO_5]
    exact ⟨rfl, by simp [szOt, szOts, emptySize0]⟩
  split at h
  · rename_i hu
    cases h
    rw [hu, txtO_8]
    exact ⟨rfl, by simp [szOt, szOts, emptySize0]⟩
  split at h
  · rename_i hu
    cases h
    rw [hu, txtO_9]
    exact ⟨rfl, by simp [szOt, szOts, emptySize0]⟩
  split at h
  · rename_i hu
    rw [hu]
    exact rdStepO_sound 6 [97, 116] txtO_6 _ _ _ h
  split at h
  · rename_i hu
    rw [hu]
    exact rdStepO_sound 7 [97, 100, 100] txtO_7 _ _ _ h
  split at h
  · rename_i hu
    split at h
    · cases h
    · rename_i q hq
      rw [hu, eat_some hq]
      exact rdNm_sound 10 [119, 114, 97, 112, 32] txtO_10 (by simp) _ _ _ h
  split at h
  · rename_i hu
    split at h
    · cases h
    · rename_i q hq
      rw [hu, eat_some hq]
      exact rdMapO_sound hf _ _ _ h
  · cases h
theorem rdOi_sound (n : Nat) : SoundO (rdOi n) := by
  induction n with
  | zero =>
    intro l t r h
    cases h
  | succ n ih =>
    intro l t r h
    rw [rdOi] at h
    split at h
    · rename_i r' hr
      rw [eat_some hr]
      exact rdTwo_sound ih _ _ _ h
    split at h
    · rename_i r' hr
      rw [eat_some hr]
      exact rdNm_sound 2 [46] txtO_2 (by simp) _ _ _ h
    split at h
    · rename_i r' hr
      rw [eat_some hr]
      exact rdNm_sound 3 [63] txtO_3 (by simp) _ _ _ h
    · have h1 := rdWordO_sound ih _ _ _ _ h
      rw [List.takeWhile_append_dropWhile] at h1
      exact h1

/-- What comes behind a text: no letter, no digit, no minus. -/
def StopO (r : List UInt8) : Prop := ∀ c, r.head? = some c → wordC c = false ∧ intC c = false
theorem stopO_cons (c : UInt8) (r : List UInt8) (h : wordC c = false) (h2 : intC c = false) : StopO (c :: r) := fun x hx => by
  simp at hx
  rw [← hx]
  exact ⟨h, h2⟩
theorem StopO.dig {r : List UInt8} (h : StopO r) : Stop r := fun c hc => by
  have := (h c hc).2
  cases hd : digC c with
  | false => rfl
  | true => rw [digC_intC hd] at this; cases this
theorem take_run {C : UInt8 → Bool} {l r : List UInt8} (h : ∀ c ∈ l, C c = true) (hr : ∀ c, r.head? = some c → C c = false) : (l ++ r).takeWhile C = l ∧ (l ++ r).dropWhile C = r := by
  induction l with
  | nil =>
    cases r with
    | nil => exact ⟨rfl, rfl⟩
    | cons c q =>
      have h1 := hr c rfl
      simp [h1]
  | cons a q ih =>
    have h1 := ih fun c hc => h c (by simp [hc])
    have h2 := h a (by simp)
    simp [h2, h1]
theorem itoa_ints (n : Int) : ∀ c ∈ Lib.itoa n, intC c = true := by
  intro c hc
  by_cases h : n < 0
  · rw [Lib.itoa, if_pos h] at hc
    rcases List.mem_cons.1 hc with rfl | hc
    · rfl
    · exact digC_intC (digs_all _ c hc)
  · rw [Lib.itoa, if_neg h] at hc
    exact digC_intC (digs_all _ c hc)
def ReadsO (f : List UInt8 → Option (Ot × List UInt8)) (t : Ot) : Prop := ∀ r, StopO r → f (txtO t ++ r) = some (t, r)
theorem nm_reads (k : Int) (nm : ByteArray) (h : isNameB nm = true) (r : List UInt8) (hr : StopO r) : rdNm k (nm.data.toList ++ r) = some (.mk k 0 nm [], r) := by
  have h1 := take_run (name_word nm h) fun c hc => (hr c hc).1
  rw [rdNm, h1.1, h1.2]
theorem numO_reads (k n : Int) (h : -1000 ≤ n ∧ n ≤ 1000) (r : List UInt8) (hr : StopO r) : rdNumO k (Lib.itoa n ++ r) = some (.mk k n ⟨#[]⟩ [], r) := by
  rw [rdNumO, int_reads n r (by omega) (by omega) hr.dig]
  rfl
theorem stepO_reads (k n : Int) (h : -1000 ≤ n ∧ n ≤ 1000) (r : List UInt8) (hr : StopO r) : rdStepO k (32 :: (Lib.itoa n ++ r)) = some (.mk k n ⟨#[]⟩ [], r) := by
  have h1 := take_run (itoa_ints n) fun c hc => (hr c hc).2
  rw [rdStepO, eat_cons]
  simp only [h1.1, h1.2]
  rw [unItoa_of rfl (by omega) (by omega)]
theorem two_reads {f : List UInt8 → Option (Ot × List UInt8)} (k : Int) (hk : k = 12 ∨ k = 13) (a b : Ot) (ha : ReadsO f a) (hb : ReadsO f b) (r : List UInt8) :
    rdTwo f (txtO a ++ (if k = 12 then 59 else 124) :: (txtO b ++ 41 :: r)) = some (.mk k 0 ⟨#[]⟩ [a, b], r) := by
  rcases hk with rfl | rfl
  · rw [if_pos rfl, rdTwo, ha _ (stopO_cons 59 _ (by decide) (by decide))]
    simp only [eat_cons]
    rw [rdLast, hb _ (stopO_cons 41 _ (by decide) (by decide))]
    simp only [eat_cons]
  · rw [if_neg (by decide), rdTwo, ha _ (stopO_cons 124 _ (by decide) (by decide))]
    simp only [eat_cons, show eat 59 (124 :: (txtO b ++ 41 :: r)) = none from eat_other _ (by decide)]
    rw [rdLast, hb _ (stopO_cons 41 _ (by decide) (by decide))]
    simp only [eat_cons]
theorem mapO_reads {f : List UInt8 → Option (Ot × List UInt8)} (t : Ot) (ht : ReadsO f t) (r : List UInt8) (hr : StopO r) : rdMapO f (txtO t ++ r) = some (.mk 11 0 ⟨#[]⟩ [t], r) := by rw [rdMapO, ht r hr]
theorem eats_miss (a : UInt8) (p : List UInt8) (c : UInt8) (l : List UInt8) (h : a ≠ c) : eats (a :: p) (c :: l) = none := by
  have : (a == c) = false := by rw [beq_eq_false_iff_ne]; exact h
  simp [eats, List.isPrefixOf, this]
theorem eats_next (a : UInt8) (p l : List UInt8) : eats (a :: p) (a :: l) = eats p l := by
  simp [eats, List.isPrefixOf]
theorem eats_nil (l : List UInt8) : eats [] l = some l := by simp [eats]
theorem rdOt_full (n : Nat) : ∀ (t : Ot), formOt t = true → depthOt t ≤ n → ReadsO (rdOt n) t := by
  induction n with
  | zero =>
    intro t _ h
    rw [depthOt_eq] at h
    omega
  | succ n ih =>
    intro t hf hd r hr
    cases t with
    | mk k n0 nm ts =>
      rw [formOt, Bool.and_eq_true] at hf
      rw [depthOt] at hd
      have hts : ∀ t ∈ ts, ReadsO (rdOt n) t := fun t ht => ih t (formOts_mem hf.1 t ht) (depthOts_mem (by omega) t ht)
      rcases nodeOB_forms hf.2 with ⟨hk, rfl, rfl, rfl⟩ | ⟨hk, rfl, hnm, rfl⟩ | ⟨hk, hn, rfl, rfl⟩ | ⟨rfl, rfl, rfl, t, rfl⟩ | ⟨hk, rfl, rfl, a, b, rfl⟩
      · rcases hk with rfl | rfl | rfl | rfl | rfl
        · rw [txtO_1]
          simp [rdOt, eats_next, eats_nil]
        · rw [txtO_4]
          simp [rdOt, eats_next, eats_nil, eats_miss]
        · rw [txtO_5]
          simp [rdOt, eats_next, eats_nil, eats_miss]
        · rw [txtO_8]
          simp [rdOt, eats_next, eats_nil, eats_miss]
        · rw [txtO_9]
          simp [rdOt, eats_next, eats_nil, eats_miss]
      · rcases hk with rfl | rfl | rfl
        · rw [txtO_2]
          simp [rdOt, eats_next, eats_nil, eats_miss, nm_reads _ nm hnm r hr]
        · rw [txtO_3]
          simp [rdOt, eats_next, eats_nil, eats_miss, nm_reads _ nm hnm r hr]
        · rw [txtO_10]
          simp [rdOt, eats_next, eats_nil, eats_miss, nm_reads _ nm hnm r hr]
      · rcases hk with rfl | rfl
        · rw [txtO_6]
          simp [rdOt, eats_next, eats_nil, eats_miss, numO_reads _ n0 hn r hr]
        · rw [txtO_7]
          simp [rdOt, eats_next, eats_nil, eats_miss, numO_reads _ n0 hn r hr]
      · rw [txtO_11]
        simp [rdOt, eats_next, eats_nil, eats_miss, mapO_reads t (hts t (by simp)) r hr]
      · have h2 := two_reads k hk a b (hts a (by simp)) (hts b (by simp)) r
        rcases hk with rfl | rfl
        · rw [if_pos rfl] at h2
          rw [txtO_12]
          simp [rdOt, eats_miss, eat_cons, h2]
        · rw [if_neg (by decide)] at h2
          rw [txtO_13]
          simp [rdOt, eats_miss, eat_cons, h2]
theorem word_run (u r : List UInt8) (hu : u.all wordC = true) (hr : ∀ c, r.head? = some c → wordC c = false) : (u ++ r).takeWhile wordC = u ∧ (u ++ r).dropWhile wordC = r :=
  take_run (fun c hc => List.all_eq_true.1 hu c hc) hr
theorem blank_stop (l : List UInt8) : ∀ c, (32 :: l : List UInt8).head? = some c → wordC c = false := fun c hc => by
  simp at hc
  rw [← hc]
  rfl
theorem rdOi_word (n : Nat) (c : UInt8) (u r : List UInt8) (hu : (c :: u).all wordC = true) (hr : ∀ c, r.head? = some c → wordC c = false) : rdOi (n + 1) (c :: (u ++ r)) = rdWordO (rdOi n) (c :: u) r := by
  have h1 := word_run (c :: u) r hu hr
  have hc : wordC c = true := List.all_eq_true.1 hu c (by simp)
  have ne : ∀ x : UInt8, wordC x = false → c ≠ x := fun x hx e => by rw [e, hx] at hc; cases hc
  rw [List.cons_append] at h1
  rw [rdOi, eat_other _ (ne 40 (by decide)), eat_other _ (ne 46 (by decide)), eat_other _ (ne 63 (by decide))]
  simp only [h1.1, h1.2]
theorem rdOi_full (n : Nat) : ∀ (t : Ot), formOt t = true → depthOt t ≤ n → ReadsO (rdOi n) t := by
  induction n with
  | zero =>
    intro t _ h
    rw [depthOt_eq] at h
    omega
  | succ n ih =>
    intro t hf hd r hr
    have hr1 : ∀ c, r.head? = some c → wordC c = false := fun c hc => (hr c hc).1
    cases t with
    | mk k n0 nm ts =>
      rw [formOt, Bool.and_eq_true] at hf
      rw [depthOt] at hd
      have hts : ∀ t ∈ ts, ReadsO (rdOi n) t := fun t ht => ih t (formOts_mem hf.1 t ht) (depthOts_mem (by omega) t ht)
      rcases nodeOB_forms hf.2 with ⟨hk, rfl, rfl, rfl⟩ | ⟨hk, rfl, hnm, rfl⟩ | ⟨hk, hn, rfl, rfl⟩ | ⟨rfl, rfl, rfl, t, rfl⟩ | ⟨hk, rfl, rfl, a, b, rfl⟩
      · rcases hk with rfl | rfl | rfl | rfl | rfl
        · rw [txtO_1]
          exact rdOi_word n 105 [100] r (by decide) hr1
        · rw [txtO_4]
          exact rdOi_word n 101 [97, 99, 104] r (by decide) hr1
        · rw [txtO_5]
          exact rdOi_word n 97 [108, 108] r (by decide) hr1
        · rw [txtO_8]
          exact rdOi_word n 110 [111, 116] r (by decide) hr1
        · rw [txtO_9]
          exact rdOi_word n 114 [101, 118] r (by decide) hr1
      · rcases hk with rfl | rfl | rfl
        · rw [txtO_2]
          simp [rdOi, eat, nm_reads _ nm hnm r hr]
        · rw [txtO_3]
          simp [rdOi, eat, nm_reads _ nm hnm r hr]
        · rw [txtO_10]
          refine (rdOi_word n 119 [114, 97, 112] (32 :: (nm.data.toList ++ r)) (by decide) (blank_stop _)).trans ?_
          simp [rdWordO, eat_cons, nm_reads _ nm hnm r hr]
      · rcases hk with rfl | rfl
        · rw [txtO_6]
          refine (rdOi_word n 97 [116] (32 :: (Lib.itoa n0 ++ r)) (by decide) (blank_stop _)).trans ?_
          simp [rdWordO, stepO_reads _ n0 hn r hr]
        · rw [txtO_7]
          refine (rdOi_word n 97 [100, 100] (32 :: (Lib.itoa n0 ++ r)) (by decide) (blank_stop _)).trans ?_
          simp [rdWordO, stepO_reads _ n0 hn r hr]
      · rw [txtO_11]
        refine (rdOi_word n 109 [97, 112] (32 :: (txtO t ++ r)) (by decide) (blank_stop _)).trans ?_
        simp [rdWordO, eat_cons, mapO_reads t (hts t (by simp)) r hr]
      · have h2 := two_reads k hk a b (hts a (by simp)) (hts b (by simp)) r
        rcases hk with rfl | rfl
        · rw [if_pos rfl] at h2
          rw [txtO_12]
          simp [rdOi, eat_cons, h2]
        · rw [if_neg (by decide)] at h2
          rw [txtO_13]
          simp [rdOi, eat_cons, h2]

/-- An optic: few nodes, few levels, each of one of the forms. -/
theorem opticB_parts {t : Ot} (h : opticB t = true) : sizeOt t ≤ 20 ∧ depthOt t ≤ 10 ∧ formOt t = true := by
  unfold opticB at h
  simp only [Bool.and_eq_true, decide_eq_true_eq] at h
  exact ⟨h.1.1, h.1.2, h.2⟩
/-- The optic of a text. -/
def parseOB (s : ByteArray) : Option Ot :=
  match rdOt 10 s.data.toList with
  | some (t, []) => if opticB t then some t else none
  | _ => none
theorem parseOB_some {s : ByteArray} {t : Ot} (h : parseOB s = some t) : opticB t = true ∧ txtO t = s.data.toList := by
  unfold parseOB at h
  split at h
  · rename_i t' e
    split at h
    · cases h
      have := (rdOt_sound 10 _ _ _ e).1
      simp_all
    · cases h
  · cases h
theorem parseOB_of {s : ByteArray} {t : Ot} (hv : opticB t = true) (ht : txtO t = s.data.toList) : parseOB s = some t := by
  obtain ⟨_, h1, h2⟩ := opticB_parts hv
  have h3 := rdOt_full 10 t h2 h1 [] (fun c hc => by cases hc)
  rw [List.append_nil, ht] at h3
  unfold parseOB
  rw [h3]
  simp [hv]
theorem parseOB_none {s : ByteArray} (h : ∀ t, opticB t = true → txtO t = s.data.toList → False) : parseOB s = none := by
  cases hp : parseOB s with
  | none => rfl
  | some t => exact (h t (parseOB_some hp).1 (parseOB_some hp).2).elim
/-- The other reader reads the same. -/
theorem parseOB_oi (s : ByteArray) : parseOB s = match rdOi 10 s.data.toList with
  | some (t, []) => if opticB t then some t else none
  | _ => none := by
  split
  · rename_i t e
    split
    · rename_i hv
      have := (rdOi_sound 10 _ _ _ e).1
      exact parseOB_of hv (by simpa using this.symm)
    · rename_i hv
      refine parseOB_none fun u hu ht => ?_
      obtain ⟨_, h1, h2⟩ := opticB_parts hu
      have h3 := rdOi_full 10 u h2 h1 [] (fun c hc => by cases hc)
      rw [List.append_nil, ht, e] at h3
      cases h3
      exact hv hu
  · rename_i hne
    refine parseOB_none fun u hu ht => ?_
    obtain ⟨_, h1, h2⟩ := opticB_parts hu
    have h3 := rdOi_full 10 u h2 h1 [] (fun c hc => by cases hc)
    rw [List.append_nil, ht] at h3
    exact hne u h3
/-- The text of an optic; nothing of another tree. -/
def formatOB (t : Ot) : ByteArray := if opticB t then ⟨(txtO t).toArray⟩ else ⟨#[]⟩
theorem ite_len {c : Prop} [Decidable c] {a b : List UInt8} (ha : 1 ≤ a.length) (hb : 1 ≤ b.length) : 1 ≤ (if c then a else b).length := by
  split <;> assumption
theorem txtO_pos (t : Ot) : 1 ≤ (txtO t).length := by
  cases t with
  | mk k n nm ts =>
    rw [txtO]
    unfold nodeTxtO
    repeat' apply ite_len
    all_goals exact Nat.le_add_left 1 _
/-- How long a text is. -/
theorem txtO_len (t : Ot) : formOt t = true → (txtO t).length ≤ 24 * sizeOt t := by
  induction t using Ot.ind with
  | h k n nm ts ih =>
    intro hf
    rw [formOt, Bool.and_eq_true] at hf
    have hts : ∀ i, (h : i < ts.length) → (txtO ts[i]).length ≤ 24 * sizeOt ts[i] := fun i hi => ih i hi (formOts_at ts hf.1 i hi)
    rw [sizeOt]
    rcases nodeOB_forms hf.2 with ⟨hk, rfl, rfl, rfl⟩ | ⟨hk, rfl, hnm, rfl⟩ | ⟨hk, hn, rfl, rfl⟩ | ⟨rfl, rfl, rfl, t, rfl⟩ | ⟨hk, rfl, rfl, a, b, rfl⟩
    · rcases hk with rfl | rfl | rfl | rfl | rfl <;> simp [txtO, nodeTxtO, sizeOts]
    · have h3 := name_len hnm
      have h4 : nm.data.toList.length = nm.size := by simp
      rcases hk with rfl | rfl | rfl
      · rw [txtO_2]
        simp only [List.length_cons]
        omega
      · rw [txtO_3]
        simp only [List.length_cons]
        omega
      · rw [txtO_10]
        simp only [List.length_cons]
        omega
    · have h3 := itoa_len n (by omega)
      rcases hk with rfl | rfl
      · rw [txtO_6]
        simp only [List.length_cons]
        omega
      · rw [txtO_7]
        simp only [List.length_cons]
        omega
    · have h1 := hts 0 (by simp)
      rw [txtO_11]
      simp only [List.length_cons, sizeOts, List.getElem_cons_zero] at h1 ⊢
      omega
    · have h1 := hts 0 (by simp)
      have h2 := hts 1 (by simp)
      rcases hk with rfl | rfl
      · rw [txtO_12]
        simp only [List.length_cons, List.length_append, List.length_nil, sizeOts, List.getElem_cons_zero, List.getElem_cons_succ] at h1 h2 ⊢
        omega
      · rw [txtO_13]
        simp only [List.length_cons, List.length_append, List.length_nil, sizeOts, List.getElem_cons_zero, List.getElem_cons_succ] at h1 h2 ⊢
        omega

end Go.Proofs.YtlmbnefoobameaaDoor
end

section
namespace Go.Proofs.YtlmbnefoobameaaDoor
open Go.RowKit

/-- The slice of address A holds n bytes, below block B. -/
def BytesAt (w : World) (B : Nat) (A : Option Addr) (n : Nat) : Prop :=
  ∀ i, i < n → ∃ b off x, A = some ⟨b, off, none⟩ ∧ b < B ∧ w.cell? ⟨b, off + i, none⟩ = some (.int .u8 x) ∧ 0 ≤ x ∧ x ≤ 255
theorem BytesAt.keep {w w' : World} {B n : Nat} {A : Option Addr} (h : BytesAt w B A n) (hk : ∀ p : Addr, p.block < B → w'.cell? p = w.cell? p) : BytesAt w' B A n := fun i hi => by
  obtain ⟨b, off, x, h1, h2, h3, h4⟩ := h i hi
  exact ⟨b, off, x, h1, h2, (hk _ h2).trans h3, h4⟩
theorem BytesAt.below {w w' : World} {B n : Nat} {A : Option Addr} (h : BytesAt w B A n) (hb : Below B w w') : BytesAt w' B A n := h.keep fun _ hp => hb.cell hp

theorem BytesAt.keepMore {w : World} {B B' n : Nat} {A : Option Addr} (h : BytesAt w B A n) (hB : B ≤ B') : BytesAt w B' A n := fun i hi => by
  obtain ⟨b, off, x, h1, h2, h3⟩ := h i hi
  exact ⟨b, off, x, h1, by omega, h3⟩

/-- The cursor lies in block p. -/
def CurAt (w : World) (B p : Nat) : Prop :=
  ∃ A n cap i h, Whole1 w p 92 #[.slice A n cap, .int .i64 ((i : Nat) : Int), .int .i64 h] ∧ i ≤ n ∧ n ≤ maxLen ∧ BytesAt w B A n ∧ B ≤ p
theorem CurAt.lt {w : World} {B p : Nat} (h : CurAt w B p) : p < w.heap.size := by
  obtain ⟨A, n, cap, i, h, h1, _⟩ := h
  exact h1.lt
theorem CurAt.low {w : World} {B p : Nat} (h : CurAt w B p) : B ≤ p := by
  obtain ⟨A, n, cap, i, h, h1, _, _, _, h2⟩ := h
  exact h2
theorem CurAt.below {w w' : World} {B p : Nat} (h : CurAt w B p) (hb : Below w.heap.size w w') : CurAt w' B p := by
  have hl := h.lt
  obtain ⟨A, n, cap, i, x, h1, h2, h3, h4, h5⟩ := h
  exact ⟨A, n, cap, i, x, h1.below hb h1.lt, h2, h3, h4.below (hb.mono (by omega)), h5⟩

theorem and255 (x : Int) : 0 ≤ bits .and .i64 x 255 ∧ bits .and .i64 x 255 ≤ 255 := by
  have h : ((BitVec.ofInt 64 x) &&& (BitVec.ofInt 64 255)).toNat ≤ 255 := by
    rw [BitVec.toNat_and]
    exact Nat.and_le_right
  show 0 ≤ IntKind.i64.wrap (((BitVec.ofInt 64 x) &&& (BitVec.ofInt 64 255)).toNat : Int) ∧ IntKind.i64.wrap (((BitVec.ofInt 64 x) &&& (BitVec.ofInt 64 255)).toNat : Int) ≤ 255
  rw [IntKind.wrap_i64]
  omega

/-- A number from 0 to m is handed back; only the cursor has turned. -/
def Drawn (w : World) (B p : Nat) (m : Int) (e : Ending) (w' : World) : Prop :=
  (∃ x : Int, e = .returned (.int .i64 x) ∧ 0 ≤ x ∧ x ≤ m) ∧ CurAt w' B p ∧ w.grownBy w' (some p)

set_option maxHeartbeats 1000000 in
theorem l1Byte_any (p B : Nat) (w : World) (hc : CurAt w B p) :
    Calls Tryd.prog 72 #[.pointer (some ⟨p, 0, none⟩)] w (Drawn w B p 255) := by
  obtain ⟨A, n, cap, i, h, hw, hi, hn, hby, hB⟩ := hc
  have c0 : w.cell? ⟨p, 0, none⟩ = some (.slice A n cap) := hw.cell 0
  have c1 : w.cell? ⟨p, 1, none⟩ = some (.int .i64 (i : Int)) := hw.cell 1
  have c2 : w.cell? ⟨p, 2, none⟩ = some (.int .i64 h) := hw.cell 2
  have f2 : w.frozen? ⟨p, 2, none⟩ = false := hw.free 2
  have f1 : w.frozen? ⟨p, 1, none⟩ = false := hw.free 1
  unfold maxLen at hn
  by_cases hlt : i < n
  · obtain ⟨b, off, x, rfl, hb, hx, hx0, hx1⟩ := hby i hlt
    have hcb : ∀ v, (w.setCell ⟨p, 2, none⟩ v).cell? ⟨b, off + i, none⟩ = some (.int .u8 x) := fun v => (World.cell?_setCell_other w ⟨p, 2, none⟩ ⟨b, off + i, none⟩ v (fun e => by injection e with e; omega)).trans hx
    have hltI : (i : Int) < (n : Int) := by omega
    have HW := Lib.hid hw
    have HY := Lib.hid hby
    clear hw hby hx
    go_enter Tryd.func72, Tryd.ntmps72
    go_wp2
    go_quiet (fail)
    go_wp2
    go_quiet (fail)
    go_wp2
    go_quiet (fail)
    go_wp2
    go_ret
    refine ⟨⟨_, rfl, (and255 _).1, (and255 _).2⟩, ⟨some ⟨b, off, none⟩, n, cap, i + 1, _, ((HW.out.set 2 _).drewN _).set 1 _, by omega, by unfold maxLen; omega, HY.out.keep fun q hq => ?_, hB⟩, only_set (only_drewN (only_set (only_refl _ _) 2 _) _) 1 _⟩
    have e2 : (⟨p, 2, none⟩ : Addr) ≠ q := fun e => by subst e; simp at hq; omega
    have e1 : (⟨p, 1, none⟩ : Addr) ≠ q := fun e => by subst e; simp at hq; omega
    exact (World.cell?_setCell_other _ ⟨p, 1, none⟩ q _ e1).trans (World.cell?_setCell_other w ⟨p, 2, none⟩ q _ e2)
  · have hltI : ¬ (i : Int) < (n : Int) := by omega
    have HW := Lib.hid hw
    have HY := Lib.hid hby
    clear hw hby
    go_enter Tryd.func72, Tryd.ntmps72
    go_wp2
    go_quiet (fail)
    go_wp2
    go_quiet (fail)
    go_wp2
    go_ret
    refine ⟨⟨_, rfl, (and255 _).1, (and255 _).2⟩, ⟨A, n, cap, i, _, ((HW.out.set 2 _).drewN _).drewN _, hi, by unfold maxLen; omega, HY.out.keep fun q hq => World.cell?_setCell_other w ⟨p, 2, none⟩ q _ (fun e => by subst e; simp at hq; omega), hB⟩, only_drewN (only_drewN (only_set (only_refl _ _) 2 _) _) _⟩

theorem mod_bounds (x n : Int) (hn : 0 < n) : 0 ≤ x % n ∧ x % n ≤ n - 1 := by
  have h1 := Int.emod_nonneg x (show n ≠ 0 by omega)
  have h2 := Int.emod_lt_of_pos x hn
  omega

set_option maxHeartbeats 1000000 in
theorem l1Below_any (p B : Nat) (n : Int) (w : World) (hc : CurAt w B p) (hn : 1 ≤ n) (hn2 : n ≤ 2 ^ 40) :
    Calls Tryd.prog 34 #[.pointer (some ⟨p, 0, none⟩), .int .i64 n] w (Drawn w B p (n - 1)) := by
  have hn0 : ¬ n ≤ 0 := by omega
  by_cases h256 : n ≤ 256
  · have h1 := Lib.hid (l1Byte_any p B w hc)
    clear hc
    go_enter Tryd.func34, Tryd.ntmps34
    go_wp2_with fail
    refine h1.out.mono ?_
    rintro e w1 ⟨⟨x, rfl, hx0, hx1⟩, hc1, ho1⟩
    have hm := mod_bounds x n (by omega)
    have hnz : (n == 0) = false := by rw [beq_eq_false_iff_ne]; omega
    go_wp2
    go_ret
    exact ⟨⟨_, rfl, hm.1, hm.2⟩, hc1, ho1⟩
  · have h1 := Lib.hid (fun W h => l1Byte_any p B W h)
    go_enter Tryd.func34, Tryd.ntmps34
    go_wp2_with fail
    refine (h1.out w hc).mono ?_
    rintro e w1 ⟨⟨x, rfl, hx0, hx1⟩, hc1, ho1⟩
    go_wp2_with fail
    refine (h1.out w1 hc1).mono ?_
    rintro e w2 ⟨⟨y, rfl, hy0, hy1⟩, hc2, ho2⟩
    go_wp2_with fail
    refine (h1.out w2 hc2).mono ?_
    rintro e w3 ⟨⟨z, rfl, hz0, hz1⟩, hc3, ho3⟩
    go_wp2_with fail
    refine (h1.out w3 hc3).mono ?_
    rintro e w4 ⟨⟨u, rfl, hu0, hu1⟩, hc4, ho4⟩
    have hm := mod_bounds (x * 16777216 + y * 65536 + z * 256 + u) n (by omega)
    have hnz : (n == 0) = false := by rw [beq_eq_false_iff_ne]; omega
    go_wp2
    go_ret
    exact ⟨⟨_, rfl, hm.1, hm.2⟩, hc4, only_trans (only_trans (only_trans ho1 ho2) ho3) ho4⟩

/-- Below 0 nothing is drawn. -/
theorem l1Below_none (p : Nat) (n : Int) (w : World) (hn : n ≤ 0) :
    Calls Tryd.prog 34 #[.pointer (some ⟨p, 0, none⟩), .int .i64 n] w fun e w' => e = .returned (.int .i64 0) ∧ w = w' := by
  go_enter Tryd.func34, Tryd.ntmps34
  go_wp2
  go_ret
  exact ⟨rfl, rfl⟩

/-- One of the strings is handed back; only the cursor has turned. -/
def DrawnStr (w : World) (B p : Nat) (ss : List ByteArray) (e : Ending) (w' : World) : Prop :=
  (∃ x : ByteArray, e = .returned (.string x) ∧ x ∈ ss) ∧ CurAt w' B p ∧ w.grownBy w' (some p)

set_option maxHeartbeats 1000000 in
theorem l1Pick_any (p B D c : Nat) (A : Option Addr) (ss : List ByteArray) (w : World) (hc : CurAt w B p) (hA : StrsAt w D A ss) (hne : ∀ q b off, A = some ⟨b, off, q⟩ → b ≠ p) (h0 : 0 < ss.length) (h1 : ss.length ≤ 1000000) :
    Calls Tryd.prog 73 #[.pointer (some ⟨p, 0, none⟩), .slice A ss.length c] w (DrawnStr w B p ss) := by
  have hd := Lib.hid (l1Below_any p B ss.length w hc (by omega) (by omega))
  have hpl := hc.lt
  clear hc
  go_enter Tryd.func73, Tryd.ntmps73
  go_wp2_with fail
  refine hd.out.mono ?_
  rintro e w1 ⟨⟨x, rfl, hx0, hx1⟩, hc1, ho1⟩
  obtain ⟨k, rfl⟩ : ∃ k : Nat, x = k := ⟨x.toNat, by omega⟩
  have hk : k < ss.length := by omega
  obtain ⟨b, off, rfl, _, hcell⟩ := hA k hk
  have hbp := hne none b off rfl
  have hbl : b < w.heap.size := block_lt_of_cell hcell
  have hcell1 : w1.cell? ⟨b, off + k, none⟩ = some (.string ss[k]) := (World.cell?_of_block (w := w) (ho1.block b hbl (fun e => hbp (by injection e)))).trans hcell
  have hkI : (k : Int) < ss.length := by omega
  clear hcell hne
  go_wp2
  go_ret
  exact ⟨⟨_, rfl, List.getElem_mem hk⟩, hc1, ho1⟩

/-- A new cursor. -/
def NewCur (w : World) (e : Ending) (w' : World) : Prop :=
  ∃ p, e = .returned (.pointer (some ⟨p, 0, none⟩)) ∧ CurAt w' w.heap.size p ∧ Below w.heap.size w w'

set_option maxHeartbeats 1000000 in
theorem l1New_any (A : Option Addr) (n cap : Nat) (w : World) (hA : BytesAt w w.heap.size A n) (hn : n ≤ 2 ^ 47) :
    Calls Tryd.prog 31 #[.slice A n cap] w (NewCur w) := by
  go_enter Tryd.func31, Tryd.ntmps31
  go_wp2
  go_loop [3, 4] (fun h i => ∃ (k : Nat) (x : Int), k ≤ n ∧ i = .int .i64 k ∧ h = .int .i64 x) (fun _ i => n - (intOf i).toNat)
  case atStart => exact ⟨0, _, Nat.zero_le _, rfl, rfl⟩
  case round =>
    obtain ⟨k, x, hk, rfl, rfl⟩ := hrel
    by_cases hlt : k < n
    · by_cases h4 : k < 4000
      · obtain ⟨b, off, y, rfl, hb, hy, hy0, hy1⟩ := hA k hlt
        have HA := Lib.hid hA
        clear hA
        have hltI : (k : Int) < (n : Int) := by omega
        have h4I : (k : Int) < 4000 := by omega
        go_wp2
        go_round
        case rel => exact ⟨k + 1, _, by omega, by go_num, rfl⟩
        case measure => simp [intOf]; omega
      · have hltI : (k : Int) < (n : Int) := by omega
        have h4I : ¬ (k : Int) < 4000 := by omega
        go_wp2
        go_ret
        exact ⟨w.heap.size, rfl, ⟨A, n, cap, 0, x, Whole1.new _ _ _, Nat.zero_le _, by unfold maxLen; omega, hA.below ((Below.refl _ _).alloc (Nat.le_refl _) _), Nat.le_refl _⟩, (Below.refl _ _).alloc (Nat.le_refl _) _⟩
    · have hltI : ¬ (k : Int) < (n : Int) := by omega
      go_wp2
      go_ret
      exact ⟨w.heap.size, rfl, ⟨A, n, cap, 0, x, Whole1.new _ _ _, Nat.zero_le _, by unfold maxLen; omega, hA.below ((Below.refl _ _).alloc (Nat.le_refl _) _), Nat.le_refl _⟩, (Below.refl _ _).alloc (Nat.le_refl _) _⟩

end Go.Proofs.YtlmbnefoobameaaDoor
end

section
namespace Go.Proofs.YtlmbnefoobameaaDoor
open Go.RowKit

/-- A bool is handed back; only the cursor has turned. -/
def DrawnBool (w : World) (B p : Nat) (e : Ending) (w' : World) : Prop :=
  (∃ x : Bool, e = .returned (.bool x)) ∧ CurAt w' B p ∧ w.grownBy w' (some p)

theorem l1Once_any (p B : Nat) (n : Int) (w : World) (hc : CurAt w B p) (hn : 1 ≤ n) (hn2 : n ≤ 2 ^ 40) :
    Calls Tryd.prog 37 #[.pointer (some ⟨p, 0, none⟩), .int .i64 n] w (DrawnBool w B p) := by
  have h1 := Lib.hid (l1Below_any p B n w hc hn hn2)
  clear hc
  go_enter Tryd.func37, Tryd.ntmps37
  go_wp2_with fail
  refine h1.out.mono ?_
  rintro e w1 ⟨⟨x, rfl, hx0, hx1⟩, hc1, ho1⟩
  go_wp2
  go_ret
  exact ⟨⟨_, rfl⟩, hc1, ho1⟩

end Go.Proofs.YtlmbnefoobameaaDoor

namespace Go.Proofs.YtlmbnefoobameaaDoor
open Go.RowKit

/-- The slice of address A holds the numbers zs. -/
def IntsAt (w : World) (A : Option Addr) (zs : List Int) : Prop :=
  ∀ i, (h : i < zs.length) → ∃ b off, A = some ⟨b, off, none⟩ ∧ w.cell? ⟨b, off + i, none⟩ = some (.int .i64 zs[i])
def DrawnOf (w : World) (B p : Nat) (zs : List Int) (e : Ending) (w' : World) : Prop :=
  (∃ x : Int, e = .returned (.int .i64 x) ∧ x ∈ zs) ∧ CurAt w' B p ∧ w.grownBy w' (some p)

set_option maxHeartbeats 1000000 in
theorem l1PickInt_any (p B c : Nat) (A : Option Addr) (zs : List Int) (w : World) (hc : CurAt w B p) (hA : IntsAt w A zs) (hne : ∀ q b off, A = some ⟨b, off, q⟩ → b ≠ p) (h0 : 0 < zs.length) (h1 : zs.length ≤ 1000000) :
    Calls Tryd.prog 67 #[.pointer (some ⟨p, 0, none⟩), .slice A zs.length c] w (DrawnOf w B p zs) := by
  have hd := Lib.hid (l1Below_any p B zs.length w hc (by omega) (by omega))
  have hpl := hc.lt
  clear hc
  go_enter Tryd.func67, Tryd.ntmps67
  go_wp2_with fail
  refine hd.out.mono ?_
  rintro e w1 ⟨⟨x, rfl, hx0, hx1⟩, hc1, ho1⟩
  obtain ⟨k, rfl⟩ : ∃ k : Nat, x = k := ⟨x.toNat, by omega⟩
  have hk : k < zs.length := by omega
  obtain ⟨b, off, rfl, hcell⟩ := hA k hk
  have hbp := hne none b off rfl
  have hbl : b < w.heap.size := block_lt_of_cell hcell
  have hcell1 : w1.cell? ⟨b, off + k, none⟩ = some (.int .i64 zs[k]) := (World.cell?_of_block (w := w) (ho1.block b hbl (fun e => hbp (by injection e)))).trans hcell
  have hkI : (k : Int) < zs.length := by omega
  clear hcell hne
  go_wp2
  go_ret
  exact ⟨⟨_, rfl, List.getElem_mem hk⟩, hc1, ho1⟩

end Go.Proofs.YtlmbnefoobameaaDoor
end

section
namespace Go.Proofs.YtlmbnefoobameaaDoor
open Go.RowKit

theorem own_baseO {w : World} {base base' size k : Nat} {e : TypeId} {v : Value} {xs : List Value} (h : w.ownsRow base' e size v k xs) (hb : base ≤ base') : w.ownsRow base e size v k xs :=
  ⟨h.1, h.2.imp id fun ⟨g, cap, cur, h1, h2, h3⟩ => ⟨g, cap, cur, h1, Nat.le_trans hb h2, h3⟩⟩
theorem CurAt.belowO {w w' : World} {B p b : Nat} (h : CurAt w B p) (hb : Below b w w') (hp : p < b) : CurAt w' B p := by
  obtain ⟨A, n, cap, i, x, h1, h2, h3, h4, h5⟩ := h
  exact ⟨A, n, cap, i, x, h1.below hb hp, h2, h3, h4.below (hb.mono (by omega)), h5⟩
theorem CurAt.allocO {w : World} {B p : Nat} (h : CurAt w B p) (o : Obj) : CurAt (w.alloc o) B p := h.belowO ((Below.refl w.heap.size w).alloc (Nat.le_refl _) o) h.lt
theorem ints_newO (w : World) (t : TypeId) (zs : List Int) : IntsAt (w.alloc (.cells (zs.map (Value.int .i64)).toArray t)) (some ⟨w.heap.size, 0, none⟩) zs := fun i hi => by
  refine ⟨_, _, rfl, ?_⟩
  rw [(Whole1.new w t _).cell]
  simp [hi]
theorem grown_setO {w w' : World} {p q : Nat} (h : w.grownBy w' (some p)) (hq : w.heap.size ≤ q) (i : Nat) (v : Value) : w.grownBy (w'.setCell ⟨q, i, none⟩ v) (some p) :=
  ⟨h.os, h.tape, h.output, by simpa [World.setCell] using h.size, fun k hk hne => (Below.heap_setCell w' ⟨q, i, none⟩ v k (fun e => by have : k = q := e; omega)).trans (h.block k hk hne)⟩
theorem grown_ownO {w w1 w3 : World} {p : Nat} {ob : Option Nat} (h : w.grownBy w1 (some p)) (hg : w1.grownBy w3 ob) (ho : ∀ q, ob = some q → w.heap.size ≤ q) : w.grownBy w3 (some p) :=
  ⟨hg.os.trans h.os, hg.tape.trans h.tape, hg.output.trans h.output, Nat.le_trans h.size hg.size, fun i hi hne => (hg.block i (Nat.lt_of_lt_of_le hi h.size) (fun e => by have := ho i e.symm; omega)).trans (h.block i hi hne)⟩
theorem grown_allocO {w w1 : World} {p : Nat} (h : w.grownBy w1 (some p)) (o : Obj) : w.grownBy (w1.alloc o) (some p) := only_below h ((Below.refl _ _).alloc (Nat.le_refl _) o)
theorem Whole1.grownO {w w' : World} {p g : Nat} {t : TypeId} {cs : Array Value} (h : Whole1 w g t cs) (hg : w.grownBy w' (some p)) (hp : g ≠ p) : Whole1 w' g t cs := (hg.block g h.lt (fun e => by cases e; exact hp rfl)).trans h
theorem below_d0 {w w' : World} (h : Below w.drew.heap.size w.drew w') : Below w.heap.size w w' := (Below.refl w.heap.size w).drew.trans h

theorem OGatherAt.base {w : World} {base base' k : Nat} {v : Value} {ts : List Ot} {xs : List Value} {vs : Nat → Value} {lo hi : Nat → Nat} (h : OGatherAt w base' v k ts xs vs lo hi) (hb : base ≤ base') : OGatherAt w base v k ts xs vs lo hi :=
  ⟨own_baseO h.own hb, h.cells, fun i hi' => ⟨Nat.le_trans hb (h.low i hi').1, (h.low i hi').2⟩, h.apart, h.free, h.kids⟩

/-- The optic's parts are a row from base on; all is named. -/
structure OwnOAt (w : World) (base : Nat) (A : Option Addr) (ac : Nat) (t : Ot) (xs : List Value) (vs : Nat → Value) (lo hi : Nat → Nat) : Prop where
  name : t.name.size ≤ maxLen
  len : t.args.length ≤ maxLen
  parts : OGatherAt w base (.slice A t.args.length ac) t.args.length t.args xs vs lo hi
/-- The value reads as the tree; its root's slice is a row from base on. -/
def OwnOt (w : World) (base : Nat) (v : Value) (t : Ot) : Prop :=
  ∃ A ac xs vs lo hi, v = .agg #[.int .i64 t.kind, .string t.name, .int .i64 t.num, .slice A t.args.length ac] ∧ OwnOAt w base A ac t xs vs lo hi
section
variable {w w' : World} {base ac : Nat} {A : Option Addr} {t : Ot} {xs : List Value} {vs : Nat → Value} {lo hi : Nat → Nat}
theorem OwnOAt.own (h : OwnOAt w base A ac t xs vs lo hi) : OwnOt w base (.agg #[.int .i64 t.kind, .string t.name, .int .i64 t.num, .slice A t.args.length ac]) t := ⟨A, ac, xs, vs, lo, hi, rfl, h⟩
theorem OwnOAt.root (h : OwnOAt w base A ac t xs vs lo hi) (k n : Int) (nm : ByteArray) (hnm : nm.size ≤ maxLen) : OwnOAt w base A ac (.mk k n nm t.args) xs vs lo hi := ⟨hnm, h.len, h.parts⟩
theorem OwnOAt.keep (h : OwnOAt w base A ac t xs vs lo hi) (hs : w.heap.size ≤ w'.heap.size) (hk : ∀ g, base ≤ g → g < w.heap.size → w'.heap[g]? = w.heap[g]?) : OwnOAt w' base A ac t xs vs lo hi := ⟨h.name, h.len, h.parts.keep hs hk⟩
/-- What lies from base on stands, but for a block that is none of the tree's. -/
theorem OwnOAt.but (h : OwnOAt w base A ac t xs vs lo hi) (q : Nat) (hs : w.heap.size ≤ w'.heap.size) (hk : ∀ g, base ≤ g → g < w.heap.size → g ≠ q → w'.heap[g]? = w.heap[g]?) (hA : (Value.slice A t.args.length ac).ownBlock ≠ some q) (hS : ∀ i, i < t.args.length → ¬ Span (lo i) (hi i) q) : OwnOAt w' base A ac t xs vs lo hi :=
  ⟨h.name, h.len, own_keep4o h.parts.own (fun g hg => hk g (h.parts.own.lt g hg).1 (h.parts.own.lt g hg).2 (fun e => hA (by rw [hg, e]))), h.parts.cells, fun i hi' => ⟨(h.parts.low i hi').1, Nat.le_trans (h.parts.low i hi').2 hs⟩, h.parts.apart, h.parts.free,
    fun i hi' hik => (h.parts.kids i hi' hik).keep fun b hb hl => hk b (Nat.le_trans (h.parts.low i hik).1 hb.1) hl (fun e => hS i hik (by rw [← e]; exact hb))⟩
theorem OwnOAt.grown {p : Nat} (h : OwnOAt w base A ac t xs vs lo hi) (hg : w.grownBy w' (some p)) (hp : p < base) : OwnOAt w' base A ac t xs vs lo hi :=
  h.keep hg.size fun g h1 h2 => hg.block g h2 (fun e => by injection e with e; omega)
end
theorem OwnOAt.base {w : World} {base base0 ac : Nat} {A : Option Addr} {t : Ot} {xs : List Value} {vs : Nat → Value} {lo hi : Nat → Nat} (h : OwnOAt w base A ac t xs vs lo hi) (hb : base0 ≤ base) : OwnOAt w base0 A ac t xs vs lo hi := ⟨h.name, h.len, h.parts.base hb⟩
theorem OwnOt.owned {w : World} {base : Nat} {v : Value} {t : Ot} (h : OwnOt w base v t) : OtIn w (Span base w.heap.size) v t := by
  obtain ⟨A, ac, xs, vs, lo, hi, rfl, h1, h2, h3⟩ := h
  exact OtIn.of h1 (OGather.done ⟨xs, vs, lo, hi, h3⟩ h2) fun b hb => hb
theorem OwnOt.keep {w w' : World} {base : Nat} {v : Value} {t : Ot} (h : OwnOt w base v t) (hs : w.heap.size ≤ w'.heap.size) (hk : ∀ g, base ≤ g → g < w.heap.size → w'.heap[g]? = w.heap[g]?) : OwnOt w' base v t := by
  obtain ⟨A, ac, xs, vs, lo, hi, hv, h1⟩ := h
  exact ⟨A, ac, xs, vs, lo, hi, hv, h1.keep hs hk⟩
theorem OwnOt.base {w : World} {base base0 : Nat} {v : Value} {t : Ot} (h : OwnOt w base v t) (hb : base0 ≤ base) : OwnOt w base0 v t := by
  obtain ⟨A, ac, xs, vs, lo, hi, hv, h1⟩ := h
  exact ⟨A, ac, xs, vs, lo, hi, hv, h1.base hb⟩
theorem OwnOt.open {w : World} {base : Nat} {v : Value} {t : Ot} (h : OwnOt w base v t) : ∃ A ac, v = .agg #[.int .i64 t.kind, .string t.name, .int .i64 t.num, .slice A t.args.length ac] := by
  obtain ⟨A, ac, xs, vs, lo, hi, hv, _⟩ := h
  exact ⟨A, ac, hv⟩
theorem OwnOt.leaf (w : World) (base : Nat) (k n : Int) (nm : ByteArray) (hnm : nm.size ≤ maxLen) : OwnOt w base (.agg #[.int .i64 k, .string nm, .int .i64 n, .slice none 0 0]) (.mk k n nm []) := by
  obtain ⟨xs, vs, lo, hi, hg⟩ := OGather.start w base []
  exact ⟨none, 0, xs, vs, lo, hi, rfl, hnm, Nat.zero_le _, hg⟩
theorem OwnOt.of {w : World} {base ac k : Nat} {A : Option Addr} {t : Ot} (hnm : t.name.size ≤ maxLen) (hl : t.args.length ≤ maxLen) (hk : t.args.length = k) (hg : OGather w base (.slice A k ac) k t.args) : OwnOt w base (.agg #[.int .i64 t.kind, .string t.name, .int .i64 t.num, .slice A k ac]) t := by
  subst hk
  obtain ⟨xs, vs, lo, hi, hg⟩ := hg
  exact ⟨A, ac, xs, vs, lo, hi, rfl, hnm, hl, hg⟩
theorem newsO (w : World) (t : TypeId) (a b c d : Value) (h1 : a.oneCell' = true := by rfl) (h2 : b.oneCell' = true := by rfl) (h3 : c.oneCell' = true := by rfl) (h4 : d.oneCell' = true := by rfl) :
    (∀ j u, [a, b, c, d][j]? = some u → (w.alloc (.cells #[a, b, c, d] t)).cell? ((⟨w.heap.size, 0, none⟩ : Addr).add j) = some u) ∧ ∀ u ∈ [a, b, c, d], u.oneCell' = true := by
  constructor
  · intro j u hj
    rw [WideShapes.add_plain, World.cell?_alloc_at _ _ _ _ rfl, Nat.zero_add]
    simpa using hj
  · intro u hu
    simp at hu
    rcases hu with rfl | rfl | rfl | rfl
    · exact h1
    · exact h2
    · exact h3
    · exact h4
theorem OGather.grown {w w' : World} {base k p : Nat} {v : Value} {ts : List Ot} (h : OGather w base v k ts) (hg : w.grownBy w' (some p)) (hp : p < base) : OGather w' base v k ts :=
  h.keep hg.size fun g h1 h2 => hg.block g h2 (fun e => by cases e; omega)

/-- One more tree is appended. -/
theorem OGatherAt.stepB {w w1 w3 : World} {base k g cap : Nat} {v a b c d : Value} {ts : List Ot} {xs : List Value} {vs : Nat → Value} {lo hi : Nat → Nat} (h : OGatherAt w base v k ts xs vs lo hi) (hs1 : w.heap.size ≤ w1.heap.size) (hb : ∀ q, base ≤ q → q < w.heap.size → w1.heap[q]? = w.heap[q]?) (hbase : base ≤ w.heap.size) (hk : k < ts.length)
    (ht : OtIn w1 (Span w.heap.size w1.heap.size) (.agg #[a, b, c, d]) ts[k]) (hown : w3.ownsRow base 50 4 (.slice (some ⟨g, 0, none⟩) (k + 1) cap) (k + 1) (xs ++ [a, b, c, d]))
    (hg : (w1.alloc (.cells #[a, b, c, d] 50)).grownBy w3 v.ownBlock) (hat : v.ownBlock = some g ∨ g = w1.heap.size + 1) : OGather w3 base (.slice (some ⟨g, 0, none⟩) (k + 1) cap) (k + 1) ts := by
  have hs3 : w1.heap.size + 1 ≤ w3.heap.size := by have := hg.size; simp at this; exact this
  have hxl : xs.length = k * 4 := h.own.1
  have hkeep : ∀ q, q < w1.heap.size → v.ownBlock ≠ some q → w3.heap[q]? = w1.heap[q]? := fun q hq hne =>
    (hg.block q (by simp; omega) (fun e => hne e.symm)).trans (Below.heap_alloc _ _ _ hq)
  refine ⟨xs ++ [a, b, c, d], fun i => if i = k then .agg #[a, b, c, d] else vs i, fun i => if i = k then w.heap.size else lo i, fun i => if i = k then w1.heap.size else hi i, hown, fun i hi' j hj => ?_, fun i hi' => ?_, fun i j hij hj => ?_, fun i hi' q hq => ?_, fun i hi' hik => ?_⟩
  · by_cases ek : i = k
    · subst ek
      rw [if_pos rfl, List.getElem?_append_right (by omega), hxl]
      have : j = 0 ∨ j = 1 ∨ j = 2 ∨ j = 3 := by omega
      rcases this with rfl | rfl | rfl | rfl
      · simp [partAt]
      · simp [partAt]
      · simp [partAt]
      · simp [partAt]
    · rw [if_neg ek, List.getElem?_append_left (by omega)]
      exact h.cells i (by omega) j hj
  · by_cases ek : i = k
    · rw [if_pos ek, if_pos ek]
      omega
    · rw [if_neg ek, if_neg ek]
      have := h.low i (by omega)
      omega
  · rw [if_neg (show i ≠ k by omega)]
    by_cases ek : j = k
    · rw [if_pos ek]
      exact (h.low i (by omega)).2
    · rw [if_neg ek]
      exact h.apart i j hij (by omega)
  · have hqg : q = g := (Option.some.inj hq).symm
    subst hqg
    by_cases ek : i = k
    · rw [if_pos ek, if_pos ek]
      intro hs
      have a1 := hs.1
      have a2 := hs.2
      rcases hat with hat | hat
      · have := (h.own.lt q hat).2
        omega
      · omega
    · rw [if_neg ek, if_neg ek]
      rcases hat with hat | hat
      · exact h.free i (by omega) q hat
      · intro hs
        have := hs.2
        have := (h.low i (by omega)).2
        omega
  · by_cases ek : i = k
    · subst ek
      rw [if_pos rfl, if_pos rfl, if_pos rfl]
      refine ht.keep fun q hq _ => hkeep q hq.2 fun hv => ?_
      have := (h.own.lt q hv).2
      have := hq.1
      omega
    · rw [if_neg ek, if_neg ek, if_neg ek]
      refine (h.kids i hi' (by omega)).keep fun q hq hql => ?_
      rw [hkeep q (by omega) fun hv => h.free i (by omega) q hv hq]
      exact hb q (by have := (h.low i (by omega)).1; have := hq.1; omega) hql


/-- The draw of a part is appended to the parts of the value under way. -/
theorem odraw_rel {w wc wr w1 w3 : World} {p po k g cap : Nat} {A2 : Option Addr} {c2 : Nat} {ts : List Ot} {u : Ot} {xs : List Value} {vs : Nat → Value} {lo hi : Nat → Nat} {a b c d : Value} {x0 x1 x2 : Value} {B : Nat} (hk : k = ts.length) (hol : po < wc.heap.size) (hpo : w.heap.size ≤ po) (hpw : p < w.heap.size) (hsz : wc.heap.size ≤ wr.heap.size)
    (hG : OGatherAt wr wc.heap.size (.slice A2 k c2) k ts xs vs lo hi) (hb1 : wr.grownBy w1 (some p)) (hc1 : CurAt w1 B p) (ht : OtIn w1 (Span wr.heap.size w1.heap.size) (.agg #[a, b, c, d]) u)
    (hown3 : w3.ownsRow wc.heap.size 50 4 (.slice (some ⟨g, 0, none⟩) (k + 1) cap) (k + 1) (xs ++ [a, b, c, d])) (hg3 : (w1.alloc (.cells #[a, b, c, d] 50)).grownBy w3 (Value.slice A2 k c2).ownBlock) (hat3 : (Value.slice A2 k c2).ownBlock = some g ∨ g = w1.heap.size + 1)
    (ho3 : Whole1 w3 po 50 #[x0, x1, x2, .slice A2 k c2]) (hold : ∀ q, q < wc.heap.size → q ≠ po → q ≠ p → wr.heap[q]? = wc.heap[q]?) (hb : w.grownBy wr (some p)) :
    Whole1 (w3.setCell ⟨po, 3, none⟩ (.slice (some ⟨g, 0, none⟩) (k + 1) cap)) po 50 #[x0, x1, x2, .slice (some ⟨g, 0, none⟩) (k + 1) cap] ∧ OGather (w3.setCell ⟨po, 3, none⟩ (.slice (some ⟨g, 0, none⟩) (k + 1) cap)) wc.heap.size (.slice (some ⟨g, 0, none⟩) (k + 1) cap) (k + 1) (ts ++ [u]) ∧
      (∀ q, q < wc.heap.size → q ≠ po → q ≠ p → (w3.setCell ⟨po, 3, none⟩ (.slice (some ⟨g, 0, none⟩) (k + 1) cap)).heap[q]? = wc.heap[q]?) ∧ CurAt (w3.setCell ⟨po, 3, none⟩ (.slice (some ⟨g, 0, none⟩) (k + 1) cap)) B p ∧ w.grownBy (w3.setCell ⟨po, 3, none⟩ (.slice (some ⟨g, 0, none⟩) (k + 1) cap)) (some p) ∧ wc.heap.size ≤ (w3.setCell ⟨po, 3, none⟩ (.slice (some ⟨g, 0, none⟩) (k + 1) cap)).heap.size := by
  have hs1 := hb1.size
  have hs3 := hg3.size
  simp only [World.size_alloc] at hs3
  have hw0 := hb.size
  have hvb := fun q (hq : (Value.slice A2 k c2).ownBlock = some q) => (hG.own.lt q hq)
  have hG1 : OGatherAt wr wc.heap.size (.slice A2 k c2) k (ts ++ [u]) xs vs lo hi := ⟨hG.own, hG.cells, hG.low, hG.apart, hG.free, fun i hi' hik => by
    rw [List.getElem_append_left (by omega)]
    exact hG.kids i (by omega) hik⟩
  -- the cursor's block apart, the call's world is one in which all stands
  have hst : OGather w3 wc.heap.size (.slice (some ⟨g, 0, none⟩) (k + 1) cap) (k + 1) (ts ++ [u]) := OGatherAt.stepB hG1 hs1 (fun q h1 h2 => hb1.block q h2 (fun e => by cases e; omega)) hsz (by simp [hk]) (by simpa [hk] using ht) hown3 hg3 hat3
  have hgp : w.grownBy w3 (some p) := grown_ownO (grown_allocO (only_trans hb hb1) _) hg3 (fun q hq => by have := (hvb q hq).1; omega)
  have hcB : Below (p + 1) w1 w3 := ⟨hg3.os, hg3.tape, hg3.output, by omega, fun q hq => (hg3.block q (by simp; omega) (fun e => by have := (hvb q e.symm).1; omega)).trans (Below.heap_alloc _ _ _ (by omega))⟩
  have hcS := hcB.setCell (p := ⟨po, 3, none⟩) (show p + 1 ≤ po by omega) (.slice (some ⟨g, 0, none⟩) (k + 1) cap)
  refine ⟨ho3.set 3 _, hst.set hol, fun q hq hqp hqq => ?_, hc1.belowO hcS (by omega), grown_setO hgp hpo _ _, ?_⟩
  · rw [Below.heap_setCell _ _ _ _ hqp, hg3.block q (by simp; omega) (fun e => by have := (hvb q e.symm).1; omega), Below.heap_alloc _ _ _ (by omega), hb1.block q (by omega) (fun e => by cases e; exact hqq rfl)]
    exact hold q hq hqp hqq
  · show wc.heap.size ≤ (w3.setCell _ _).heap.size
    simp [World.setCell]
    omega


/-- An optic of its own, of size n at most, is handed back; only the cursor, and what is new, has turned. -/
def DrawnOt (w : World) (B p n : Nat) (e : Ending) (w' : World) : Prop :=
  (∃ v t, e = .returned v ∧ OwnOt w' w.heap.size v t ∧ szOt t ≤ n) ∧ CurAt w' B p ∧ w.grownBy w' (some p)
/-- The result's box is w.heap.size. -/
theorem drawnO_fin0 {w w3 : World} {B p n : Nat} {v : Value} {t : Ot} (h : OwnOt w3 (w.heap.size + 1) v t) (hn : szOt t ≤ n) (hc : CurAt w3 B p) (hp : p < w.heap.size) (hg : w.grownBy w3 (some p)) (a b c d : Value) :
    DrawnOt w B p n (.returned v) ((((w3.setCell ⟨w.heap.size, 0, none⟩ a).setCell ⟨w.heap.size, 1, none⟩ b).setCell ⟨w.heap.size, 2, none⟩ c).setCell ⟨w.heap.size, 3, none⟩ d) := by
  have hb : Below w.heap.size w3 ((((w3.setCell ⟨w.heap.size, 0, none⟩ a).setCell ⟨w.heap.size, 1, none⟩ b).setCell ⟨w.heap.size, 2, none⟩ c).setCell ⟨w.heap.size, 3, none⟩ d) := ((((Below.refl w.heap.size w3).setCell (by simp) _).setCell (by simp) _).setCell (by simp) _).setCell (by simp) _
  have hk : ∀ g, g ≠ w.heap.size → ((((w3.setCell ⟨w.heap.size, 0, none⟩ a).setCell ⟨w.heap.size, 1, none⟩ b).setCell ⟨w.heap.size, 2, none⟩ c).setCell ⟨w.heap.size, 3, none⟩ d).heap[g]? = w3.heap[g]? := fun g hg => by
    rw [Below.heap_setCell _ _ _ _ hg, Below.heap_setCell _ _ _ _ hg, Below.heap_setCell _ _ _ _ hg, Below.heap_setCell _ _ _ _ hg]
  exact ⟨⟨v, t, rfl, (h.keep hb.size (fun g h1 _ => hk g (by omega))).base (by omega), hn⟩, hc.belowO hb hp, ⟨hb.os.trans hg.os, hb.tape.trans hg.tape, hb.output.trans hg.output, Nat.le_trans hg.size hb.size, fun i hi hne => (hk i (by omega)).trans (hg.block i hi hne)⟩⟩
theorem szOt_root (t : Ot) (k n : Int) (nm : ByteArray) : szOt (.mk k n nm t.args) + t.name.size = szOt t + nm.size := by
  cases t
  simp only [szOt, Ot.args, Ot.name]
  omega

end Go.Proofs.YtlmbnefoobameaaDoor
end

section
namespace Go.Proofs.YtlmbnefoobameaaDoor
open Go.RowKit

theorem oset4_keep (w : World) (r : Nat) (a b c d : Value) (g : Nat) (hg : g ≠ r) : ((((w.setCell ⟨r, 0, none⟩ a).setCell ⟨r, 1, none⟩ b).setCell ⟨r, 2, none⟩ c).setCell ⟨r, 3, none⟩ d).heap[g]? = w.heap[g]? := by
  rw [Below.heap_setCell _ _ _ _ hg, Below.heap_setCell _ _ _ _ hg, Below.heap_setCell _ _ _ _ hg, Below.heap_setCell _ _ _ _ hg]
theorem oset4_below (w : World) (r : Nat) (a b c d : Value) : Below r w ((((w.setCell ⟨r, 0, none⟩ a).setCell ⟨r, 1, none⟩ b).setCell ⟨r, 2, none⟩ c).setCell ⟨r, 3, none⟩ d) :=
  ((((Below.refl r w).setCell (p := ⟨r, 0, none⟩) (Nat.le_refl _) _).setCell (p := ⟨r, 1, none⟩) (Nat.le_refl _) _).setCell (p := ⟨r, 2, none⟩) (Nat.le_refl _) _).setCell (p := ⟨r, 3, none⟩) (Nat.le_refl _) _
theorem OwnOt.set4 {w : World} {base : Nat} {v : Value} {t : Ot} (h : OwnOt w base v t) (r : Nat) (hr : r < base) (a b c d : Value) : OwnOt ((((w.setCell ⟨r, 0, none⟩ a).setCell ⟨r, 1, none⟩ b).setCell ⟨r, 2, none⟩ c).setCell ⟨r, 3, none⟩ d) base v t :=
  h.keep (oset4_below w r a b c d).size fun g hg _ => oset4_keep _ _ _ _ _ _ _ (by omega)
theorem osp {a b : Nat} (q : Nat) (h : Span a b q) : a ≤ q ∧ q < b := h
theorem ogather_one {w1 : World} {base lo0 hi0 : Nat} {a b c d : Value} {t : Ot} (hb : base ≤ lo0) (hl : base ≤ w1.heap.size) (hs : hi0 ≤ w1.heap.size) (ht : OtIn w1 (Span lo0 hi0) (.agg #[a, b, c, d]) t) :
    OGather (w1.alloc (.cells #[a, b, c, d] 50)) base (.slice (some ⟨w1.heap.size, 0, none⟩) 1 1) 1 [t] := by
  refine ⟨[a, b, c, d], fun _ => .agg #[a, b, c, d], fun _ => lo0, fun _ => hi0, World.ownsRow_lit w1 #[a, b, c, d] 1 (by omega) (by unfold maxLen; omega) rfl, fun i hi j hj => ?_, fun i hi => ⟨hb, by simp; omega⟩, fun i j h1 h2 => absurd h2 (by omega), fun i hi g hg => ?_, fun i hi hi1 => ?_⟩
  · have h0 : i = 0 := by omega
    subst h0
    have : j = 0 ∨ j = 1 ∨ j = 2 ∨ j = 3 := by omega
    rcases this with rfl | rfl | rfl | rfl
    · simp [partAt]
    · simp [partAt]
    · simp [partAt]
    · simp [partAt]
  · intro hsp
    have e := Option.some.inj hg
    have := (osp _ hsp).2
    simp only at e
    omega
  · have h0 : i = 0 := by omega
    subst h0
    exact ht.keep fun q hq _ => Below.heap_alloc _ _ _ (by have := (osp _ hq).2; omega)
theorem ogather_two {w1 : World} {base lo0 hi0 lo1 hi1 : Nat} {a b c d a' b' c' d' : Value} {t u : Ot} (hb : base ≤ lo0) (hb1 : base ≤ lo1) (h01 : hi0 ≤ lo1) (hl : base ≤ w1.heap.size) (hs0 : hi0 ≤ w1.heap.size) (hs : hi1 ≤ w1.heap.size) (ht : OtIn w1 (Span lo0 hi0) (.agg #[a, b, c, d]) t) (hu : OtIn w1 (Span lo1 hi1) (.agg #[a', b', c', d']) u) :
    OGatherAt (w1.alloc (.cells #[a, b, c, d, a', b', c', d'] 50)) base (.slice (some ⟨w1.heap.size, 0, none⟩) 2 2) 2 [t, u] [a, b, c, d, a', b', c', d'] (fun i => if i = 0 then .agg #[a, b, c, d] else .agg #[a', b', c', d']) (fun i => if i = 0 then lo0 else lo1) (fun i => if i = 0 then hi0 else hi1) := by
  refine ⟨World.ownsRow_lit w1 #[a, b, c, d, a', b', c', d'] 2 (by omega) (by unfold maxLen; omega) rfl, fun i hi j hj => ?_, fun i hi => ?_, fun i j h1 h2 => ?_, fun i hi g hg => ?_, fun i hi hi1 => ?_⟩
  · have h0 : i = 0 ∨ i = 1 := by omega
    have : j = 0 ∨ j = 1 ∨ j = 2 ∨ j = 3 := by omega
    rcases h0 with rfl | rfl
    all_goals
      rcases this with rfl | rfl | rfl | rfl
      · simp [partAt]
      · simp [partAt]
      · simp [partAt]
      · simp [partAt]
  · rw [World.size_alloc]
    split <;> omega
  · rw [if_pos (by omega), if_neg (by omega)]
    exact h01
  · intro hsp
    have e := Option.some.inj hg
    simp only at e
    split at hsp
    · have := (osp _ hsp).2
      omega
    · have := (osp _ hsp).2
      omega
  · have h0 : i = 0 ∨ i = 1 := by omega
    rcases h0 with rfl | rfl
    · exact ht.keep fun q hq _ => Below.heap_alloc _ _ _ (by have := (osp _ hq).2; omega)
    · exact hu.keep fun q hq _ => Below.heap_alloc _ _ _ (by have := (osp _ hq).2; omega)
/-- A node over one tree. -/
theorem own_oone {w1 : World} {base lo0 hi0 : Nat} {a b c d : Value} {t : Ot} (k n : Int) (nm : ByteArray) (hnm : nm.size ≤ maxLen) (hb : base ≤ lo0) (hl : base ≤ w1.heap.size) (hs : hi0 ≤ w1.heap.size) (ht : OtIn w1 (Span lo0 hi0) (.agg #[a, b, c, d]) t) :
    OwnOt (w1.alloc (.cells #[a, b, c, d] 50)) base (.agg #[.int .i64 k, .string nm, .int .i64 n, .slice (some ⟨w1.heap.size, 0, none⟩) 1 1]) (.mk k n nm [t]) :=
  OwnOt.of (t := .mk k n nm [t]) (k := 1) hnm (by unfold maxLen; simp [Ot.args]) rfl (ogather_one hb hl hs ht)
/-- A node over two trees. -/
theorem own_otwo {w1 : World} {base lo0 hi0 lo1 hi1 : Nat} {a b c d a' b' c' d' : Value} {t u : Ot} (k n : Int) (nm : ByteArray) (hnm : nm.size ≤ maxLen) (hb : base ≤ lo0) (hb1 : base ≤ lo1) (h01 : hi0 ≤ lo1) (hl : base ≤ w1.heap.size) (hs0 : hi0 ≤ w1.heap.size) (hs : hi1 ≤ w1.heap.size) (ht : OtIn w1 (Span lo0 hi0) (.agg #[a, b, c, d]) t) (hu : OtIn w1 (Span lo1 hi1) (.agg #[a', b', c', d']) u) :
    OwnOt (w1.alloc (.cells #[a, b, c, d, a', b', c', d'] 50)) base (.agg #[.int .i64 k, .string nm, .int .i64 n, .slice (some ⟨w1.heap.size, 0, none⟩) 2 2]) (.mk k n nm [t, u]) :=
  OwnOt.of (t := .mk k n nm [t, u]) (k := 2) hnm (by unfold maxLen; simp [Ot.args]) rfl ⟨_, _, _, _, ogather_two hb hb1 h01 hl hs0 hs ht hu⟩
/-- The same, where a block between both is written then. -/
theorem own_otwo_set {w1 : World} {base lo0 hi0 lo1 hi1 z o : Nat} {v a b c d a' b' c' d' : Value} {t u : Ot} (k n : Int) (nm : ByteArray) (hnm : nm.size ≤ maxLen) (hb : base ≤ lo0) (hz0 : hi0 ≤ z) (hz1 : z < lo1) (hbz : base ≤ z) (hs0 : hi0 ≤ w1.heap.size) (hl1 : lo1 ≤ w1.heap.size) (hs : hi1 ≤ w1.heap.size) (ht : OtIn w1 (Span lo0 hi0) (.agg #[a, b, c, d]) t) (hu : OtIn w1 (Span lo1 hi1) (.agg #[a', b', c', d']) u) :
    OwnOt ((w1.alloc (.cells #[a, b, c, d, a', b', c', d'] 50)).setCell ⟨z, o, none⟩ v) base (.agg #[.int .i64 k, .string nm, .int .i64 n, .slice (some ⟨w1.heap.size, 0, none⟩) 2 2]) (.mk k n nm [t, u]) := by
  have hg := ogather_two (w1 := w1) (base := base) hb (by omega) (by omega) (by omega) hs0 hs ht hu
  have h1 : OwnOAt (w1.alloc (.cells #[a, b, c, d, a', b', c', d'] 50)) base (some ⟨w1.heap.size, 0, none⟩) 2 (.mk k n nm [t, u]) _ _ _ _ := ⟨hnm, by unfold maxLen; simp [Ot.args], hg⟩
  refine (OwnOAt.but h1 z (by simp [World.setCell]) (fun g _ _ hgz => Below.heap_setCell _ _ _ _ hgz) (fun e => ?_) (fun i hi hsp => ?_)).own
  · have hez : w1.heap.size = z := Option.some.inj e
    omega
  · have hi2 : i = 0 ∨ i = 1 := by
      simp only [Ot.args, List.length_cons, List.length_nil] at hi
      omega
    rcases hi2 with rfl | rfl
    · have := (osp _ hsp).2
      simp only [if_true] at this
      omega
    · have := (osp _ hsp).1
      rw [if_neg (by decide)] at this
      omega

end Go.Proofs.YtlmbnefoobameaaDoor
end

section
namespace Go.Proofs.YtlmbnefoobameaaDoor
open Go.RowKit
attribute [local go_sem ↓] Go.wp_at_zero Go.wp_at_succ

theorem own_form {w : World} {base n : Nat} {v : Value} {xs : List Value} {ss : List ByteArray} (h : w.ownsRow base 9 1 v n xs) (hx : strVals ss = xs) : ∃ A c, v = .slice A ss.length c ∧ (ss = [] ∨ ∃ g, A = some ⟨g, 0, none⟩ ∧ base ≤ g ∧ RowStrs w g ss) := by
  rcases RowStrs.of_own (own_strs h hx) with ⟨rfl, rfl⟩ | ⟨g, cap, rfl, h1, h2⟩
  · exact ⟨none, 0, rfl, .inl rfl⟩
  · exact ⟨_, _, rfl, .inr ⟨g, rfl, h1, h2⟩⟩

theorem row_apart {w : World} {g po : Nat} {ss : List ByteArray} {cs : Array Value} (h : RowStrs w g ss) (hw : Whole1 w po 30 cs) : po ≠ g := by
  intro e
  subst e
  obtain ⟨c, h1, _⟩ := h
  unfold Whole1 at h1 hw
  rw [h1] at hw
  injection hw with hw
  injection hw with _ h2
  exact absurd h2 (by decide)
theorem copy_stored {w0 w1 : World} {po c1 : Nat} {A1 : Option Addr} {k0 : Int} {ls : List ByteArray} (hpo : w0.heap.size ≤ po) (hw : Whole1 w1 po 30 #[.int .i64 0, .slice none 0 0, .slice none 0 0]) (hrow : ls = [] ∨ ∃ g, A1 = some ⟨g, 0, none⟩ ∧ w0.heap.size ≤ g ∧ RowStrs w1 g ls) (hB : Below w0.heap.size w0 w1) :
    ∃ (po' c : Nat) (A' : Option Addr), Value.pointer (some ⟨po, 0, none⟩) = .pointer (some ⟨po', 0, none⟩) ∧ w0.heap.size ≤ po' ∧ Whole1 (((w1.setCell ⟨po, 0, none⟩ (.int .i64 k0)).setCell ⟨po, 1, none⟩ (.slice A1 ls.length c1)).setCell ⟨po, 2, none⟩ (.slice none 0 0)) po' 30 #[.int .i64 k0, .slice A' ls.length c, .slice none 0 0] ∧
      (ls = [] ∨ ∃ g, A' = some ⟨g, 0, none⟩ ∧ w0.heap.size ≤ g ∧ po' ≠ g ∧ RowStrs (((w1.setCell ⟨po, 0, none⟩ (.int .i64 k0)).setCell ⟨po, 1, none⟩ (.slice A1 ls.length c1)).setCell ⟨po, 2, none⟩ (.slice none 0 0)) g ls) ∧
      Below w0.heap.size w0 (((w1.setCell ⟨po, 0, none⟩ (.int .i64 k0)).setCell ⟨po, 1, none⟩ (.slice A1 ls.length c1)).setCell ⟨po, 2, none⟩ (.slice none 0 0)) := by
  refine ⟨po, c1, A1, rfl, hpo, ((hw.set 0 _).set 1 _).set 2 _, hrow.imp id fun ⟨g, h1, h2, h3⟩ => ⟨g, h1, h2, row_apart h3 hw, h3.same ?_⟩, ((hB.setCell hpo _).setCell hpo _).setCell hpo _⟩
  have hne := (row_apart h3 hw).symm
  rw [Below.heap_setCell _ _ _ _ hne, Below.heap_setCell _ _ _ _ hne, Below.heap_setCell _ _ _ _ hne]
theorem copy_new {w0 w1 : World} {c1 : Nat} {A1 : Option Addr} {k0 : Int} {ls : List ByteArray} (hrow : ls = [] ∨ ∃ g, A1 = some ⟨g, 0, none⟩ ∧ w0.heap.size ≤ g ∧ RowStrs w1 g ls) (hB : Below w0.heap.size w0 w1) :
    ∃ (po' c : Nat) (A' : Option Addr), Value.pointer (some ⟨w1.heap.size, 0, none⟩) = .pointer (some ⟨po', 0, none⟩) ∧ w0.heap.size ≤ po' ∧ Whole1 (w1.alloc (.cells #[.int .i64 k0, .slice A1 ls.length c1, .slice none 0 0] 30)) po' 30 #[.int .i64 k0, .slice A' ls.length c, .slice none 0 0] ∧
      (ls = [] ∨ ∃ g, A' = some ⟨g, 0, none⟩ ∧ w0.heap.size ≤ g ∧ po' ≠ g ∧ RowStrs (w1.alloc (.cells #[.int .i64 k0, .slice A1 ls.length c1, .slice none 0 0] 30)) g ls) ∧
      Below w0.heap.size w0 (w1.alloc (.cells #[.int .i64 k0, .slice A1 ls.length c1, .slice none 0 0] 30)) :=
  ⟨w1.heap.size, c1, A1, rfl, hB.size, Whole1.new _ _ _, hrow.imp id fun ⟨g, h1, h2, h3⟩ => ⟨g, h1, h2, fun e => by have := h3.lt; omega, h3.below ((Below.refl _ _).alloc (Nat.le_refl _) _) h3.lt⟩, hB.alloc hB.size _⟩

theorem news3 (w : World) (t : TypeId) (a b c : Value) (h1 : a.oneCell' = true := by rfl) (h2 : b.oneCell' = true := by rfl) (h3 : c.oneCell' = true := by rfl) :
    (∀ j u, [a, b, c][j]? = some u → (w.alloc (.cells #[a, b, c] t)).cell? ((⟨w.heap.size, 0, none⟩ : Addr).add j) = some u) ∧ ∀ u ∈ [a, b, c], u.oneCell' = true := by
  constructor
  · intro j u hj
    rw [WideShapes.add_plain, World.cell?_alloc_at _ _ _ _ rfl, Nat.zero_add]
    simpa using hj
  · intro u hu
    simp at hu
    rcases hu with rfl | rfl | rfl
    · exact h1
    · exact h2
    · exact h3

theorem copy_rel {w wc wr w1 w3 : World} {po k g cap c1 c2 : Nat} {A1 A2 : Option Addr} {k0 : Int} {n : Nat} {ts : List Ty} {xs : List Value} {vs : Nat → Value} {lo hi : Nat → Nat} {a b c : Value} (hk : k < ts.length) (hol : po < wc.heap.size) (hpo : w.heap.size ≤ po) (hsz : wc.heap.size ≤ wr.heap.size)
    (hG : GatherAt wr wc.heap.size (.slice A2 k c2) k ts xs vs lo hi) (hb1 : Below wr.heap.size wr w1) (ht : TyIn w1 (Span wr.heap.size w1.heap.size) (.agg #[a, b, c]) ts[k])
    (hown3 : w3.ownsRow wc.heap.size 30 3 (.slice (some ⟨g, 0, none⟩) (k + 1) cap) (k + 1) (xs ++ [a, b, c])) (hg3 : (w1.alloc (.cells #[a, b, c] 30)).grownBy w3 (Value.slice A2 k c2).ownBlock) (hat3 : (Value.slice A2 k c2).ownBlock = some g ∨ g = w1.heap.size + 1)
    (ho3 : Whole1 w3 po 30 #[.int .i64 k0, .slice A1 n c1, .slice A2 k c2]) (hold : ∀ q, q < wc.heap.size → q ≠ po → wr.heap[q]? = wc.heap[q]?) (hb : Below w.heap.size w wr) :
    Whole1 (w3.setCell ⟨po, 2, none⟩ (.slice (some ⟨g, 0, none⟩) (k + 1) cap)) po 30 #[.int .i64 k0, .slice A1 n c1, .slice (some ⟨g, 0, none⟩) (k + 1) cap] ∧ Gather (w3.setCell ⟨po, 2, none⟩ (.slice (some ⟨g, 0, none⟩) (k + 1) cap)) wc.heap.size (.slice (some ⟨g, 0, none⟩) (k + 1) cap) (k + 1) ts ∧
      (∀ q, q < wc.heap.size → q ≠ po → (w3.setCell ⟨po, 2, none⟩ (.slice (some ⟨g, 0, none⟩) (k + 1) cap)).heap[q]? = wc.heap[q]?) ∧ Below w.heap.size w (w3.setCell ⟨po, 2, none⟩ (.slice (some ⟨g, 0, none⟩) (k + 1) cap)) ∧ wc.heap.size ≤ (w3.setCell ⟨po, 2, none⟩ (.slice (some ⟨g, 0, none⟩) (k + 1) cap)).heap.size := by
  have hs1 := hb1.size
  have hs3 := hg3.size
  simp only [World.size_alloc] at hs3
  have hw0 := hb.size
  have hvb := fun q (hq : (Value.slice A2 k c2).ownBlock = some q) => (hG.own.lt q hq).1
  refine ⟨ho3.set 2 _, (hG.step hb1 hsz hk ht hown3 hg3 hat3).set hol, fun q hq hqp => ?_, ?_, ?_⟩
  · rw [Below.heap_setCell _ _ _ _ hqp, hg3.block q (by simp; omega) (fun e => by have := hvb q e.symm; omega), Below.heap_alloc _ _ _ (by omega), hb1.block q (by omega)]
    exact hold q hq hqp
  · exact (((hb.trans (hb1.mono hw0)).alloc (by omega) _).grown hg3 (by simp; omega) (fun q hq => by have := hvb q hq; omega)).setCell hpo _
  · show wc.heap.size ≤ (w3.setCell _ _).heap.size
    simp [World.setCell]
    omega

def CopyOne (t : Ty) : Prop := ∀ (v : Value) (w : World), TyAt w w.heap.size v t → szTy t ≤ 1048576 → Calls Tryd.prog 117 #[v] w (NewTy w t)

set_option maxHeartbeats 4000000 in
theorem specCopy_of (k0 : Int) (ls : List ByteArray) (ts : List Ty) (hall : ∀ i, (h : i < ts.length) → CopyOne ts[i]) : CopyOne (.mk k0 ls ts) := by
  intro v w hv hsz
  obtain ⟨i0, hi, hz0, hz1, hz2⟩ := info_parts infoString
  obtain ⟨L, lc, A, ac, rfl, hn, hz, hl, ha⟩ := hv.open
  rw [szTy_eq] at hsz
  simp only [Ty.kind, Ty.labels, Ty.args] at *
  have HALL := Lib.hid hall
  have HN := Lib.hid hz
  clear hall hz hv
  obtain ⟨hb0, p0, r0, hs0⟩ := boxes2 w 30 30 #[.int .i64 k0, .slice L ls.length lc, .slice A ts.length ac] #[.int .i64 0, .slice none 0 0, .slice none 0 0]
  go_enter Tryd.func117, Tryd.ntmps117
  go_upto_region 1 with fail
  generalize (w.alloc (.cells #[.int .i64 k0, .slice L ls.length lc, .slice A ts.length ac] 30)).alloc (.cells #[.int .i64 0, .slice none 0 0, .slice none 0 0] 30) = w0 at *
  have hl0 := hl.up' hb0
  have HZ := Lib.hid hs0
  clear hs0 hl
  go_cut [3] (fun o wx => ∃ (po c : Nat) (A1 : Option Addr), o = .pointer (some ⟨po, 0, none⟩) ∧ w0.heap.size ≤ po ∧ Whole1 wx po 30 #[.int .i64 k0, .slice A1 ls.length c, .slice none 0 0] ∧ (ls = [] ∨ ∃ g, A1 = some ⟨g, 0, none⟩ ∧ w0.heap.size ≤ g ∧ po ≠ g ∧ RowStrs wx g ls) ∧ Below w0.heap.size w0 wx)
  case first =>
    have q0 : w0.cell? ⟨w.heap.size, 0, none⟩ = some (.int .i64 k0) := p0.cell 0
    have q1 : w0.cell? ⟨w.heap.size, 1, none⟩ = some (.slice L ls.length lc) := p0.cell 1
    have hpl := p0.lt
    clear p0 r0
    have hE0b : Below w0.heap.size w0 (w0.alloc (.cells #[] 9)).drew := ((Below.refl _ _).alloc (Nat.le_refl _) _).drew
    have hE0 : (w0.alloc (.cells #[] 9)).drew.ownsRow w0.heap.size 9 1 (.slice (some ⟨w0.heap.size, 0, none⟩) 0 0) 0 [] := World.ownsRow_lit w0 #[] 0 (Nat.le_refl _) (Nat.zero_le _) rfl
    have hE1b : Below w0.heap.size w0 ((w0.alloc (.cells #[] 9)).alloc (.cells #[.int .i64 0, .slice none 0 0, .slice none 0 0] 30)).drew := (((Below.refl _ _).alloc (Nat.le_refl _) _).alloc (by simp) _).drew
    have hE1 : ((w0.alloc (.cells #[] 9)).alloc (.cells #[.int .i64 0, .slice none 0 0, .slice none 0 0] 30)).drew.ownsRow w0.heap.size 9 1 (.slice (some ⟨w0.heap.size, 0, none⟩) 0 0) 0 [] := World.ownsRow.alloc (World.ownsRow_lit w0 #[] 0 (Nat.le_refl _) (Nat.zero_le _) rfl) _
    have hE2b : Below w0.heap.size w0 ((w0.alloc (.cells #[.int .i64 0, .slice none 0 0, .slice none 0 0] 30)).alloc (.cells #[] 9)).drew := (((Below.refl _ _).alloc (Nat.le_refl _) _).alloc (by simp) _).drew
    have hE2 : ((w0.alloc (.cells #[.int .i64 0, .slice none 0 0, .slice none 0 0] 30)).alloc (.cells #[] 9)).drew.ownsRow w0.heap.size 9 1 (.slice (some ⟨w0.heap.size + 1, 0, none⟩) 0 0) 0 [] := by
      have := World.ownsRow_lit (base := w0.heap.size) (e := 9) (size := 1) (w0.alloc (.cells #[.int .i64 0, .slice none 0 0, .slice none 0 0] 30)) #[] 0 (by simp) (Nat.zero_le _) rfl
      rw [show (w0.alloc (.cells #[.int .i64 0, .slice none 0 0, .slice none 0 0] 30)).heap.size = w0.heap.size + 1 by simp] at this
      exact this
    have hE1w : Whole1 ((w0.alloc (.cells #[] 9)).alloc (.cells #[.int .i64 0, .slice none 0 0, .slice none 0 0] 30)).drew (w0.heap.size + 1) 30 #[.int .i64 0, .slice none 0 0, .slice none 0 0] := by
      have := Whole1.new (w0.alloc (.cells #[] 9)) 30 #[.int .i64 0, .slice none 0 0, .slice none 0 0]
      rw [show (w0.alloc (.cells #[] 9)).heap.size = w0.heap.size + 1 by simp] at this
      exact this
    have hE2w : Whole1 ((w0.alloc (.cells #[.int .i64 0, .slice none 0 0, .slice none 0 0] 30)).alloc (.cells #[] 9)).drew w0.heap.size 30 #[.int .i64 0, .slice none 0 0, .slice none 0 0] := by
      have := Whole1.new w0 30 #[.int .i64 0, .slice none 0 0, .slice none 0 0]
      exact Whole1.below (B := w0.heap.size + 1) this ((Below.refl _ _).alloc (show w0.heap.size + 1 ≤ (w0.alloc (.cells #[.int .i64 0, .slice none 0 0, .slice none 0 0] 30)).heap.size by simp) _).drew (by omega)
    go_region_held_law (fun w' => w'.cell? ⟨w.heap.size, 0, none⟩ = some (.int .i64 k0) ∧ w'.cell? ⟨w.heap.size, 1, none⟩ = some (.slice L ls.length lc)) (first | (with_reducible exact ⟨q0, q1⟩) | (with_reducible exact ⟨hk0, hk1⟩) | (with_reducible exact ⟨hk2 _, hk3 _⟩) | (with_reducible exact ⟨hk4 _ _ _, hk5 _ _ _⟩) | (with_reducible exact ⟨(hE0b.cell (p := ⟨w.heap.size, 0, none⟩) hpl).trans q0, (hE0b.cell (p := ⟨w.heap.size, 1, none⟩) hpl).trans q1⟩) | (with_reducible exact ⟨(hE1b.cell (p := ⟨w.heap.size, 0, none⟩) hpl).trans q0, (hE1b.cell (p := ⟨w.heap.size, 1, none⟩) hpl).trans q1⟩) | (with_reducible exact ⟨(hE2b.cell (p := ⟨w.heap.size, 0, none⟩) hpl).trans q0, (hE2b.cell (p := ⟨w.heap.size, 1, none⟩) hpl).trans q1⟩) | go_keep)
      (first
        | (refine step_append_cells _ (by rfl) (.tmp 7) (.tmp 9) _ (by rfl) w0.heap.size 9 i0 (.string ⟨#[]⟩) 1 16 Tryd.underlying24 hi hz0 hz1 hz2 rfl (by decide) _ 0 [] (by rfl) hE0 L ls.length lc (strVals ls) (by rfl) (by simp [strVals]) (hl0.up' hE0b).cells (strVals_one _) (by unfold maxLen; omega) (by omega) hE0b.size ?_; intro v1 w1 hown1 hg1; obtain ⟨A1, c1, rfl, hrow⟩ := own_form (ss := ls) hown1 (by simp); have hB1 := hE0b.grown hg1 hE0b.size (fun q hq => (hE0.lt q hq).1); have hk0 := (hB1.cell (p := ⟨w.heap.size, 0, none⟩) hpl).trans q0; have hk1 := (hB1.cell (p := ⟨w.heap.size, 1, none⟩) hpl).trans q1; have hk2 := fun o => ((hB1.alloc hB1.size o).cell (p := ⟨w.heap.size, 0, none⟩) hpl).trans q0; have hk3 := fun o => ((hB1.alloc hB1.size o).cell (p := ⟨w.heap.size, 1, none⟩) hpl).trans q1)
        | (refine step_append_cells _ (by rfl) (.tmp 7) (.tmp 9) _ (by rfl) w0.heap.size 9 i0 (.string ⟨#[]⟩) 1 16 Tryd.underlying24 hi hz0 hz1 hz2 rfl (by decide) _ 0 [] (by rfl) hE1 L ls.length lc (strVals ls) (by rfl) (by simp [strVals]) (hl0.up' hE1b).cells (strVals_one _) (by unfold maxLen; omega) (by omega) hE1b.size ?_; intro v1 w1 hown1 hg1; obtain ⟨A1, c1, rfl, hrow⟩ := own_form (ss := ls) hown1 (by simp); have hB1 := hE1b.grown hg1 hE1b.size (fun q hq => (hE1.lt q hq).1); have hk0 := (hB1.cell (p := ⟨w.heap.size, 0, none⟩) hpl).trans q0; have hk1 := (hB1.cell (p := ⟨w.heap.size, 1, none⟩) hpl).trans q1; have hk2 := fun o => ((hB1.alloc hB1.size o).cell (p := ⟨w.heap.size, 0, none⟩) hpl).trans q0; have hk3 := fun o => ((hB1.alloc hB1.size o).cell (p := ⟨w.heap.size, 1, none⟩) hpl).trans q1; have hw : Whole1 w1 (w0.heap.size + 1) 30 #[.int .i64 0, .slice none 0 0, .slice none 0 0] := (hg1.block (w0.heap.size + 1) (by simp) (by simp [Value.ownBlock])).trans hE1w; have m0 : w1.cell? ⟨w0.heap.size + 1, 0, none⟩ = some (.int .i64 0) := hw.cell 0; have m1 : w1.cell? ⟨w0.heap.size + 1, 1, none⟩ = some (.slice none 0 0) := hw.cell 1; have m2 : w1.cell? ⟨w0.heap.size + 1, 2, none⟩ = some (.slice none 0 0) := hw.cell 2; have f0 : w1.frozen? ⟨w0.heap.size + 1, 0, none⟩ = false := hw.free 0; have f1 : w1.frozen? ⟨w0.heap.size + 1, 1, none⟩ = false := hw.free 1; have f2 : w1.frozen? ⟨w0.heap.size + 1, 2, none⟩ = false := hw.free 2; have hk4 := fun u0 u1 u2 => ((((hB1.setCell (p := ⟨w0.heap.size + 1, 0, none⟩) (by simp) u0).setCell (p := ⟨w0.heap.size + 1, 1, none⟩) (by simp) u1).setCell (p := ⟨w0.heap.size + 1, 2, none⟩) (by simp) u2).cell (p := ⟨w.heap.size, 0, none⟩) hpl).trans q0; have hk5 := fun u0 u1 u2 => ((((hB1.setCell (p := ⟨w0.heap.size + 1, 0, none⟩) (by simp) u0).setCell (p := ⟨w0.heap.size + 1, 1, none⟩) (by simp) u1).setCell (p := ⟨w0.heap.size + 1, 2, none⟩) (by simp) u2).cell (p := ⟨w.heap.size, 1, none⟩) hpl).trans q1)
        | (refine step_append_cells _ (by rfl) (.tmp 7) (.tmp 9) _ (by rfl) w0.heap.size 9 i0 (.string ⟨#[]⟩) 1 16 Tryd.underlying24 hi hz0 hz1 hz2 rfl (by decide) _ 0 [] (by rfl) hE2 L ls.length lc (strVals ls) (by rfl) (by simp [strVals]) (hl0.up' hE2b).cells (strVals_one _) (by unfold maxLen; omega) (by omega) hE2b.size ?_; intro v1 w1 hown1 hg1; obtain ⟨A1, c1, rfl, hrow⟩ := own_form (ss := ls) hown1 (by simp); have hB1 := hE2b.grown hg1 hE2b.size (fun q hq => (hE2.lt q hq).1); have hk0 := (hB1.cell (p := ⟨w.heap.size, 0, none⟩) hpl).trans q0; have hk1 := (hB1.cell (p := ⟨w.heap.size, 1, none⟩) hpl).trans q1; have hk2 := fun o => ((hB1.alloc hB1.size o).cell (p := ⟨w.heap.size, 0, none⟩) hpl).trans q0; have hk3 := fun o => ((hB1.alloc hB1.size o).cell (p := ⟨w.heap.size, 1, none⟩) hpl).trans q1; have hw : Whole1 w1 (w0.heap.size) 30 #[.int .i64 0, .slice none 0 0, .slice none 0 0] := (hg1.block (w0.heap.size) (by simp; omega) (by simp [Value.ownBlock])).trans hE2w; have m0 : w1.cell? ⟨w0.heap.size, 0, none⟩ = some (.int .i64 0) := hw.cell 0; have m1 : w1.cell? ⟨w0.heap.size, 1, none⟩ = some (.slice none 0 0) := hw.cell 1; have m2 : w1.cell? ⟨w0.heap.size, 2, none⟩ = some (.slice none 0 0) := hw.cell 2; have f0 : w1.frozen? ⟨w0.heap.size, 0, none⟩ = false := hw.free 0; have f1 : w1.frozen? ⟨w0.heap.size, 1, none⟩ = false := hw.free 1; have f2 : w1.frozen? ⟨w0.heap.size, 2, none⟩ = false := hw.free 2; have hk4 := fun u0 u1 u2 => ((((hB1.setCell (p := ⟨w0.heap.size, 0, none⟩) (by simp) u0).setCell (p := ⟨w0.heap.size, 1, none⟩) (by simp) u1).setCell (p := ⟨w0.heap.size, 2, none⟩) (by simp) u2).cell (p := ⟨w.heap.size, 0, none⟩) hpl).trans q0; have hk5 := fun u0 u1 u2 => ((((hB1.setCell (p := ⟨w0.heap.size, 0, none⟩) (by simp) u0).setCell (p := ⟨w0.heap.size, 1, none⟩) (by simp) u1).setCell (p := ⟨w0.heap.size, 2, none⟩) (by simp) u2).cell (p := ⟨w.heap.size, 1, none⟩) hpl).trans q1))
    all_goals go_wp2
    all_goals go_meet
    all_goals first | exact copy_new hrow hB1 | exact copy_stored (by omega) hw hrow hB1
  case rest =>
    obtain ⟨po, c1, A1, rfl, hpo, ho0, hrow, hbc⟩ := hcut
    have p1 := p0.below hbc p0.lt
    have r1 := r0.below hbc r0.lt
    have hb1 := hb0.trans (hbc.mono hb0.size)
    have ha1 := ha.up hb1
    have hpl : w.heap.size < wc.heap.size := p1.lt
    have hrl : w.heap.size + 1 < wc.heap.size := r1.lt
    have hol : po < wc.heap.size := ho0.lt
    have hpo' : w.heap.size + 2 ≤ po := by have := HZ.out; omega
    have HROW := Lib.hid hrow
    have hm := ha1.1
    have hmn := Lib.hid hm
    have hle := szTys_len ts
    obtain ⟨i1, hi1, hy0, hy1, hy2⟩ := info_parts infoType
    clear p0 r0 hl0 hrow hm
    go_wp2
    go_loopw [4] (fun i wr => ∃ (k : Nat) (c2 : Nat) (A2 : Option Addr), k ≤ ts.length ∧ i = .int .i64 k ∧ Whole1 wr po 30 #[.int .i64 k0, .slice A1 ls.length c1, .slice A2 k c2] ∧ Gather wr wc.heap.size (.slice A2 k c2) k ts ∧ (∀ q, q < wc.heap.size → q ≠ po → wr.heap[q]? = wc.heap[q]?) ∧ Below w.heap.size w wr ∧ wc.heap.size ≤ wr.heap.size) (fun i _ => ts.length - (intOf i).toNat)
    case atStart => exact ⟨0, 0, none, Nat.zero_le _, rfl, ho0, Gather.start _ _ _, fun _ _ _ => rfl, hb1, Nat.le_refl _⟩
    case round =>
      obtain ⟨k, c2, A2, hk, rfl, ho, hga, hold, hb, hsz1⟩ := hrel
      have HOLD := Lib.hid hold
      have p2 : Whole1 wr w.heap.size 30 #[.int .i64 k0, .slice L ls.length lc, .slice A ts.length ac] := (hold _ hpl (by omega)).trans p1
      have q2 : wr.cell? ⟨w.heap.size, 2, none⟩ = some (.slice A ts.length ac) := p2.cell 2
      clear hold
      by_cases hlt : k < ts.length
      · obtain ⟨xs, vs, lo, hi', hG⟩ := hga
        obtain ⟨b, off, M, mc, C, cc, rfl, hbl, e0, e1, e2, _, _, _, _, ht⟩ := (ha.below hb).elem k hlt
        have hpt := szTy_part ts k hlt
        have hbs := hb.size
        have HT := Lib.hid (HALL.out k hlt _ wr.drew ((ht.more hbs).up (Below.refl _ _).drew) (by omega))
        have HG := Lib.hid hG
        have HO := Lib.hid ho
        have o2 : wr.cell? ⟨po, 2, none⟩ = some (.slice A2 k c2) := ho.cell 2
        have f2 : wr.frozen? ⟨po, 2, none⟩ = false := ho.free 2
        have hbw : b < wr.heap.size := by omega
        have hpw : w.heap.size < wr.heap.size := by omega
        have how : po < wr.heap.size := by omega
        have hown0 := hG.own
        have HOWN := Lib.hid hown0
        clear hG ho ht p2 hown0
        go_wp2
        go_region_law (first
          | (go_simp; go_at_call 117; refine HT.out.mono ?_; rintro e w1 ⟨v1, rfl, ht1, hb1⟩; have HT1 := Lib.hid ht1; obtain ⟨T1, U1, T2, U2, _, rfl, _⟩ := ht1.open; clear ht1; have hb1' := (Below.refl wr.heap.size wr).drew.trans hb1; have y2 := (hb1'.cell (p := ⟨po, 2, none⟩) how).trans o2; have y3 := ((hb1'.alloc hb1'.size (.cells #[.int .i64 ts[k].kind, .slice T1 ts[k].labels.length U1, .slice T2 ts[k].args.length U2] 30)).cell (p := ⟨po, 2, none⟩) how).trans o2; have hown2 := World.ownsRow.alloc (own_keep HOWN.out (fun g hg => hb1'.block g (HOWN.out.lt g hg).2)) (.cells #[.int .i64 ts[k].kind, .slice T1 ts[k].labels.length U1, .slice T2 ts[k].args.length U2] 30); have hnews := news3 w1 30 (.int .i64 ts[k].kind) (.slice T1 ts[k].labels.length U1) (.slice T2 ts[k].args.length U2))
          | (refine step_append_lies _ (by rfl) (.tmp 20) (.tmp 27) _ (by rfl) wc.heap.size 30 i1 (.agg #[.int .i64 0, .slice none 0 0, .slice none 0 0]) 3 56 Tryd.underlying28 hi1 hy0 hy1 hy2 rfl (by decide) _ k xs (by rfl) hown2 ⟨w1.heap.size, 0, none⟩ 1 1 [.int .i64 ts[k].kind, .slice T1 ts[k].labels.length U1, .slice T2 ts[k].args.length U2] (by rfl) rfl hnews.1 hnews.2 (by omega) (by unfold maxLen; omega) (by omega) (by have := hb1'.size; simp; omega) (w1.heap.size + 1) (by simp) ?_; intro g cap w3 hown3 hg3 hat3 hlt3; have hvb := fun q (hq : (Value.slice A2 k c2).ownBlock = some q) => (HOWN.out.lt q hq).1; have ho3 : Whole1 w3 po 30 #[.int .i64 k0, .slice A1 ls.length c1, .slice A2 k c2] := ((hg3.block po (by have := hb1'.size; simp; omega) (fun e => by have := hvb po e.symm; omega)).trans (Below.heap_alloc _ _ _ (by have := hb1'.size; omega))).trans ((hb1'.block po how).trans HO.out); have m2 : w3.cell? ⟨po, 2, none⟩ = some (.slice A2 k c2) := ho3.cell 2; have n2 : w3.frozen? ⟨po, 2, none⟩ = false := ho3.free 2))
        all_goals
          go_wp2
          go_roundw
          case rel => exact ⟨k + 1, cap, some ⟨g, 0, none⟩, by omega, by go_num, copy_rel hlt hol (by omega) hsz1 HG.out hb1' HT1.out hown3 hg3 hat3 ho3 HOLD.out hb⟩
          case measure => simp [intOf]; omega
      · have hke : k = ts.length := by omega
        subst hke
        have r2 : Whole1 wr (w.heap.size + 1) 30 #[.int .i64 0, .slice none 0 0, .slice none 0 0] := (HOLD.out _ hrl (by omega)).trans r1
        have o0 : wr.cell? ⟨po, 0, none⟩ = some (.int .i64 k0) := ho.cell 0
        have o1 : wr.cell? ⟨po, 1, none⟩ = some (.slice A1 ls.length c1) := ho.cell 1
        have o2 : wr.cell? ⟨po, 2, none⟩ = some (.slice A2 ts.length c2) := ho.cell 2
        have d0 : wr.cell? ⟨w.heap.size + 1, 0, none⟩ = some (.int .i64 0) := r2.cell 0
        have d1 : wr.cell? ⟨w.heap.size + 1, 1, none⟩ = some (.slice none 0 0) := r2.cell 1
        have d2 : wr.cell? ⟨w.heap.size + 1, 2, none⟩ = some (.slice none 0 0) := r2.cell 2
        have e0 : wr.frozen? ⟨w.heap.size + 1, 0, none⟩ = false := r2.free 0
        have e1 : wr.frozen? ⟨w.heap.size + 1, 1, none⟩ = false := r2.free 1
        have e2 : wr.frozen? ⟨w.heap.size + 1, 2, none⟩ = false := r2.free 2
        have hdone := hga.done hmn.out
        have HD := Lib.hid hdone
        clear p2 r2 ho hga hdone q2
        have q2 : wr.cell? ⟨w.heap.size, 2, none⟩ = some (.slice A ts.length ac) := by
          have : Whole1 wr w.heap.size 30 #[.int .i64 k0, .slice L ls.length lc, .slice A ts.length ac] := (HOLD.out _ hpl (by omega)).trans p1
          exact this.cell 2
        go_wp2
        refine bodyPost_ret (v := .agg #[.int .i64 k0, .slice A1 ls.length c1, .slice A2 ts.length c2]) (by simp [results, Tryd.results117, go_sem, d0, d1, d2]) rfl ⟨_, rfl, ?_, ?_⟩
        · have hk' : ∀ q, q ≠ w.heap.size + 1 → (((wr.setCell ⟨w.heap.size + 1, 0, none⟩ (.int .i64 k0)).setCell ⟨w.heap.size + 1, 1, none⟩ (.slice A1 ls.length c1)).setCell ⟨w.heap.size + 1, 2, none⟩ (.slice A2 ts.length c2)).heap[q]? = wr.heap[q]? := fun q hq => by
            rw [Below.heap_setCell _ _ _ _ hq, Below.heap_setCell _ _ _ _ hq, Below.heap_setCell _ _ _ _ hq]
          have hS : (((wr.setCell ⟨w.heap.size + 1, 0, none⟩ (.int .i64 k0)).setCell ⟨w.heap.size + 1, 1, none⟩ (.slice A1 ls.length c1)).setCell ⟨w.heap.size + 1, 2, none⟩ (.slice A2 ts.length c2)).heap.size = wr.heap.size := by simp [World.setCell]
          rw [hS]
          have hD2 := HD.out.keep (w' := ((wr.setCell ⟨w.heap.size + 1, 0, none⟩ (.int .i64 k0)).setCell ⟨w.heap.size + 1, 1, none⟩ (.slice A1 ls.length c1)).setCell ⟨w.heap.size + 1, 2, none⟩ (.slice A2 ts.length c2)) fun b hb' _ => hk' b (by have := hb'.1; omega)
          have hzz := HZ.out
          rcases HROW.out with hl0 | ⟨g, hA1, hg0, hgp, hrg⟩
          · exact TyIn.of (t := .mk k0 ls ts) (gl := 0) hn HN.out (.inl hl0) hD2 fun b hb' => ⟨⟨by have := hb'.1; omega, hb'.2⟩, by have := hb'.1; omega⟩
          · have hgl := hrg.lt
            exact TyIn.of (t := .mk k0 ls ts) (gl := g) hn HN.out (.inr ⟨hA1, ⟨by omega, by omega⟩, (hrg.same (HOLD.out g hgl fun e => hgp e.symm)).same (hk' g (by omega))⟩) hD2 fun b hb' => ⟨⟨by have := hb'.1; omega, hb'.2⟩, by have := hb'.1; omega⟩
        · exact ((hb.setCell (by simp) _).setCell (by simp) _).setCell (by simp) _

theorem specCopy_any (t : Ty) : CopyOne t := by
  induction t using Ty.ind with
  | h k ls ts ih => exact specCopy_of k ls ts ih

end Go.Proofs.YtlmbnefoobameaaDoor
end

section
namespace Go.Proofs.YtlmbnefoobameaaDoor
open Go.RowKit

theorem own_base {w : World} {base base' size k : Nat} {e : TypeId} {v : Value} {xs : List Value} (h : w.ownsRow base' e size v k xs) (hb : base ≤ base') : w.ownsRow base e size v k xs :=
  ⟨h.1, h.2.imp id fun ⟨g, cap, cur, h1, h2, h3⟩ => ⟨g, cap, cur, h1, Nat.le_trans hb h2, h3⟩⟩
theorem GatherAt.base {w : World} {base base' k : Nat} {v : Value} {ts : List Ty} {xs : List Value} {vs : Nat → Value} {lo hi : Nat → Nat} (h : GatherAt w base' v k ts xs vs lo hi) (hb : base ≤ base') : GatherAt w base v k ts xs vs lo hi :=
  ⟨own_base h.own hb, h.cells, fun i hi' => ⟨Nat.le_trans hb (h.low i hi').1, (h.low i hi').2⟩, h.apart, h.free, h.kids⟩

/-- The value reads as the tree; its root's slices are rows from base on, apart from each other and from the parts. -/
def OwnTy (w : World) (base : Nat) (v : Value) (t : Ty) : Prop :=
  ∃ L lc A ac xs vs lo hi, v = .agg #[.int .i64 t.kind, .slice L t.labels.length lc, .slice A t.args.length ac] ∧ (∀ i, (h : i < t.labels.length) → t.labels[i].size ≤ maxLen) ∧ t.args.length ≤ maxLen ∧
    w.ownsRow base 9 1 (.slice L t.labels.length lc) t.labels.length (strVals t.labels) ∧ GatherAt w base (.slice A t.args.length ac) t.args.length t.args xs vs lo hi ∧
    ∀ gl, L = some ⟨gl, 0, none⟩ → A ≠ some ⟨gl, 0, none⟩ ∧ ∀ i, i < t.args.length → ¬ Span (lo i) (hi i) gl

theorem own_len {w : World} {base k : Nat} {e : TypeId} {v : Value} {xs : List Value} (h : w.ownsRow base e 1 v k xs) : k ≤ maxLen := by
  rcases h.2 with ⟨_, h2⟩ | ⟨g, cap, cur, h1, h2, h3, h4, h5, _⟩
  · omega
  · omega

theorem OwnTy.owned {w : World} {base : Nat} {v : Value} {t : Ty} (h : OwnTy w base v t) : TyIn w (Span base w.heap.size) v t := by
  obtain ⟨L, lc, A, ac, xs, vs, lo, hi, rfl, hz, hm, hl, hg, hap⟩ := h
  have hn := own_len hl
  have hdone := Gather.done ⟨xs, vs, lo, hi, hg⟩ hm
  rcases RowStrs.of_own hl with ⟨h1, h2⟩ | ⟨g, cap, h1, h2, h3⟩
  · obtain ⟨hd0, ga, vs', Ss, d1, d2, d3, d4⟩ := hdone
    refine TyIn.of (gl := w.heap.size) hn hz (.inl h2) (Sa := Span base w.heap.size) ⟨hd0, ga, vs', Ss, d1, d2, d3, d4⟩ fun b hb => ⟨hb, by have := hb.2; omega⟩
  · have e1 : L = some ⟨g, 0, none⟩ := by injection h1
    have hgl := h3.lt
    -- the parts, in the blocks but for the labels' own
    have hsub : TysIn w (fun b => Span base w.heap.size b ∧ b ≠ g) A t.args := by
      obtain ⟨hAg, hsp⟩ := hap g e1
      rcases hg.own.2 with ⟨_, k2⟩ | ⟨ga, cap2, cur, k1, k2, k3, k4, k5, k6, k7⟩
      · have ht : t.args = [] := List.length_eq_zero_iff.1 k2
        refine ⟨hm, 0, vs, fun _ _ => False, .inl ht, fun i hi => ?_, fun i _ hi => ?_, fun i hi => ?_⟩
        all_goals rw [ht] at hi; simp at hi
      · have e2 : A = some ⟨ga, 0, none⟩ := by injection k1
        have hgal := (hg.own.lt ga (by rw [e2]; rfl)).2
        refine ⟨hm, ga, vs, fun i => Span (lo i) (hi i), .inr ⟨e2, ⟨⟨k2, hgal⟩, fun e => hAg (by rw [e2, e])⟩, cur, k3, fun i hi' j hj => ?_⟩, fun i hi' b hb => ⟨⟨⟨?_, ?_⟩, fun e => hsp i hi' (by rw [← e]; exact hb)⟩, fun e => hg.free i hi' ga (by rw [e2]; rfl) (by rw [← e]; exact hb)⟩, ?_, fun i hi' => hg.kids i hi' hi'⟩
        · have hc := hg.cells i hi' j hj
          refine ⟨hc.1, ?_⟩
          rw [← hc.2, ← k7, List.getElem?_take, if_pos (by omega)]
          simp
        · have := (hg.low i hi').1
          have := hb.1
          omega
        · have := (hg.low i hi').2
          have := hb.2
          omega
        · intro i j hi' hj hne b hb hb'
          have := hb.1
          have := hb.2
          have := hb'.1
          have := hb'.2
          rcases Nat.lt_or_gt_of_ne hne with hlt | hlt
          · have := hg.apart i j hlt hj
            omega
          · have := hg.apart j i hlt hi'
            omega
    exact TyIn.of (gl := g) hn hz (.inr ⟨e1, ⟨h2, hgl⟩, h3⟩) hsub fun b hb => hb

/-- Where the blocks from base on stand, the tree stands. -/
theorem OwnTy.keep {w w' : World} {base : Nat} {v : Value} {t : Ty} (h : OwnTy w base v t) (hs : w.heap.size ≤ w'.heap.size) (hk : ∀ g, base ≤ g → g < w.heap.size → w'.heap[g]? = w.heap[g]?) : OwnTy w' base v t := by
  obtain ⟨L, lc, A, ac, xs, vs, lo, hi, hv, hz, hm, hl, hg, hap⟩ := h
  refine ⟨L, lc, A, ac, xs, vs, lo, hi, hv, hz, hm, ⟨hl.1, ?_⟩, hg.keep hs hk, hap⟩
  rcases hl.2 with h2 | ⟨g, cap, cur, h1, h2, h3, h4⟩
  · exact .inl h2
  · exact .inr ⟨g, cap, cur, h1, h2, (hk g h2 (Whole1.lt (t := 9) (cs := cur) h3)).trans h3, h4⟩
theorem OwnTy.base {w : World} {base base' : Nat} {v : Value} {t : Ty} (h : OwnTy w base' v t) (hb : base ≤ base') : OwnTy w base v t := by
  obtain ⟨L, lc, A, ac, xs, vs, lo, hi, hv, hz, hm, hl, hg, hap⟩ := h
  exact ⟨L, lc, A, ac, xs, vs, lo, hi, hv, hz, hm, own_base hl hb, hg.base hb, hap⟩
theorem OwnTy.open {w : World} {base : Nat} {v : Value} {t : Ty} (h : OwnTy w base v t) : ∃ L lc A ac, v = .agg #[.int .i64 t.kind, .slice L t.labels.length lc, .slice A t.args.length ac] := by
  obtain ⟨L, lc, A, ac, xs, vs, lo, hi, hv, _⟩ := h
  exact ⟨L, lc, A, ac, hv⟩

/-- Without labels and parts. -/
theorem OwnTy.leaf (w : World) (base : Nat) (k : Int) : OwnTy w base (.agg #[.int .i64 k, .slice none 0 0, .slice none 0 0]) (.mk k [] []) := by
  obtain ⟨xs, vs, lo, hi, hg⟩ := Gather.start w base []
  exact ⟨none, 0, none, 0, xs, vs, lo, hi, rfl, fun i h => absurd h (by simp [Ty.labels]), Nat.zero_le _, World.ownsRow_nil w base _ 1, hg, fun gl h => by cases h⟩

/-- A tree of its own is handed back. -/
def OwnNew (w : World) (t : Ty) (e : Ending) (w' : World) : Prop := ∃ v, e = .returned v ∧ OwnTy w' w.heap.size v t ∧ Below w.heap.size w w'

set_option maxHeartbeats 400000 in
theorem l3Int_any (w : World) : Calls Tryd.prog 74 #[] w (OwnNew w (.mk 1 [] [])) := by
  go_enter Tryd.func74, Tryd.ntmps74
  go_wp2
  exact bodyPost_ret (v := .agg #[.int .i64 1, .slice none 0 0, .slice none 0 0]) (by simp [results, Tryd.results74, go_sem]) rfl ⟨_, rfl, OwnTy.leaf _ _ _, (Below.refl _ _).alloc (Nat.le_refl _) _⟩

end Go.Proofs.YtlmbnefoobameaaDoor

namespace Go.Proofs.YtlmbnefoobameaaDoor
open Go.RowKit
attribute [local go_sem ↓] Go.wp_at_zero Go.wp_at_succ

/-- A row of one tree. -/
theorem gather_one {w1 : World} {base lo0 : Nat} {a b c : Value} {t : Ty} (hb : base ≤ lo0) (hs : lo0 ≤ w1.heap.size) (ht : TyIn w1 (Span lo0 w1.heap.size) (.agg #[a, b, c]) t) :
    ∃ xs vs lo hi, GatherAt (w1.alloc (.cells #[a, b, c] 30)) base (.slice (some ⟨w1.heap.size, 0, none⟩) 1 1) 1 [t] xs vs lo hi := by
  refine ⟨[a, b, c], fun _ => .agg #[a, b, c], fun _ => lo0, fun _ => w1.heap.size, World.ownsRow_lit w1 #[a, b, c] 1 (by omega) (by unfold maxLen; omega) rfl, fun i hi j hj => ?_, fun i hi => ⟨hb, by simp⟩, fun i j h1 h2 => absurd h2 (by omega), fun i hi g hg => ?_, fun i hi hi1 => ?_⟩
  · have h0 : i = 0 := by omega
    subst h0
    have : j = 0 ∨ j = 1 ∨ j = 2 := by omega
    rcases this with rfl | rfl | rfl
    · simp [partAt]
    · simp [partAt]
    · simp [partAt]
  · intro hsp
    have e := Option.some.inj hg
    have := hsp.2
    simp only at e
    omega
  · have h0 : i = 0 := by omega
    subst h0
    exact ht.keep fun q hq _ => Below.heap_alloc _ _ _ hq.2

set_option maxHeartbeats 1000000 in
theorem l3List_any (t : Ty) (v : Value) (w : World) (hv : TyAt w w.heap.size v t) (hsz : szTy t ≤ 1048576) :
    Calls Tryd.prog 68 #[v] w (OwnNew w (.mk 5 [] [t])) := by
  have hv0 := hv
  have HC := Lib.hid (fun W h => specCopy_any t v W h hsz)
  obtain ⟨L, lc, A, ac, rfl, _⟩ := hv.open
  obtain ⟨hb0, p0, r0, hs0⟩ := boxes2 w 30 30 #[.int .i64 t.kind, .slice L t.labels.length lc, .slice A t.args.length ac] #[.int .i64 0, .slice none 0 0, .slice none 0 0]
  have hv1 := hv0.up hb0
  go_enter Tryd.func68, Tryd.ntmps68
  go_wp2_with fail
  generalize (w.alloc (.cells #[.int .i64 t.kind, .slice L t.labels.length lc, .slice A t.args.length ac] 30)).alloc (.cells #[.int .i64 0, .slice none 0 0, .slice none 0 0] 30) = w0 at *
  have HZ := Lib.hid hs0
  clear hs0 hv hv0
  refine (HC.out w0 hv1).mono ?_
  rintro e w1 ⟨v1, rfl, hv2, hb1⟩
  have HV2 := Lib.hid hv2
  obtain ⟨T1, U1, T2, U2, _, rfl, _⟩ := hv2.open
  have hs1 := hb1.size
  have hzz := HZ.out
  have hb1' := hb0.trans (hb1.mono hb0.size)
  have r1 := r0.below hb1 r0.lt
  have r2 := r1.below ((Below.refl _ _).alloc (Nat.le_refl _) (.cells #[.int .i64 t.kind, .slice T1 t.labels.length U1, .slice T2 t.args.length U2] 30)) r1.lt
  have d0 : (w1.alloc (.cells #[.int .i64 t.kind, .slice T1 t.labels.length U1, .slice T2 t.args.length U2] 30)).cell? ⟨w.heap.size + 1, 0, none⟩ = some (.int .i64 0) := r2.cell 0
  have d1 : (w1.alloc (.cells #[.int .i64 t.kind, .slice T1 t.labels.length U1, .slice T2 t.args.length U2] 30)).cell? ⟨w.heap.size + 1, 1, none⟩ = some (.slice none 0 0) := r2.cell 1
  have d2 : (w1.alloc (.cells #[.int .i64 t.kind, .slice T1 t.labels.length U1, .slice T2 t.args.length U2] 30)).cell? ⟨w.heap.size + 1, 2, none⟩ = some (.slice none 0 0) := r2.cell 2
  have f0 : (w1.alloc (.cells #[.int .i64 t.kind, .slice T1 t.labels.length U1, .slice T2 t.args.length U2] 30)).frozen? ⟨w.heap.size + 1, 0, none⟩ = false := r2.free 0
  have f1 : (w1.alloc (.cells #[.int .i64 t.kind, .slice T1 t.labels.length U1, .slice T2 t.args.length U2] 30)).frozen? ⟨w.heap.size + 1, 1, none⟩ = false := r2.free 1
  have f2 : (w1.alloc (.cells #[.int .i64 t.kind, .slice T1 t.labels.length U1, .slice T2 t.args.length U2] 30)).frozen? ⟨w.heap.size + 1, 2, none⟩ = false := r2.free 2
  obtain ⟨xs, vs, lo, hi, hG⟩ := gather_one (base := w0.heap.size) (Nat.le_refl _) hs1 HV2.out
  have HG := Lib.hid hG
  clear hv2 hG r0 r1 r2 hzz
  go_wp2
  refine bodyPost_ret (v := .agg #[.int .i64 5, .slice none 0 0, .slice (some ⟨w1.heap.size, 0, none⟩) 1 1]) (by simp [results, Tryd.results68, go_sem, d0, d1, d2]) rfl ⟨_, rfl, ?_, ?_⟩
  · have hzz := HZ.out
    have hk : ∀ g, w0.heap.size ≤ g → ((((w1.alloc (.cells #[.int .i64 t.kind, .slice T1 t.labels.length U1, .slice T2 t.args.length U2] 30)).setCell ⟨w.heap.size + 1, 0, none⟩ (.int .i64 5)).setCell ⟨w.heap.size + 1, 1, none⟩ (.slice none 0 0)).setCell ⟨w.heap.size + 1, 2, none⟩ (.slice (some ⟨w1.heap.size, 0, none⟩) 1 1)).heap[g]? = (w1.alloc (.cells #[.int .i64 t.kind, .slice T1 t.labels.length U1, .slice T2 t.args.length U2] 30)).heap[g]? := fun g hg => by
      have : g ≠ w.heap.size + 1 := by omega
      rw [Below.heap_setCell _ _ _ _ this, Below.heap_setCell _ _ _ _ this, Below.heap_setCell _ _ _ _ this]
    refine OwnTy.base (base' := w0.heap.size) ?_ (by omega)
    refine OwnTy.keep (w := w1.alloc (.cells #[.int .i64 t.kind, .slice T1 t.labels.length U1, .slice T2 t.args.length U2] 30)) ?_ (by simp [World.setCell]) (fun g hg _ => hk g hg)
    exact ⟨none, 0, some ⟨w1.heap.size, 0, none⟩, 1, xs, vs, lo, hi, rfl, fun i h => absurd h (by simp [Ty.labels]), by unfold maxLen; simp [Ty.args], World.ownsRow_nil _ _ _ 1, HG.out, fun gl h => by cases h⟩
  · exact (((hb1'.alloc hb1'.size _).setCell (by simp) _).setCell (by simp) _).setCell (by simp) _

end Go.Proofs.YtlmbnefoobameaaDoor

namespace Go.Proofs.YtlmbnefoobameaaDoor
open Go.RowKit
attribute [local go_sem ↓] Go.wp_at_zero Go.wp_at_succ

theorem own_keep1 {w w' : World} {base k : Nat} {e : TypeId} {v : Value} {xs : List Value} (h : w.ownsRow base e 1 v k xs) (hk : ∀ g, v.ownBlock = some g → w'.heap[g]? = w.heap[g]?) : w'.ownsRow base e 1 v k xs := by
  refine ⟨h.1, ?_⟩
  rcases h.2 with h2 | ⟨g, cap, cur, h1, h2, h3, h4⟩
  · exact .inl h2
  · exact .inr ⟨g, cap, cur, h1, h2, (hk g (by rw [h1]; rfl)).trans h3, h4⟩

set_option maxHeartbeats 4000000 in
theorem l3Labeled_any (k0 : Int) (ls : List ByteArray) (ts : List Ty) (L A : Option Addr) (lc ac : Nat) (w : World) (hl : StrsAt w w.heap.size L ls) (hz : ∀ i, (h : i < ls.length) → ls[i].size ≤ maxLen) (ha : TysAt w w.heap.size A ts) (hln : ls.length ≤ 1000) (htn : ts.length ≤ 1000) (hsz : ∀ i, (h : i < ts.length) → szTy ts[i] ≤ 1048576) :
    Calls Tryd.prog 69 #[.int .i64 k0, .slice L ls.length lc, .slice A ts.length ac] w (OwnNew w (.mk k0 ls ts)) := by
  obtain ⟨i0, hi, hz0, hz1, hz2⟩ := info_parts infoString
  obtain ⟨i1, hi1, hy0, hy1, hy2⟩ := info_parts infoType
  have HN := Lib.hid hz
  have HALL := Lib.hid hsz
  clear hz hsz
  obtain ⟨hb0, r0, hs0⟩ := boxes1 w 30 #[.int .i64 0, .slice none 0 0, .slice none 0 0]
  have hE0 : ((w.alloc (.cells #[.int .i64 0, .slice none 0 0, .slice none 0 0] 30)).alloc (.cells #[] 9)).ownsRow (w.heap.size + 1) 9 1 (.slice (some ⟨w.heap.size + 1, 0, none⟩) 0 0) 0 [] := by
    have := World.ownsRow_lit (base := w.heap.size + 1) (e := 9) (size := 1) (w.alloc (.cells #[.int .i64 0, .slice none 0 0, .slice none 0 0] 30)) #[] 0 (by simp) (Nat.zero_le _) rfl
    rw [hs0] at this
    exact this
  have hb00 : Below w.heap.size w ((w.alloc (.cells #[.int .i64 0, .slice none 0 0, .slice none 0 0] 30)).alloc (.cells #[] 9)) := hb0.alloc hb0.size _
  have hsz00 : ((w.alloc (.cells #[.int .i64 0, .slice none 0 0, .slice none 0 0] 30)).alloc (.cells #[] 9)).heap.size = w.heap.size + 2 := by simp
  have HZ := Lib.hid hsz00
  have hr00 : Whole1 ((w.alloc (.cells #[.int .i64 0, .slice none 0 0, .slice none 0 0] 30)).alloc (.cells #[] 9)) w.heap.size 30 #[.int .i64 0, .slice none 0 0, .slice none 0 0] := r0.below ((Below.refl _ _).alloc (Nat.le_refl _) _) r0.lt
  clear hs0 hsz00
  go_enter Tryd.func69, Tryd.ntmps69
  go_wp2_with (at_builtin; refine wpList_append_cells _ rfl (.tmp 10) (.tmp 11) _ rfl (w.heap.size + 1) 9 i0 (.string ⟨#[]⟩) 1 16 Tryd.underlying24 hi hz0 hz1 hz2 rfl (by decide) _ 0 [] rfl hE0 L ls.length lc (strVals ls) rfl (by simp [strVals]) (hl.up' hb00).cells (strVals_one _) (by unfold maxLen; omega) (by omega) (by rw [HZ.out]; omega) ?_; intro v1 w1 hown1 hg1; have hown1' := own_strs (ss := ls) hown1 (by simp); obtain ⟨A1, c1, rfl, hrow⟩ := own_form (ss := ls) hown1 (by simp); have hr1 : Whole1 w1 w.heap.size 30 #[.int .i64 0, .slice none 0 0, .slice none 0 0] := (hg1.block w.heap.size (by simp; omega) (by show (some w.heap.size : Option Nat) ≠ some (w.heap.size + 1); simp)).trans hr00; have hB1 : Below w.heap.size w w1 := hb00.grown hg1 hb00.size (fun q hq => by have := (hE0.lt q hq).1; omega); have hs1 := hg1.size; rw [HZ.out] at hs1)
  clear hE0 hr00 hg1 hown1 hrow
  -- the world behind region 1
  have ho0 : Whole1 (w1.alloc (.cells #[.int .i64 k0, .slice A1 ls.length c1, .slice none 0 0] 30)) w1.heap.size 30 #[.int .i64 k0, .slice A1 ls.length c1, .slice none 0 0] := Whole1.new _ _ _
  have hr2 := hr1.below ((Below.refl _ _).alloc (Nat.le_refl _) (.cells #[.int .i64 k0, .slice A1 ls.length c1, .slice none 0 0] 30)) hr1.lt
  have hb1 := hB1.alloc hB1.size (.cells #[.int .i64 k0, .slice A1 ls.length c1, .slice none 0 0] 30)
  have hown2 := own_keep1 (w' := w1.alloc (.cells #[.int .i64 k0, .slice A1 ls.length c1, .slice none 0 0] 30)) hown1' (fun g hg => Below.heap_alloc _ _ _ (hown1'.lt g hg).2)
  have hlb := Lib.hid (fun g (hg : (Value.slice A1 ls.length c1).ownBlock = some g) => (hown1'.lt g hg))
  have hwcs : (w1.alloc (.cells #[.int .i64 k0, .slice A1 ls.length c1, .slice none 0 0] 30)).heap.size = w1.heap.size + 1 := by simp
  generalize hpo : w1.heap.size = po at *
  generalize w1.alloc (.cells #[.int .i64 k0, .slice A1 ls.length c1, .slice none 0 0] 30) = wc at *
  have HWC := Lib.hid hwcs
  have HPO := Lib.hid hpo
  have hol : po < wc.heap.size := ho0.lt
  have hrl : w.heap.size < wc.heap.size := hr2.lt
  clear hwcs hpo hr1 hown1' r0 hB1
  go_loopw [8] (fun i wr => ∃ (k : Nat) (c2 : Nat) (A2 : Option Addr), k ≤ ts.length ∧ i = .int .i64 k ∧ Whole1 wr po 30 #[.int .i64 k0, .slice A1 ls.length c1, .slice A2 k c2] ∧ Gather wr wc.heap.size (.slice A2 k c2) k ts ∧ (∀ q, q < wc.heap.size → q ≠ po → wr.heap[q]? = wc.heap[q]?) ∧ Below w.heap.size w wr ∧ wc.heap.size ≤ wr.heap.size) (fun i _ => ts.length - (intOf i).toNat)
  case atStart => exact ⟨0, 0, none, Nat.zero_le _, rfl, ho0, Gather.start _ _ _, fun _ _ _ => rfl, hb1, Nat.le_refl _⟩
  case round =>
    obtain ⟨k, c2, A2, hk, rfl, ho, hga, hold, hb, hsz1⟩ := hrel
    have HOLD := Lib.hid hold
    clear hold ho0
    by_cases hlt : k < ts.length
    · obtain ⟨xs, vs, lo, hi', hG⟩ := hga
      obtain ⟨b, off, M, mc, C, cc, rfl, hbl, e0, e1, e2, _, _, _, _, ht⟩ := (ha.below hb).elem k hlt
      have hbs := hb.size
      have HT := Lib.hid (specCopy_any ts[k] _ wr.drew ((ht.more hbs).up (Below.refl _ _).drew) (HALL.out k hlt))
      have HG := Lib.hid hG
      have HO := Lib.hid ho
      have o2 : wr.cell? ⟨po, 2, none⟩ = some (.slice A2 k c2) := ho.cell 2
      have f2 : wr.frozen? ⟨po, 2, none⟩ = false := ho.free 2
      have hbw : b < wr.heap.size := by omega
      have how : po < wr.heap.size := by omega
      have HOWN := Lib.hid hG.own
      clear hG ho ht
      go_wp2
      go_region_law (first
        | (go_simp; go_at_call 117; refine HT.out.mono ?_; rintro e w2 ⟨v1, rfl, ht1, hb2⟩; have HT1 := Lib.hid ht1; obtain ⟨T1, U1, T2, U2, _, rfl, _⟩ := ht1.open; clear ht1; have hb2' := (Below.refl wr.heap.size wr).drew.trans hb2; have y2 := (hb2'.cell (p := ⟨po, 2, none⟩) how).trans o2; have y3 := ((hb2'.alloc hb2'.size (.cells #[.int .i64 ts[k].kind, .slice T1 ts[k].labels.length U1, .slice T2 ts[k].args.length U2] 30)).cell (p := ⟨po, 2, none⟩) how).trans o2; have hown2 := World.ownsRow.alloc (own_keep HOWN.out (fun g hg => hb2'.block g (HOWN.out.lt g hg).2)) (.cells #[.int .i64 ts[k].kind, .slice T1 ts[k].labels.length U1, .slice T2 ts[k].args.length U2] 30); have hnews := news3 w2 30 (.int .i64 ts[k].kind) (.slice T1 ts[k].labels.length U1) (.slice T2 ts[k].args.length U2))
        | (refine step_append_lies _ (by rfl) (.tmp 21) (.tmp 27) _ (by rfl) wc.heap.size 30 i1 (.agg #[.int .i64 0, .slice none 0 0, .slice none 0 0]) 3 56 Tryd.underlying28 hi1 hy0 hy1 hy2 rfl (by decide) _ k xs (by rfl) hown2 ⟨w2.heap.size, 0, none⟩ 1 1 [.int .i64 ts[k].kind, .slice T1 ts[k].labels.length U1, .slice T2 ts[k].args.length U2] (by rfl) rfl hnews.1 hnews.2 (by omega) (by unfold maxLen; omega) (by omega) (by have := hb2'.size; simp; omega) (w2.heap.size + 1) (by simp) ?_; intro g cap w3 hown3 hg3 hat3 hlt3; have hvb := fun q (hq : (Value.slice A2 k c2).ownBlock = some q) => (HOWN.out.lt q hq).1; have ho3 : Whole1 w3 po 30 #[.int .i64 k0, .slice A1 ls.length c1, .slice A2 k c2] := ((hg3.block po (by have := hb2'.size; simp; omega) (fun e => by have := hvb po e.symm; omega)).trans (Below.heap_alloc _ _ _ (by have := hb2'.size; omega))).trans ((hb2'.block po how).trans HO.out); have m2 : w3.cell? ⟨po, 2, none⟩ = some (.slice A2 k c2) := ho3.cell 2; have n2 : w3.frozen? ⟨po, 2, none⟩ = false := ho3.free 2))
      all_goals
        go_wp2
        go_roundw
        case rel => exact ⟨k + 1, cap, some ⟨g, 0, none⟩, by omega, by go_num, copy_rel hlt hol (by omega) hsz1 HG.out hb2' HT1.out hown3 hg3 hat3 ho3 HOLD.out hb⟩
        case measure => simp [intOf]; omega
    · have hke : k = ts.length := by omega
      subst hke
      have r3 : Whole1 wr w.heap.size 30 #[.int .i64 0, .slice none 0 0, .slice none 0 0] := (HOLD.out _ hrl (by omega)).trans hr2
      have o0 : wr.cell? ⟨po, 0, none⟩ = some (.int .i64 k0) := ho.cell 0
      have o1 : wr.cell? ⟨po, 1, none⟩ = some (.slice A1 ls.length c1) := ho.cell 1
      have o2 : wr.cell? ⟨po, 2, none⟩ = some (.slice A2 ts.length c2) := ho.cell 2
      have d0 : wr.cell? ⟨w.heap.size, 0, none⟩ = some (.int .i64 0) := r3.cell 0
      have d1 : wr.cell? ⟨w.heap.size, 1, none⟩ = some (.slice none 0 0) := r3.cell 1
      have d2 : wr.cell? ⟨w.heap.size, 2, none⟩ = some (.slice none 0 0) := r3.cell 2
      have e0 : wr.frozen? ⟨w.heap.size, 0, none⟩ = false := r3.free 0
      have e1 : wr.frozen? ⟨w.heap.size, 1, none⟩ = false := r3.free 1
      have e2 : wr.frozen? ⟨w.heap.size, 2, none⟩ = false := r3.free 2
      have HGA := Lib.hid hga
      clear r3 ho hga
      go_wp2
      refine bodyPost_ret (v := .agg #[.int .i64 k0, .slice A1 ls.length c1, .slice A2 ts.length c2]) (by simp [results, Tryd.results69, go_sem, d0, d1, d2]) rfl ⟨_, rfl, ?_, ?_⟩
      · have hwcs := HWC.out
        have hpo := HPO.out
        refine OwnTy.base (base' := w.heap.size + 1) ?_ (by omega)
        refine OwnTy.keep (w := wr) ?_ (by simp [World.setCell]) (fun g hg _ => by
          have : g ≠ w.heap.size := by omega
          rw [Below.heap_setCell _ _ _ _ this, Below.heap_setCell _ _ _ _ this, Below.heap_setCell _ _ _ _ this])
        obtain ⟨xs, vs, lo, hi', hG⟩ := HGA.out
        have hlo := hG.low
        have hrow := own_keep1 (w' := wr) hown2 (fun g hg => HOLD.out g (by have := (hlb.out g hg).2; omega) (by have := (hlb.out g hg).2; omega))
        refine ⟨A1, c1, A2, c2, xs, vs, lo, hi', rfl, HN.out, by unfold maxLen; simp only [Ty.args]; omega, hrow, hG.base (by omega), fun gl hgl => ⟨fun e => ?_, fun i hi2 hsp => ?_⟩⟩
        · have h1 := (hlb.out gl (by rw [hgl]; rfl)).2
          have h2 := (hG.own.lt gl (by rw [e]; rfl)).1
          omega
        · have h1 := (hlb.out gl (by rw [hgl]; rfl)).2
          have h2 := (hlo i hi2).1
          have h3 := hsp.1
          omega
      · exact ((hb.setCell (by simp) _).setCell (by simp) _).setCell (by simp) _

end Go.Proofs.YtlmbnefoobameaaDoor
end
