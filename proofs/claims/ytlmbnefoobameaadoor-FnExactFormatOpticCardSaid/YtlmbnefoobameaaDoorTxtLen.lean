/- The text of a tree of types, and the tree that a text is read as: free of the program. -/
import Derived.Test.YtlmbnefoobameaaDoorSpecTy5
import Derived.Test.YtlmbnefoobameaaDoorSz

namespace Go.Proofs.YtlmbnefoobameaaDoor
open Go.RowKit

def commas : List (List UInt8) → List UInt8
  | [] => []
  | [a] => a
  | a :: b :: r => a ++ 44 :: commas (b :: r)
def lab : List ByteArray → List (List UInt8) → List (List UInt8)
  | l :: ls, x :: xs => (l.data.toList ++ 58 :: x) :: lab ls xs
  | _, _ => []
def nodeTxt (k : Int) (ls : List ByteArray) (xs : List (List UInt8)) : List UInt8 :=
  if k = 1 then [73] else if k = 2 then [66] else if k = 3 then 123 :: (commas (lab ls xs) ++ [125]) else if k = 4 then 60 :: (commas (lab ls xs) ++ [62]) else 91 :: (xs.headD [] ++ [93])
mutual
/-- The text of a tree. -/
def txt : Ty → List UInt8 | .mk k ls ts => nodeTxt k ls (txts ts)
def txts : List Ty → List (List UInt8) | [] => [] | t :: r => txt t :: txts r
end
theorem txts_map : ∀ (ts : List Ty), txts ts = ts.map txt
  | [] => by rw [txts]; rfl
  | t :: r => by rw [txts, txts_map r]; rfl

/-- A letter or digit. -/
def wordC (c : UInt8) : Bool := (decide (48 ≤ c.toNat) && decide (c.toNat ≤ 57)) || (decide (97 ≤ c.toNat) && decide (c.toNat ≤ 122))
/-- The first byte is c: what comes behind it. -/
def eat (c : UInt8) : List UInt8 → Option (List UInt8)
  | [] => none
  | x :: r => if x = c then some r else none
theorem eat_some {c : UInt8} {l r : List UInt8} (h : eat c l = some r) : l = c :: r := by
  cases l with
  | nil => cases h
  | cons x q =>
    by_cases e : x = c
    · rw [eat, if_pos e] at h
      injection h with h
      rw [e, h]
    · rw [eat, if_neg e] at h
      cases h
theorem eat_cons (c : UInt8) (r : List UInt8) : eat c (c :: r) = some r := by simp [eat]
theorem eat_other {c x : UInt8} (r : List UInt8) (h : x ≠ c) : eat c (x :: r) = none := by simp [eat, h]

/-- Labels with parts, as far as commas stand between. -/
def rdLab (f : List UInt8 → Option (Ty × List UInt8)) : Nat → List UInt8 → Option (List ByteArray × List Ty × List UInt8)
  | 0, _ => none
  | n + 1, l =>
    match eat 58 (l.dropWhile wordC) with
    | none => none
    | some r =>
      match f r with
      | none => none
      | some (t, r1) =>
        match eat 44 r1 with
        | none => some ([⟨(l.takeWhile wordC).toArray⟩], [t], r1)
        | some r2 =>
          match rdLab f n r2 with
          | none => none
          | some (ls, ts, q) => some (⟨(l.takeWhile wordC).toArray⟩ :: ls, t :: ts, q)
def rdBox (f : List UInt8 → Option (Ty × List UInt8)) (k : Int) (e : UInt8) (l : List UInt8) : Option (Ty × List UInt8) :=
  match rdLab f (l.length + 1) l with
  | none => none
  | some (ls, ts, q) => match eat e q with
    | none => none
    | some r => some (.mk k ls ts, r)
/-- A tree of n levels at most is read. -/
def rdTy : Nat → List UInt8 → Option (Ty × List UInt8)
  | 0, _ => none
  | n + 1, l =>
    match eat 73 l with
    | some r => some (.mk 1 [] [], r)
    | none => match eat 66 l with
      | some r => some (.mk 2 [] [], r)
      | none => match eat 123 l with
        | some r => rdBox (rdTy n) 3 125 r
        | none => match eat 60 l with
          | some r => rdBox (rdTy n) 4 62 r
          | none => match eat 91 l with
            | none => none
            | some r => match rdTy n r with
              | none => none
              | some (t, r1) => match eat 93 r1 with
                | none => none
                | some r2 => some (.mk 5 [] [t], r2)

/-- What is read is the text of what it is read as, and no shorter than the tree. -/
def Sound (f : List UInt8 → Option (Ty × List UInt8)) : Prop := ∀ l t r, f l = some (t, r) → l = txt t ++ r ∧ szTy t + 1 ≤ (txt t).length
theorem rdLab_sound {f : List UInt8 → Option (Ty × List UInt8)} (hf : Sound f) : ∀ (n : Nat) (l : List UInt8) (ls : List ByteArray) (ts : List Ty) (q : List UInt8), rdLab f n l = some (ls, ts, q) →
    l = commas (lab ls (txts ts)) ++ q ∧ ls.length = ts.length ∧ ls ≠ [] ∧ ls.length + sumSizes ls + szTys ts ≤ (commas (lab ls (txts ts))).length + 1 := by
  intro n
  induction n with
  | zero =>
    intro l ls ts q h
    cases h
  | succ n ih =>
    intro l ls ts q h
    rw [rdLab] at h
    split at h
    · cases h
    · rename_i r hr
      split at h
      · cases h
      · rename_i t r1 ht
        obtain ⟨e1, e2⟩ := hf _ _ _ ht
        have hl : l = (⟨(l.takeWhile wordC).toArray⟩ : ByteArray).data.toList ++ 58 :: (txt t ++ r1) := by
          have h1 := eat_some hr
          rw [e1] at h1
          rw [← h1]
          exact (List.takeWhile_append_dropWhile).symm
        generalize (⟨(l.takeWhile wordC).toArray⟩ : ByteArray) = b at *
        have hbl : b.data.toList.length = b.size := by simp
        split at h
        · cases h
          refine ⟨?_, rfl, by simp, ?_⟩
          · rw [hl]
            simp [lab, txts, commas]
          · simp only [lab, txts, commas, List.length_append, List.length_cons, szTys, List.length_nil, sumSizes, List.map_cons, List.map_nil, List.sum_cons, List.sum_nil]
            omega
        · rename_i r2 hr2
          split at h
          · cases h
          · rename_i ls' ts' q' hq
            cases h
            obtain ⟨i1, i2, i3, i4⟩ := ih _ _ _ _ hq
            have hr3 := eat_some hr2
            obtain ⟨x, xs, hx⟩ : ∃ x xs, lab ls' (txts ts') = x :: xs := by
              cases ls' with
              | nil => exact absurd rfl i3
              | cons a aq =>
                cases ts' with
                | nil => simp at i2
                | cons u us => exact ⟨_, _, rfl⟩
            rw [hx] at i1 i4
            refine ⟨?_, by simp [i2], by simp, ?_⟩
            · rw [hl, hr3, i1]
              simp [lab, txts, commas, hx]
            · simp only [lab, txts, commas, hx, List.length_append, List.length_cons, szTys, sumSizes, List.map_cons, List.sum_cons] at i4 ⊢
              omega
theorem rdBox_sound {f : List UInt8 → Option (Ty × List UInt8)} (hf : Sound f) (k : Int) (e a : UInt8) (l : List UInt8) (t : Ty) (r : List UInt8) (hk : ∀ ls xs, nodeTxt k ls xs = a :: (commas (lab ls xs) ++ [e])) (h : rdBox f k e l = some (t, r)) :
    a :: l = txt t ++ r ∧ szTy t + 1 ≤ (txt t).length := by
  unfold rdBox at h
  split at h
  · cases h
  · rename_i ls ts q hq
    split at h
    · cases h
    · rename_i r' hr
      cases h
      obtain ⟨h1, h2, _, h3⟩ := rdLab_sound hf _ _ _ _ _ hq
      have h4 := eat_some hr
      rw [txt, hk, szTy]
      refine ⟨?_, ?_⟩
      · rw [h1, h4]
        simp
      · simp only [List.length_cons, List.length_append, List.length_nil]
        omega
theorem rdTy_sound (n : Nat) : Sound (rdTy n) := by
  induction n with
  | zero =>
    intro l t r h
    cases h
  | succ n ih =>
    intro l t r h
    rw [rdTy] at h
    split at h
    · rename_i r' hr
      cases h
      rw [eat_some hr]
      simp [txt, nodeTxt, szTy, szTys, sumSizes]
    · split at h
      · rename_i r' hr
        cases h
        rw [eat_some hr]
        simp [txt, nodeTxt, szTy, szTys, sumSizes]
      · split at h
        · rename_i r' hr
          rw [eat_some hr]
          exact rdBox_sound ih 3 125 123 _ _ _ (fun _ _ => by simp [nodeTxt]) h
        · split at h
          · rename_i r' hr
            rw [eat_some hr]
            exact rdBox_sound ih 4 62 60 _ _ _ (fun _ _ => by simp [nodeTxt]) h
          · split at h
            · cases h
            · rename_i r' hr
              split at h
              · cases h
              · rename_i t1 r1 ht
                split at h
                · cases h
                · rename_i r2 hr2
                  cases h
                  obtain ⟨e1, e2⟩ := ih _ _ _ ht
                  rw [eat_some hr, e1, eat_some hr2]
                  refine ⟨by simp [txt, nodeTxt, txts], ?_⟩
                  simp only [txt, nodeTxt, txts, szTy, szTys, sumSizes] at e2 ⊢
                  simp
                  omega

theorem name_word (s : ByteArray) (h : isNameB s = true) : ∀ c ∈ s.data.toList, wordC c = true := by
  intro c hc
  unfold isNameB at h
  simp only [Bool.and_eq_true, List.all_eq_true, List.mem_range] at h
  obtain ⟨i, hi, rfl⟩ := List.getElem_of_mem hc
  have hi' : i < s.size := by simpa using hi
  have h1 := h.1.1 i hi'
  have h2 : s.data.getD i 0 = s.data.toList[i] := by
    rw [Array.getD, dif_pos (show i < s.data.size from hi')]
    simp
  rw [h2] at h1
  unfold nameAt at h1
  unfold wordC
  simp only [Bool.or_eq_true, Bool.and_eq_true, decide_eq_true_eq] at h1 ⊢
  omega
theorem word_taken (s : ByteArray) (h : isNameB s = true) (r : List UInt8) : (s.data.toList ++ 58 :: r).takeWhile wordC = s.data.toList ∧ (s.data.toList ++ 58 :: r).dropWhile wordC = 58 :: r := by
  have hw := name_word s h
  generalize s.data.toList = l at *
  induction l with
  | nil => simp [wordC]
  | cons a q ih =>
    have h1 := ih fun c hc => hw c (by simp [hc])
    have h2 := hw a (by simp)
    simp [h2, h1]

/-- Every tree of the class is read from its text. -/
def Reads (f : List UInt8 → Option (Ty × List UInt8)) (t : Ty) : Prop := ∀ r, f (txt t ++ r) = some (t, r)
theorem rdLab_full {f : List UInt8 → Option (Ty × List UInt8)} : ∀ (ls : List ByteArray) (ts : List Ty), ls.length = ts.length → ls ≠ [] → (∀ l ∈ ls, isNameB l = true) → (∀ t ∈ ts, Reads f t) → ∀ (n : Nat) (e : UInt8) (r : List UInt8), e ≠ 44 → ls.length ≤ n →
    rdLab f n (commas (lab ls (txts ts)) ++ e :: r) = some (ls, ts, e :: r) := by
  intro ls
  induction ls with
  | nil => intro ts _ h; exact absurd rfl h
  | cons a aq ih =>
    intro ts hl _ hn hr n e r he hlen
    cases ts with
    | nil => simp at hl
    | cons u us =>
      cases n with
      | zero => simp at hlen
      | succ n =>
        have hal := hn a (by simp)
        have hru := hr u (by simp)
        cases aq with
        | nil =>
          cases us with
          | cons _ _ => simp at hl
          | nil =>
            have hw := word_taken a hal (txt u ++ e :: r)
            have e1 : commas (lab [a] (txts [u])) ++ e :: r = a.data.toList ++ 58 :: (txt u ++ e :: r) := by simp [lab, txts, commas]
            rw [e1, rdLab, hw.2, hw.1, eat_cons]
            simp only [hru (e :: r), eat_other r he]
        | cons b bs =>
          cases us with
          | nil => simp at hl
          | cons v vs =>
            have e1 : commas (lab (a :: b :: bs) (txts (u :: v :: vs))) ++ e :: r = a.data.toList ++ 58 :: (txt u ++ 44 :: (commas (lab (b :: bs) (txts (v :: vs))) ++ e :: r)) := by simp [lab, txts, commas]
            have hw := word_taken a hal (txt u ++ 44 :: (commas (lab (b :: bs) (txts (v :: vs))) ++ e :: r))
            have h1 := ih (v :: vs) (by simpa using hl) (by simp) (fun l h => hn l (by simp [h])) (fun t h => hr t (by simp [h])) n e r he (by simpa using hlen)
            rw [e1, rdLab, hw.2, hw.1, eat_cons]
            simp only [show ∀ q, f (txt u ++ q) = some (u, q) from hru, eat_cons, h1]
theorem lab_len : ∀ (ls : List ByteArray) (ts : List Ty), ls.length = ts.length → ls.length ≤ (commas (lab ls (txts ts))).length
  | [], _, _ => Nat.zero_le _
  | [a], [], h => by simp at h
  | [a], [u], _ => by
    simp [lab, txts, commas]
    omega
  | [a], _ :: _ :: _, h => by simp at h
  | a :: b :: bs, [], h => by simp at h
  | a :: b :: bs, [_], h => by simp at h
  | a :: b :: bs, u :: v :: vs, h => by
    have := lab_len (b :: bs) (v :: vs) (by simpa using h)
    simp only [lab, txts, commas, List.length_append, List.length_cons] at this ⊢
    omega
theorem labelsB_names {ls : List ByteArray} (h : labelsB ls = true) : ∀ l ∈ ls, isNameB l = true := by
  unfold labelsB at h
  simp only [Bool.and_eq_true, List.all_eq_true] at h
  exact h.1.1
theorem labelsB_some {ls : List ByteArray} (h : labelsB ls = true) : ls ≠ [] := by
  unfold labelsB at h
  simp only [Bool.and_eq_true, decide_eq_true_eq] at h
  intro e
  rw [e] at h
  simp at h
theorem formTys_mem : ∀ {ts : List Ty}, formTys ts = true → ∀ t ∈ ts, formTy t = true
  | [], _, t, h => by cases h
  | a :: r, h, t, ht => by
    rw [formTys, Bool.and_eq_true] at h
    rcases List.mem_cons.1 ht with rfl | h2
    · exact h.1
    · exact formTys_mem h.2 t h2
theorem depthTys_mem : ∀ {ts : List Ty} {n : Nat}, depthTys ts ≤ n → ∀ t ∈ ts, depthTy t ≤ n
  | [], _, _, t, h => by cases h
  | a :: r, n, h, t, ht => by
    rw [depthTys] at h
    rcases List.mem_cons.1 ht with rfl | h2
    · omega
    · exact depthTys_mem (by omega) t h2
theorem rdTy_full (n : Nat) : ∀ (t : Ty), formTy t = true → depthTy t ≤ n → Reads (rdTy n) t := by
  induction n with
  | zero =>
    intro t _ h
    rw [depthTy_eq] at h
    omega
  | succ n ih =>
    intro t hf hd r
    cases t with
    | mk k ls ts =>
      rw [formTy, Bool.and_eq_true] at hf
      rw [depthTy] at hd
      have hts : ∀ t ∈ ts, Reads (rdTy n) t := fun t ht => ih t (formTys_mem hf.1 t ht) (depthTys_mem (by omega) t ht)
      have hnode := hf.2
      unfold nodeB at hnode
      have box : ∀ (e : UInt8), e ≠ 44 → labelsB ls = true → ls.length = ts.length → rdBox (rdTy n) k e (commas (lab ls (txts ts)) ++ e :: r) = some (.mk k ls ts, r) := fun e he hl hlt => by
        have h1 := rdLab_full ls ts hlt (labelsB_some hl) (labelsB_names hl) hts ((commas (lab ls (txts ts)) ++ e :: r).length + 1) e r he (by have := lab_len ls ts hlt; rw [List.length_append]; omega)
        unfold rdBox
        rw [h1]
        simp only [eat_cons]
      rw [txt]
      by_cases h1 : k = 1 ∨ k = 2
      · rw [if_pos h1] at hnode
        simp only [Bool.and_eq_true, decide_eq_true_eq] at hnode
        obtain ⟨rfl, rfl⟩ : ls = [] ∧ ts = [] := ⟨List.eq_nil_of_length_eq_zero hnode.1, List.eq_nil_of_length_eq_zero hnode.2⟩
        rcases h1 with rfl | rfl
        · simp [nodeTxt, rdTy, eat]
        · simp [nodeTxt, rdTy, eat]
      · rw [if_neg h1] at hnode
        by_cases h2 : k = 3 ∨ k = 4
        · rw [if_pos h2] at hnode
          simp only [Bool.and_eq_true, decide_eq_true_eq] at hnode
          rcases h2 with rfl | rfl
          · have := box 125 (by decide) hnode.2 hnode.1.symm
            simp [nodeTxt, rdTy, eat, this]
          · have := box 62 (by decide) hnode.2 hnode.1.symm
            simp [nodeTxt, rdTy, eat, this]
        · rw [if_neg h2] at hnode
          by_cases h3 : k = 5
          · rw [if_pos h3] at hnode
            simp only [Bool.and_eq_true, decide_eq_true_eq] at hnode
            obtain rfl : ls = [] := List.eq_nil_of_length_eq_zero hnode.1
            obtain ⟨t, rfl⟩ := List.length_eq_one_iff.1 hnode.2
            subst h3
            have := hts t (by simp) (93 :: r)
            simp [nodeTxt, rdTy, eat, txts, this]
          · rw [if_neg h3] at hnode
            cases hnode

/-- The tree of a text: valid, with this text. -/
def parseB (s : ByteArray) : Option Ty :=
  match rdTy 8 s.data.toList with
  | some (t, []) => if validB t then some t else none
  | _ => none
theorem parseB_some {s : ByteArray} {t : Ty} (h : parseB s = some t) : validB t = true ∧ txt t = s.data.toList := by
  unfold parseB at h
  split at h
  · rename_i t' e
    split at h
    · cases h
      have := (rdTy_sound 8 _ _ _ e).1
      simp_all
    · cases h
  · cases h
theorem parseB_of {s : ByteArray} {t : Ty} (hv : validB t = true) (ht : txt t = s.data.toList) : parseB s = some t := by
  have h := hv
  unfold validB at h
  simp only [Bool.and_eq_true, decide_eq_true_eq] at h
  have h1 := rdTy_full 8 t h.2 h.1.2 []
  rw [List.append_nil, ht] at h1
  unfold parseB
  rw [h1]
  simp [hv]
theorem parseB_none {s : ByteArray} (h : ∀ t, validB t = true → txt t = s.data.toList → False) : parseB s = none := by
  cases hp : parseB s with
  | none => rfl
  | some t => exact (h t (parseB_some hp).1 (parseB_some hp).2).elim

/-- The text of a tree, if it is valid. -/
def formatB (t : Ty) : ByteArray := if validB t then ⟨(txt t).toArray⟩ else ⟨#[]⟩

end Go.Proofs.YtlmbnefoobameaaDoor

namespace Go.Proofs.YtlmbnefoobameaaDoor
open Go.RowKit

def sumLens (xs : List (List UInt8)) : Nat := (xs.map List.length).sum
theorem commas_len : ∀ (xs : List (List UInt8)), (commas xs).length ≤ sumLens xs + xs.length
  | [] => Nat.le_refl _
  | [a] => by simp [commas, sumLens]
  | a :: b :: r => by
    have := commas_len (b :: r)
    simp only [commas, sumLens, List.map_cons, List.sum_cons, List.length_append, List.length_cons] at this ⊢
    omega
theorem commas_snoc : ∀ (xs : List (List UInt8)) (a : List UInt8), xs ≠ [] → commas (xs ++ [a]) = commas xs ++ 44 :: a
  | [], _, h => absurd rfl h
  | [x], a, _ => rfl
  | x :: y :: r, a, _ => by
    have := commas_snoc (y :: r) a (by simp)
    rw [List.cons_append] at this
    show x ++ 44 :: commas (y :: (r ++ [a])) = (x ++ 44 :: commas (y :: r)) ++ 44 :: a
    rw [this]
    simp
def bytesOf (xs : List (List UInt8)) : List ByteArray := xs.map fun x => ⟨x.toArray⟩
theorem join_commas (xs : List (List UInt8)) : ∀ (k : Nat), k ≤ xs.length → joinTo (bytesOf xs) ⟨#[44]⟩ k = commas (xs.take k)
  | 0, _ => by simp [joinTo, commas]
  | k + 1, h => by
    have h1 := join_commas xs k (by omega)
    have h2 : (bytesOf xs).getD k ⟨#[]⟩ = ⟨xs[k].toArray⟩ := by simp [bytesOf, show k < xs.length by omega]
    rw [joinTo, h1, h2, List.take_succ_eq_append_getElem (by omega)]
    by_cases hk : 0 < k
    · rw [if_pos hk, commas_snoc _ _ (by intro e; have e2 := congrArg List.length e; rw [List.length_take, List.length_nil] at e2; omega)]
      simp
    · obtain rfl : k = 0 := by omega
      simp [commas]
theorem bytesOf_sum : ∀ (xs : List (List UInt8)), sumSizes (bytesOf xs) = sumLens xs
  | [] => rfl
  | a :: r => by
    have := bytesOf_sum r
    simp only [bytesOf, sumSizes, sumLens, List.map_cons, List.sum_cons] at this ⊢
    rw [this]
    rfl

theorem name_len {s : ByteArray} (h : isNameB s = true) : s.size ≤ 4 := by
  unfold isNameB at h
  simp only [Bool.and_eq_true, decide_eq_true_eq] at h
  exact h.2
theorem lab_sum : ∀ (ls : List ByteArray) (xs : List (List UInt8)), (∀ l ∈ ls, l.size ≤ 4) → sumLens (lab ls xs) ≤ sumLens xs + 5 * xs.length ∧ (lab ls xs).length ≤ xs.length
  | [], xs, _ => by simp [lab, sumLens]
  | _ :: _, [], _ => by simp [lab, sumLens]
  | l :: ls, x :: xs, h => by
    have h1 := lab_sum ls xs fun l hl => h l (by simp [hl])
    have h2 := h l (by simp)
    have h3 : l.data.toList.length = l.size := by simp
    simp only [lab, sumLens, List.map_cons, List.sum_cons, List.length_append, List.length_cons] at h1 ⊢
    omega
theorem lab_same : ∀ (ls : List ByteArray) (xs : List (List UInt8)), ls.length = xs.length → (lab ls xs).length = ls.length
  | [], _, _ => rfl
  | _ :: _, [], h => by simp at h
  | l :: ls, x :: xs, h => by simp [lab, lab_same ls xs (by simpa using h)]
theorem lab_get : ∀ (ls : List ByteArray) (xs : List (List UInt8)) (k : Nat) (h1 : k < ls.length) (h2 : k < xs.length) (h3 : k < (lab ls xs).length), (lab ls xs)[k] = ls[k].data.toList ++ 58 :: xs[k]
  | [], _, _, h, _, _ => by simp at h
  | _ :: _, [], _, _, h, _ => by simp at h
  | l :: ls, x :: xs, 0, _, _, _ => rfl
  | l :: ls, x :: xs, k + 1, h1, h2, h3 => lab_get ls xs k (by simpa using h1) (by simpa using h2) (by simpa [lab] using h3)
theorem txts_sum : ∀ (ts : List Ty), (∀ i, (h : i < ts.length) → (txt ts[i]).length + 6 ≤ 8 * sizeTy ts[i]) → sumLens (txts ts) + 6 * ts.length ≤ 8 * sizeTys ts ∧ (txts ts).length = ts.length
  | [], _ => by simp [txts, sumLens, sizeTys]
  | t :: r, h => by
    have h1 := txts_sum r fun i hi => h (i + 1) (by simpa using hi)
    have h2 := h 0 (by simp)
    simp only [txts, sumLens, sizeTys, List.map_cons, List.sum_cons, List.length_cons, List.getElem_cons_zero] at h1 h2 ⊢
    omega
theorem formTys_get {ts : List Ty} (h : formTys ts = true) (i : Nat) (hi : i < ts.length) : formTy ts[i] = true := formTys_mem h _ (List.getElem_mem hi)
theorem txt_len (t : Ty) : formTy t = true → (txt t).length + 6 ≤ 8 * sizeTy t := by
  induction t using Ty.ind with
  | h k ls ts ih =>
    intro hf
    rw [formTy, Bool.and_eq_true] at hf
    obtain ⟨h1, h2⟩ := txts_sum ts fun i hi => ih i hi (formTys_get hf.1 i hi)
    have hn := hf.2
    unfold nodeB at hn
    rw [txt, sizeTy]
    unfold nodeTxt
    split at hn
    · rename_i h12
      split
      · simp
        omega
      · split
        · simp
          omega
        · omega
    · rename_i h12
      rw [if_neg (by omega), if_neg (by omega)]
      split at hn
      · rename_i h34
        simp only [Bool.and_eq_true, decide_eq_true_eq] at hn
        have h3 := lab_sum ls (txts ts) fun l hl => name_len (labelsB_names hn.2 l hl)
        have h4 := commas_len (lab ls (txts ts))
        split
        · simp only [List.length_cons, List.length_append, List.length_nil]
          omega
        · rw [if_pos (by omega)]
          simp only [List.length_cons, List.length_append, List.length_nil]
          omega
      · rename_i h34
        rw [if_neg (by omega), if_neg (by omega)]
        have hh : (txts ts).headD [] = [] ∨ ((txts ts).headD []).length ≤ sumLens (txts ts) := by
          cases txts ts with
          | nil => exact .inl rfl
          | cons a r => exact .inr (by simp [sumLens])
        have hn1 : ts.length = 1 := by
          split at hn
          · simp only [Bool.and_eq_true, decide_eq_true_eq] at hn
            exact hn.2
          · cases hn
        simp only [List.length_cons, List.length_append, List.length_nil]
        rcases hh with hh | hh
        · rw [hh]
          simp
          omega
        · omega

end Go.Proofs.YtlmbnefoobameaaDoor
