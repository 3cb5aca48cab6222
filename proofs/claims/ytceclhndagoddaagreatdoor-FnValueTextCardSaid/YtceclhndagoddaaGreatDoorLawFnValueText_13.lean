/- Lemmas: TxtLen, SpecJoin, SpecText, Draw4, NumLaws, ReadLaws. -/
import Derived.Test.YtceclhndagoddaaGreatDoorLawFnValueText_7
import Derived.Test.YtceclhndagoddaaGreatDoorLawFnValueText_3
import Derived.Test.YtceclhndagoddaaGreatDoorProg
import Derived.Deep.DeepMust
import Derived.Test.YtceclhndagoddaaGreatDoorLawFnValueText_5
import Derived.Test.YtceclhndagoddaaGreatDoorLawFnValueText_12
import Derived.Lib.ItoaNum
import Derived.Lib.AtoiAll

section
namespace Go.Proofs.YtceclhndagoddaaGreatDoor
open Go.RowKit

def commas : List (List UInt8) → List UInt8
  | [] => []
  | [a] => a
  | a :: b :: r => a ++ 44 :: commas (b :: r)
def lab : List ByteArray → List (List UInt8) → List (List UInt8)
  | l :: ls, x :: xs => (l.data.toList ++ 58 :: x) :: lab ls xs
  | _, _ => []
def nodeTxt (k : Int) (ls : List ByteArray) (xs : List (List UInt8)) : List UInt8 :=
  if k = 1 then [73] else if k = 2 then [66] else if k = 3 then 123 :: (commas (lab ls xs) ++ [125]) else if k = 4 then 60 :: (commas (lab ls xs) ++ [62]) else 91 :: (xs.headD [] ++ [93])
mutual
/-- The text of a tree. -/
def txt : Ty → List UInt8 | .mk k ls ts => nodeTxt k ls (txts ts)
def txts : List Ty → List (List UInt8) | [] => [] | t :: r => txt t :: txts r
end
theorem txts_map : ∀ (ts : List Ty), txts ts = ts.map txt
  | [] => by rw [txts]; rfl
  | t :: r => by rw [txts, txts_map r]; rfl

/-- A letter or digit. -/
def wordC (c : UInt8) : Bool := (decide (48 ≤ c.toNat) && decide (c.toNat ≤ 57)) || (decide (97 ≤ c.toNat) && decide (c.toNat ≤ 122))
/-- The first byte is c: what comes behind it. -/
def eat (c : UInt8) : List UInt8 → Option (List UInt8)
  | [] => none
  | x :: r => if x = c then some r else none
theorem eat_some {c : UInt8} {l r : List UInt8} (h : eat c l = some r) : l = c :: r := by
  cases l with
  | nil => cases h
  | cons x q =>
    by_cases e : x = c
    · rw [eat, if_pos e] at h
      injection h with h
      rw [e, h]
    · rw [eat, if_neg e] at h
      cases h
theorem eat_cons (c : UInt8) (r : List UInt8) : eat c (c :: r) = some r := by simp [eat]
theorem eat_other {c x : UInt8} (r : List UInt8) (h : x ≠ c) : eat c (x :: r) = none := by simp [eat, h]

/-- Labels with parts, as far as commas stand between. -/
def rdLab (f : List UInt8 → Option (Ty × List UInt8)) : Nat → List UInt8 → Option (List ByteArray × List Ty × List UInt8)
  | 0, _ => none
  | n + 1, l =>
    match eat 58 (l.dropWhile wordC) with
    | none => none
    | some r =>
      match f r with
      | none => none
      | some (t, r1) =>
        match eat 44 r1 with
        | none => some ([⟨(l.takeWhile wordC).toArray⟩], [t], r1)
        | some r2 =>
          match rdLab f n r2 with
          | none => none
          | some (ls, ts, q) => some (⟨(l.takeWhile wordC).toArray⟩ :: ls, t :: ts, q)
def rdBox (f : List UInt8 → Option (Ty × List UInt8)) (k : Int) (e : UInt8) (l : List UInt8) : Option (Ty × List UInt8) :=
  match rdLab f (l.length + 1) l with
  | none => none
  | some (ls, ts, q) => match eat e q with
    | none => none
    | some r => some (.mk k ls ts, r)
/-- A tree of n levels at most is read. -/
def rdTy : Nat → List UInt8 → Option (Ty × List UInt8)
  | 0, _ => none
  | n + 1, l =>
    match eat 73 l with
    | some r => some (.mk 1 [] [], r)
    | none => match eat 66 l with
      | some r => some (.mk 2 [] [], r)
      | none => match eat 123 l with
        | some r => rdBox (rdTy n) 3 125 r
        | none => match eat 60 l with
          | some r => rdBox (rdTy n) 4 62 r
          | none => match eat 91 l with
            | none => none
            | some r => match rdTy n r with
              | none => none
              | some (t, r1) => match eat 93 r1 with
                | none => none
                | some r2 => some (.mk 5 [] [t], r2)

/-- What is read is the text of what it is read as, and no shorter than the tree. -/
def Sound (f : List UInt8 → Option (Ty × List UInt8)) : Prop := ∀ l t r, f l = some (t, r) → l = txt t ++ r ∧ szTy t + 1 ≤ (txt t).length
theorem rdLab_sound {f : List UInt8 → Option (Ty × List UInt8)} (hf : Sound f) : ∀ (n : Nat) (l : List UInt8) (ls : List ByteArray) (ts : List Ty) (q : List UInt8), rdLab f n l = some (ls, ts, q) →
    l = commas (lab ls (txts ts)) ++ q ∧ ls.length = ts.length ∧ ls ≠ [] ∧ ls.length + sumSizes ls + szTys ts ≤ (commas (lab ls (txts ts))).length + 1 := by
  intro n
  induction n with
  | zero =>
    intro l ls ts q h
    cases h
  | succ n ih =>
    intro l ls ts q h
    rw [rdLab] at h
    split at h
    · cases h
    · rename_i r hr
      split at h
      · cases h
      · rename_i t r1 ht
        obtain ⟨e1, e2⟩ := hf _ _ _ ht
        have hl : l = (⟨(l.takeWhile wordC).toArray⟩ : ByteArray).data.toList ++ 58 :: (txt t ++ r1) := by
          have h1 := eat_some hr
          rw [e1] at h1
          rw [← h1]
          exact (List.takeWhile_append_dropWhile).symm
        generalize (⟨(l.takeWhile wordC).toArray⟩ : ByteArray) = b at *
        have hbl : b.data.toList.length = b.size := by simp
        split at h
        · cases h
          refine ⟨?_, rfl, by simp, ?_⟩
          · rw [hl]
            simp [lab, txts, commas]
          · simp only [lab, txts, commas, List.length_append, List.length_cons, szTys, List.length_nil, sumSizes, List.map_cons, List.map_nil, List.sum_cons, List.sum_nil]
            omega
        · rename_i r2 hr2
          split at h
          · cases h
          · rename_i ls' ts' q' hq
            cases h
            obtain ⟨i1, i2, i3, i4⟩ := ih _ _ _ _ hq
            have hr3 := eat_some hr2
            obtain ⟨x, xs, hx⟩ : ∃ x xs, lab ls' (txts ts') = x :: xs := by
              cases ls' with
              | nil => exact absurd rfl i3
              | cons a aq =>
                cases ts' with
                | nil => simp at i2
                | cons u us => exact ⟨_, _, rfl⟩
            rw [hx] at i1 i4
            refine ⟨?_, by simp [i2], by simp, ?_⟩
            · rw [hl, hr3, i1]
              simp [lab, txts, commas, hx]
            · simp only [lab, txts, commas, hx, List.length_append, List.length_cons, szTys, sumSizes, List.map_cons, List.sum_cons] at i4 ⊢
              omega
theorem rdBox_sound {f : List UInt8 → Option (Ty × List UInt8)} (hf : Sound f) (k : Int) (e a : UInt8) (l : List UInt8) (t : Ty) (r : List UInt8) (hk : ∀ ls xs, nodeTxt k ls xs = a :: (commas (lab ls xs) ++ [e])) (h : rdBox f k e l = some (t, r)) :
    a :: l = txt t ++ r ∧ szTy t + 1 ≤ (txt t).length := by
  unfold rdBox at h
  split at h
  · cases h
  · rename_i ls ts q hq
    split at h
    · cases h
    · rename_i r' hr
      cases h
      obtain ⟨h1, h2, _, h3⟩ := rdLab_sound hf _ _ _ _ _ hq
      have h4 := eat_some hr
      rw [txt, hk, szTy]
      refine ⟨?_, ?_⟩
      · rw [h1, h4]
        simp
      · simp only [List.length_cons, List.length_append, List.length_nil]
        omega
theorem rdTy_sound (n : Nat) : Sound (rdTy n) := by
  induction n with
  | zero =>
    intro l t r h
    cases h
  | succ n ih =>
    intro l t r h
    rw [rdTy] at h
    split at h
    · rename_i r' hr
      cases h
      rw [eat_some hr]
      simp [txt, nodeTxt, szTy, szTys, sumSizes]
    · split at h
      · rename_i r' hr
        cases h
        rw [eat_some hr]
        simp [txt, nodeTxt, szTy, szTys, sumSizes]
      · split at h
        · rename_i r' hr
          rw [eat_some hr]
          exact rdBox_sound ih 3 125 123 _ _ _ (fun _ _ => by simp [nodeTxt]) h
        · split at h
          · rename_i r' hr
            rw [eat_some hr]
            exact rdBox_sound ih 4 62 60 _ _ _ (fun _ _ => by simp [nodeTxt]) h
          · split at h
            · cases h
            · rename_i r' hr
              split at h
              · cases h
              · rename_i t1 r1 ht
                split at h
                · cases h
                · rename_i r2 hr2
                  cases h
                  obtain ⟨e1, e2⟩ := ih _ _ _ ht
                  rw [eat_some hr, e1, eat_some hr2]
                  refine ⟨by simp [txt, nodeTxt, txts], ?_⟩
                  simp only [txt, nodeTxt, txts, szTy, szTys, sumSizes] at e2 ⊢
                  simp
                  omega

theorem name_word (s : ByteArray) (h : isNameB s = true) : ∀ c ∈ s.data.toList, wordC c = true := by
  intro c hc
  unfold isNameB at h
  simp only [Bool.and_eq_true, List.all_eq_true, List.mem_range] at h
  obtain ⟨i, hi, rfl⟩ := List.getElem_of_mem hc
  have hi' : i < s.size := by simpa using hi
  have h1 := h.1.1 i hi'
  have h2 : s.data.getD i 0 = s.data.toList[i] := by
    rw [Array.getD, dif_pos (show i < s.data.size from hi')]
    simp
  rw [h2] at h1
  unfold nameAt at h1
  unfold wordC
  simp only [Bool.or_eq_true, Bool.and_eq_true, decide_eq_true_eq] at h1 ⊢
  omega
theorem word_taken (s : ByteArray) (h : isNameB s = true) (r : List UInt8) : (s.data.toList ++ 58 :: r).takeWhile wordC = s.data.toList ∧ (s.data.toList ++ 58 :: r).dropWhile wordC = 58 :: r := by
  have hw := name_word s h
  generalize s.data.toList = l at *
  induction l with
  | nil => simp [wordC]
  | cons a q ih =>
    have h1 := ih fun c hc => hw c (by simp [hc])
    have h2 := hw a (by simp)
    simp [h2, h1]

/-- Every tree of the class is read from its text. -/
def Reads (f : List UInt8 → Option (Ty × List UInt8)) (t : Ty) : Prop := ∀ r, f (txt t ++ r) = some (t, r)
theorem rdLab_full {f : List UInt8 → Option (Ty × List UInt8)} : ∀ (ls : List ByteArray) (ts : List Ty), ls.length = ts.length → ls ≠ [] → (∀ l ∈ ls, isNameB l = true) → (∀ t ∈ ts, Reads f t) → ∀ (n : Nat) (e : UInt8) (r : List UInt8), e ≠ 44 → ls.length ≤ n →
    rdLab f n (commas (lab ls (txts ts)) ++ e :: r) = some (ls, ts, e :: r) := by
  intro ls
  induction ls with
  | nil => intro ts _ h; exact absurd rfl h
  | cons a aq ih =>
    intro ts hl _ hn hr n e r he hlen
    cases ts with
    | nil => simp at hl
    | cons u us =>
      cases n with
      | zero => simp at hlen
      | succ n =>
        have hal := hn a (by simp)
        have hru := hr u (by simp)
        cases aq with
        | nil =>
          cases us with
          | cons _ _ => simp at hl
          | nil =>
            have hw := word_taken a hal (txt u ++ e :: r)
            have e1 : commas (lab [a] (txts [u])) ++ e :: r = a.data.toList ++ 58 :: (txt u ++ e :: r) := by simp [lab, txts, commas]
            rw [e1, rdLab, hw.2, hw.1, eat_cons]
            simp only [hru (e :: r), eat_other r he]
        | cons b bs =>
          cases us with
          | nil => simp at hl
          | cons v vs =>
            have e1 : commas (lab (a :: b :: bs) (txts (u :: v :: vs))) ++ e :: r = a.data.toList ++ 58 :: (txt u ++ 44 :: (commas (lab (b :: bs) (txts (v :: vs))) ++ e :: r)) := by simp [lab, txts, commas]
            have hw := word_taken a hal (txt u ++ 44 :: (commas (lab (b :: bs) (txts (v :: vs))) ++ e :: r))
            have h1 := ih (v :: vs) (by simpa using hl) (by simp) (fun l h => hn l (by simp [h])) (fun t h => hr t (by simp [h])) n e r he (by simpa using hlen)
            rw [e1, rdLab, hw.2, hw.1, eat_cons]
            simp only [show ∀ q, f (txt u ++ q) = some (u, q) from hru, eat_cons, h1]
theorem lab_len : ∀ (ls : List ByteArray) (ts : List Ty), ls.length = ts.length → ls.length ≤ (commas (lab ls (txts ts))).length
  | [], _, _ => Nat.zero_le _
  | [a], [], h => by simp at h
  | [a], [u], _ => by
    simp [lab, txts, commas]
    omega
  | [a], _ :: _ :: _, h => by simp at h
  | a :: b :: bs, [], h => by simp at h
  | a :: b :: bs, [_], h => by simp at h
  | a :: b :: bs, u :: v :: vs, h => by
    have := lab_len (b :: bs) (v :: vs) (by simpa using h)
    simp only [lab, txts, commas, List.length_append, List.length_cons] at this ⊢
    omega
theorem labelsB_names {ls : List ByteArray} (h : labelsB ls = true) : ∀ l ∈ ls, isNameB l = true := by
  unfold labelsB at h
  simp only [Bool.and_eq_true, List.all_eq_true] at h
  exact h.1.1
theorem labelsB_some {ls : List ByteArray} (h : labelsB ls = true) : ls ≠ [] := by
  unfold labelsB at h
  simp only [Bool.and_eq_true, decide_eq_true_eq] at h
  intro e
  rw [e] at h
  simp at h
theorem formTys_mem : ∀ {ts : List Ty}, formTys ts = true → ∀ t ∈ ts, formTy t = true
  | [], _, t, h => by cases h
  | a :: r, h, t, ht => by
    rw [formTys, Bool.and_eq_true] at h
    rcases List.mem_cons.1 ht with rfl | h2
    · exact h.1
    · exact formTys_mem h.2 t h2
theorem depthTys_mem : ∀ {ts : List Ty} {n : Nat}, depthTys ts ≤ n → ∀ t ∈ ts, depthTy t ≤ n
  | [], _, _, t, h => by cases h
  | a :: r, n, h, t, ht => by
    rw [depthTys] at h
    rcases List.mem_cons.1 ht with rfl | h2
    · omega
    · exact depthTys_mem (by omega) t h2
theorem rdTy_full (n : Nat) : ∀ (t : Ty), formTy t = true → depthTy t ≤ n → Reads (rdTy n) t := by
  induction n with
  | zero =>
    intro t _ h
    rw [depthTy_eq] at h
    omega
  | succ n ih =>
    intro t hf hd r
    cases t with
    | mk k ls ts =>
      rw [formTy, Bool.and_eq_true] at hf
      rw [depthTy] at hd
      have hts : ∀ t ∈ ts, Reads (rdTy n) t := fun t ht => ih t (formTys_mem hf.1 t ht) (depthTys_mem (by omega) t ht)
      have hnode := hf.2
      unfold nodeB at hnode
      have box : ∀ (e : UInt8), e ≠ 44 → labelsB ls = true → ls.length = ts.length → rdBox (rdTy n) k e (commas (lab ls (txts ts)) ++ e :: r) = some (.mk k ls ts, r) := fun e he hl hlt => by
        have h1 := rdLab_full ls ts hlt (labelsB_some hl) (labelsB_names hl) hts ((commas (lab ls (txts ts)) ++ e :: r).length + 1) e r he (by have := lab_len ls ts hlt; rw [List.length_append]; omega)
        unfold rdBox
        rw [h1]
        simp only [eat_cons]
      rw [txt]
      by_cases h1 : k = 1 ∨ k = 2
      · rw [if_pos h1] at hnode
        simp only [Bool.and_eq_true, decide_eq_true_eq] at hnode
        obtain ⟨rfl, rfl⟩ : ls = [] ∧ ts = [] := ⟨List.eq_nil_of_length_eq_zero hnode.1, List.eq_nil_of_length_eq_zero hnode.2⟩
        rcases h1 with rfl | rfl
        · simp [nodeTxt, rdTy, eat]
        · simp [nodeTxt, rdTy, eat]
      · rw [if_neg h1] at hnode
        by_cases h2 : k = 3 ∨ k = 4
        · rw [if_pos h2] at hnode
          simp only [Bool.and_eq_true, decide_eq_true_eq] at hnode
          rcases h2 with rfl | rfl
          · have := box 125 (by decide) hnode.2 hnode.1.symm
            simp [nodeTxt, rdTy, eat, this]
          · have := box 62 (by decide) hnode.2 hnode.1.symm
            simp [nodeTxt, rdTy, eat, this]
        · rw [if_neg h2] at hnode
          by_cases h3 : k = 5
          · rw [if_pos h3] at hnode
            simp only [Bool.and_eq_true, decide_eq_true_eq] at hnode
            obtain rfl : ls = [] := List.eq_nil_of_length_eq_zero hnode.1
            obtain ⟨t, rfl⟩ := List.length_eq_one_iff.1 hnode.2
            subst h3
            have := hts t (by simp) (93 :: r)
            simp [nodeTxt, rdTy, eat, txts, this]
          · rw [if_neg h3] at hnode
            cases hnode

/-- The tree of a text: valid, with this text. -/
def parseB (s : ByteArray) : Option Ty :=
  match rdTy 8 s.data.toList with
  | some (t, []) => if validB t then some t else none
  | _ => none
theorem parseB_some {s : ByteArray} {t : Ty} (h : parseB s = some t) : validB t = true ∧ txt t = s.data.toList := by
  unfold parseB at h
  split at h
  · rename_i t' e
    split at h
    · cases h
      have := (rdTy_sound 8 _ _ _ e).1
      simp_all
    · cases h
  · cases h
theorem parseB_of {s : ByteArray} {t : Ty} (hv : validB t = true) (ht : txt t = s.data.toList) : parseB s = some t := by
  have h := hv
  unfold validB at h
  simp only [Bool.and_eq_true, decide_eq_true_eq] at h
  have h1 := rdTy_full 8 t h.2 h.1.2 []
  rw [List.append_nil, ht] at h1
  unfold parseB
  rw [h1]
  simp [hv]
theorem parseB_none {s : ByteArray} (h : ∀ t, validB t = true → txt t = s.data.toList → False) : parseB s = none := by
  cases hp : parseB s with
  | none => rfl
  | some t => exact (h t (parseB_some hp).1 (parseB_some hp).2).elim

/-- The text of a tree, if it is valid. -/
def formatB (t : Ty) : ByteArray := if validB t then ⟨(txt t).toArray⟩ else ⟨#[]⟩

end Go.Proofs.YtceclhndagoddaaGreatDoor

namespace Go.Proofs.YtceclhndagoddaaGreatDoor
open Go.RowKit

def sumLens (xs : List (List UInt8)) : Nat := (xs.map List.length).sum
theorem commas_len : ∀ (xs : List (List UInt8)), (commas xs).length ≤ sumLens xs + xs.length
  | [] => Nat.le_refl _
  | [a] => by simp [commas, sumLens]
  | a :: b :: r => by
    have := commas_len (b :: r)
    simp only [commas, sumLens, List.map_cons, List.sum_cons, List.length_append, List.length_cons] at this ⊢
    omega
theorem commas_snoc : ∀ (xs : List (List UInt8)) (a : List UInt8), xs ≠ [] → commas (xs ++ [a]) = commas xs ++ 44 :: a
  | [], _, h => absurd rfl h
  | [x], a, _ => rfl
  | x :: y :: r, a, _ => by
    have := commas_snoc (y :: r) a (by simp)
    rw [List.cons_append] at this
    show x ++ 44 :: commas (y :: (r ++ [a])) = (x ++ 44 :: commas (y :: r)) ++ 44 :: a
    rw [this]
    simp
def bytesOf (xs : List (List UInt8)) : List ByteArray := xs.map fun x => ⟨x.toArray⟩
theorem join_commas (xs : List (List UInt8)) : ∀ (k : Nat), k ≤ xs.length → joinTo (bytesOf xs) ⟨#[44]⟩ k = commas (xs.take k)
  | 0, _ => by simp [joinTo, commas]
  | k + 1, h => by
    have h1 := join_commas xs k (by omega)
    have h2 : (bytesOf xs).getD k ⟨#[]⟩ = ⟨xs[k].toArray⟩ := by simp [bytesOf, show k < xs.length by omega]
    rw [joinTo, h1, h2, List.take_succ_eq_append_getElem (by omega)]
    by_cases hk : 0 < k
    · rw [if_pos hk, commas_snoc _ _ (by intro e; have e2 := congrArg List.length e; rw [List.length_take, List.length_nil] at e2; omega)]
      simp
    · obtain rfl : k = 0 := by omega
      simp [commas]
theorem bytesOf_sum : ∀ (xs : List (List UInt8)), sumSizes (bytesOf xs) = sumLens xs
  | [] => rfl
  | a :: r => by
    have := bytesOf_sum r
    simp only [bytesOf, sumSizes, sumLens, List.map_cons, List.sum_cons] at this ⊢
    rw [this]
    rfl

theorem name_len {s : ByteArray} (h : isNameB s = true) : s.size ≤ 4 := by
  unfold isNameB at h
  simp only [Bool.and_eq_true, decide_eq_true_eq] at h
  exact h.2
theorem lab_sum : ∀ (ls : List ByteArray) (xs : List (List UInt8)), (∀ l ∈ ls, l.size ≤ 4) → sumLens (lab ls xs) ≤ sumLens xs + 5 * xs.length ∧ (lab ls xs).length ≤ xs.length
  | [], xs, _ => by simp [lab, sumLens]
  | _ :: _, [], _ => by simp [lab, sumLens]
  | l :: ls, x :: xs, h => by
    have h1 := lab_sum ls xs fun l hl => h l (by simp [hl])
    have h2 := h l (by simp)
    have h3 : l.data.toList.length = l.size := by simp
    simp only [lab, sumLens, List.map_cons, List.sum_cons, List.length_append, List.length_cons] at h1 ⊢
    omega
theorem lab_same : ∀ (ls : List ByteArray) (xs : List (List UInt8)), ls.length = xs.length → (lab ls xs).length = ls.length
  | [], _, _ => rfl
  | _ :: _, [], h => by simp at h
  | l :: ls, x :: xs, h => by simp [lab, lab_same ls xs (by simpa using h)]
theorem lab_get : ∀ (ls : List ByteArray) (xs : List (List UInt8)) (k : Nat) (h1 : k < ls.length) (h2 : k < xs.length) (h3 : k < (lab ls xs).length), (lab ls xs)[k] = ls[k].data.toList ++ 58 :: xs[k]
  | [], _, _, h, _, _ => by simp at h
  | _ :: _, [], _, _, h, _ => by simp at h
  | l :: ls, x :: xs, 0, _, _, _ => rfl
  | l :: ls, x :: xs, k + 1, h1, h2, h3 => lab_get ls xs k (by simpa using h1) (by simpa using h2) (by simpa [lab] using h3)
theorem txts_sum : ∀ (ts : List Ty), (∀ i, (h : i < ts.length) → (txt ts[i]).length + 6 ≤ 8 * sizeTy ts[i]) → sumLens (txts ts) + 6 * ts.length ≤ 8 * sizeTys ts ∧ (txts ts).length = ts.length
  | [], _ => by simp [txts, sumLens, sizeTys]
  | t :: r, h => by
    have h1 := txts_sum r fun i hi => h (i + 1) (by simpa using hi)
    have h2 := h 0 (by simp)
    simp only [txts, sumLens, sizeTys, List.map_cons, List.sum_cons, List.length_cons, List.getElem_cons_zero] at h1 h2 ⊢
    omega
theorem formTys_get {ts : List Ty} (h : formTys ts = true) (i : Nat) (hi : i < ts.length) : formTy ts[i] = true := formTys_mem h _ (List.getElem_mem hi)
theorem txt_len (t : Ty) : formTy t = true → (txt t).length + 6 ≤ 8 * sizeTy t := by
  induction t using Ty.ind with
  | h k ls ts ih =>
    intro hf
    rw [formTy, Bool.and_eq_true] at hf
    obtain ⟨h1, h2⟩ := txts_sum ts fun i hi => ih i hi (formTys_get hf.1 i hi)
    have hn := hf.2
    unfold nodeB at hn
    rw [txt, sizeTy]
    unfold nodeTxt
    split at hn
    · rename_i h12
      split
      · simp
        omega
      · split
        · simp
          omega
        · omega
    · rename_i h12
      rw [if_neg (by omega), if_neg (by omega)]
      split at hn
      · rename_i h34
        simp only [Bool.and_eq_true, decide_eq_true_eq] at hn
        have h3 := lab_sum ls (txts ts) fun l hl => name_len (labelsB_names hn.2 l hl)
        have h4 := commas_len (lab ls (txts ts))
        split
        · simp only [List.length_cons, List.length_append, List.length_nil]
          omega
        · rw [if_pos (by omega)]
          simp only [List.length_cons, List.length_append, List.length_nil]
          omega
      · rename_i h34
        rw [if_neg (by omega), if_neg (by omega)]
        have hh : (txts ts).headD [] = [] ∨ ((txts ts).headD []).length ≤ sumLens (txts ts) := by
          cases txts ts with
          | nil => exact .inl rfl
          | cons a r => exact .inr (by simp [sumLens])
        have hn1 : ts.length = 1 := by
          split at hn
          · simp only [Bool.and_eq_true, decide_eq_true_eq] at hn
            exact hn.2
          · cases hn
        simp only [List.length_cons, List.length_append, List.length_nil]
        rcases hh with hh | hh
        · rw [hh]
          simp
          omega
        · omega

end Go.Proofs.YtceclhndagoddaaGreatDoor
end

section
namespace Go.Proofs.YtceclhndagoddaaGreatDoor
open Go.RowKit

theorem infoByte : (Tryz.prog.info? 5).map (fun i => (i.zero, i.size, i.bytes)) = some (some (.int .u8 0), 1, 1) := by kernel_rfl

set_option maxHeartbeats 400000 in
set_option maxRecDepth 100000 in
theorem specJoin_any (A : Option Addr) (c : Nat) (ss : List ByteArray) (sep : ByteArray) (w : World) (hA : StrsAt w w.heap.size A ss) (hn : ss.length ≤ 1048576) (hsum : sumSizes ss ≤ 1048576) (hsep : sep.size ≤ 1048576) :
    Calls Tryz.prog 49 #[.slice A ss.length c, .string sep] w fun e w' => e = .returned (.string ⟨(joinTo ss sep ss.length).toArray⟩) ∧ Below w.heap.size w w' := by
  obtain ⟨i0, hi, hz0, hz1, hz2⟩ := info_parts infoByte
  go_enter Tryz.func49, Tryz.ntmps49
  go_wp2
  go_loopw [5, 6] (fun v i wr => ∃ k : Nat, k ≤ ss.length ∧ i = .int .i64 k ∧ wr.ownsRow w.heap.size 5 1 v (joinTo ss sep k).length (cellsOf (joinTo ss sep k)) ∧ Below w.heap.size w wr) (fun _ i _ => ss.length - (intOf i).toNat)
  case atStart => exact ⟨0, Nat.zero_le _, rfl, World.ownsRow_lit w #[] 0 (Nat.le_refl _) (Nat.zero_le _) rfl, (Below.refl _ _).alloc (Nat.le_refl _) _⟩
  case round =>
    obtain ⟨k, hk, rfl, hown, hb⟩ := hrel
    by_cases hlt : k < ss.length
    · obtain ⟨b, off, rfl, hbl, hcell⟩ := (hA.below hb) k hlt
      have hl := joinTo_len ss sep k hk
      have hl1 := sumSizes_take_le ss k
      have hl2 := size_le_sumSizes ss k hlt
      have hl3 : k * sep.size ≤ 1048576 * 1048576 := Nat.mul_le_mul (by omega) hsep
      have hJ : Hid (joinTo ss sep (k + 1) = joinTo ss sep k ++ (if 0 < k then sep.data.toList else []) ++ ss[k].data.toList) := by
        show joinTo ss sep (k + 1) = _
        rw [joinTo]
        simp [hlt]
      by_cases hk0 : k = 0
      · subst hk0
        rw [Nat.add_zero] at hcell
        go_wp2_with (at_builtin; go_must (refine Lib.wpList_append_own_string _ rfl (.tmp 19) (.tmp 23) _ _ rfl w.heap.size 5 i0 Tryz.underlying22 Tryz.underlying9 hi hz0 hz1 hz2 _ _ _ rfl hown ss[0] rfl (by unfold maxLen; omega) (by omega) hb.size ?_); intro v1 w1 hown1 hg1 _)
        have hb1 := hb.grown hg1 hb.size (fun q hq => (hown.lt q hq).1)
        clear hg1 hown
        go_roundw
        case rel => exact ⟨1, by omega, by go_num, by rw [show joinTo ss sep 1 = _ from hJ.out]; simpa [cellsOf_append, cellsOf_str, joinTo, cellsOf] using hown1, hb1⟩
        case measure => simp [intOf]; omega
      · go_wp2_with (at_builtin; first
          | (refine Lib.wpList_append_own_string _ rfl (.tmp 16) (.tmp 17) _ _ rfl w.heap.size 5 i0 Tryz.underlying22 Tryz.underlying9 hi hz0 hz1 hz2 _ _ _ rfl hown sep rfl (by unfold maxLen; omega) (by omega) hb.size ?_; intro v1 w1 hown1 hg1 _; have hb1 := hb.grown hg1 hb.size (fun q hq => (hown.lt q hq).1); have hcell1 := (hb1.cell (p := ⟨b, off + k, none⟩) hbl).trans ((hb.cell (p := ⟨b, off + k, none⟩) hbl).symm.trans hcell); clear hg1 hown hcell)
          | (refine Lib.wpList_append_own_string _ rfl (.tmp 19) (.tmp 23) _ _ rfl w.heap.size 5 i0 Tryz.underlying22 Tryz.underlying9 hi hz0 hz1 hz2 _ _ _ rfl hown1 ss[k] rfl (by unfold maxLen; omega) (by omega) hb1.size ?_; intro v2 w2 hown2 hg2 _; have hb2 := hb1.grown hg2 hb1.size (fun q hq => (hown1.lt q hq).1); clear hg2 hown1))
        go_roundw
        case rel => exact ⟨k + 1, by omega, by go_num, by rw [hJ.out, if_pos (by omega)]; simpa [cellsOf_append, cellsOf_str, Nat.add_assoc, size_list] using hown2, hb2⟩
        case measure => simp [intOf]; omega
    · have hk' : k = ss.length := by omega
      subst hk'
      have hconv := run_convert_owned (P := Tryz.prog) (dst := 9) Tryz.underlying22 Tryz.underlying5 Tryz.underlying9 hown
      go_wp2
      go_ret
      exact ⟨rfl, hb⟩

end Go.Proofs.YtceclhndagoddaaGreatDoor
end

section
namespace Go.Proofs.YtceclhndagoddaaGreatDoor
open Go.RowKit

/-- The string is handed back. -/
def StrIs (s : ByteArray) (w : World) (e : Ending) (w' : World) : Prop := e = .returned (.string s) ∧ Below w.heap.size w w'
/-- What the text is joined of. -/
def piecesOf (k : Int) (ls : List ByteArray) (ts : List Ty) : List (List UInt8) := if k = 5 then txts ts else lab ls (txts ts)
theorem bytesOf_len (xs : List (List UInt8)) : (bytesOf xs).length = xs.length := by simp [bytesOf]

theorem sizeTys_len : ∀ (ts : List Ty), ts.length ≤ sizeTys ts
  | [] => Nat.le_refl _
  | t :: r => by
    have h1 := sizeTys_len r
    have h2 := sizeTy_eq t
    rw [sizeTys, List.length_cons]
    omega

def TextOne (f : Nat) (t : Ty) : Prop := ∀ (v : Value) (w : World), TyAt w w.heap.size v t → formTy t = true → sizeTy t ≤ 1000 → Calls Tryz.prog f #[v] w (StrIs ⟨(txt t).toArray⟩ w)

theorem own_strings {w : World} {base n : Nat} {v : Value} {ss : List ByteArray} (h : w.ownsRow base 9 1 v n (strVals ss)) : ∃ A c, v = .slice A ss.length c ∧ StrsAt w w.heap.size A ss := by
  rcases RowStrs.of_own h with ⟨rfl, rfl⟩ | ⟨g, cap, rfl, h1, h2⟩
  · exact ⟨none, 0, rfl, StrsAt.empty _ _ _⟩
  · exact ⟨_, _, rfl, h2.at _ h2.lt⟩
theorem byte3 (a : UInt8) (x : List UInt8) (b : UInt8) : (⟨#[a]⟩ ++ ⟨x.toArray⟩ ++ ⟨#[b]⟩ : ByteArray) = ⟨(a :: (x ++ [b])).toArray⟩ := by
  apply ByteArray.ext
  rw [ByteArray.data_append, ByteArray.data_append]
  simp

end Go.Proofs.YtceclhndagoddaaGreatDoor
end

section
namespace Go.Proofs.YtceclhndagoddaaGreatDoor
open Go.RowKit
attribute [local go_sem ↓] Go.wp_at_zero Go.wp_at_succ

theorem StrsAt.grown {w w' : World} {D p : Nat} {A : Option Addr} {ss : List ByteArray} (h : StrsAt w D A ss) (hg : w.grownBy w' (some p)) (hne : ∀ q b off, A = some ⟨b, off, q⟩ → b ≠ p) : StrsAt w' D A ss := fun i hi => by
  obtain ⟨b, off, h1, h2, h3⟩ := h i hi
  exact ⟨b, off, h1, h2, (World.cell?_of_block (w := w) (hg.block b (block_lt_of_cell h3) (fun e => hne _ b off h1 (by injection e)))).trans h3⟩

theorem grown_drew {w w' : World} {row : Option Nat} (h : w.drew.grownBy w' row) : w.grownBy w' row := ⟨h.os, h.tape, h.output, h.size, h.block⟩
/-- A text of n bytes at most is handed back; only the cursor has turned. -/
def DrawnTxt (w : World) (B p n : Nat) (e : Ending) (w' : World) : Prop := (∃ x : ByteArray, e = .returned (.string x) ∧ x.size ≤ n) ∧ CurAt w' B p ∧ w.grownBy w' (some p)

set_option maxHeartbeats 4000000 in
theorem turned_any (p B D c : Nat) (A : Option Addr) (ss : List ByteArray) (s : ByteArray) (w : World) (hc : CurAt w B p) (hA : StrsAt w D A ss) (hne : ∀ q b off, A = some ⟨b, off, q⟩ → b ≠ p) (h0 : 0 < ss.length) (h1 : ss.length ≤ 1000000) (hz : ∀ x ∈ ss, x.size ≤ 8) (hs : s.size ≤ 1000000) :
    Calls Tryz.prog 25 #[.pointer (some ⟨p, 0, none⟩), .string s, .slice A ss.length c] w (DrawnTxt w B p (s.size + 8)) := by
  have hd := Lib.hid (l1Below_any p B ((s.size : Int) + 1) w hc (by omega) (by omega))
  have hwr : IntKind.i64.wrap ((s.size : Int) + 1) = (s.size : Int) + 1 := by rw [IntKind.wrap_i64]; omega
  have HZ := Lib.hid hz
  clear hc hz
  go_enter Tryz.func25, Tryz.ntmps25
  go_wp2_with fail
  refine hd.out.mono ?_
  rintro e w1 ⟨⟨x, rfl, hx0, hx1⟩, hc1, hg1⟩
  obtain ⟨k, rfl⟩ : ∃ k : Nat, x = k := ⟨x.toNat, by omega⟩
  have hA1 := hA.grown hg1 hne
  have hd2 := Lib.hid (l1Below_any p B 6 w1 hc1 (by omega) (by omega))
  clear hc1 hA hd
  go_wp2_with fail
  refine hd2.out.mono ?_
  rintro e w2 ⟨⟨y, rfl, hy0, hy1⟩, hc2, hg2⟩
  have hA2 := hA1.grown hg2 hne
  have hg12 := only_trans hg1 hg2
  have hk0 : (0 : Int) ≤ (k : Int) := by omega
  have hk1 : (k : Int) ≤ (s.size : Int) := by omega
  have hk2 : k ≤ s.size := by omega
  clear hA1 hd2 hg1 hg2
  by_cases y0 : y = 0
  · subst y0
    have HP := Lib.hid (l1Pick_any p B D c A ss w2.drew (CurAt.belowP hc2 (Below.refl w2.heap.size w2).drew hc2.lt) hA2 hne h0 h1)
    have HG := Lib.hid hg12
    clear hc2 hA2 hne hg12
    go_wp2
    go_region_law (first | (go_simp; go_at_call 32; (with_reducible refine HP.out.mono ?_); rintro e w4 ⟨⟨z, rfl, hzm⟩, hc4, hg4'⟩; have hg4 := only_trans HG.out (grown_drew hg4'); clear hg4'; have hzs := HZ.out z hzm; have hj1 : ¬ 9223372036854775807 < k + z.size := (by omega); have hj2 : ¬ 9223372036854775807 < k + z.size + (s.size - k) := (by omega); clear hzm))
    all_goals
      go_wp2
      go_ret
      exact ⟨⟨_, rfl, by rw [ByteArray.size_append, ByteArray.size_append, ByteArray.size_extract, ByteArray.size_extract]; omega⟩, hc4, hg4⟩
  · by_cases y1 : y = 1
    · subst y1
      go_wp2
      go_ret
      exact ⟨⟨_, rfl, by rw [ByteArray.size_extract]; omega⟩, hc2, hg12⟩
    · have i0 : (y == 0) = false := by rw [beq_eq_false_iff_ne]; exact y0
      have i1 : (y == 1) = false := by rw [beq_eq_false_iff_ne]; exact y1
      go_wp2
      go_ret
      exact ⟨⟨s, rfl, by omega⟩, hc2, hg12⟩

theorem format_len (t : Ty) : (formatB t).size ≤ 240 := by
  unfold formatB
  split
  · rename_i h
    unfold validB at h
    simp only [Bool.and_eq_true, decide_eq_true_eq] at h
    have h1 := txt_len t h.2
    show (txt t).toArray.size ≤ 240
    simp
    omega
  · exact Nat.zero_le _

/-- A text is drawn. -/
def GivesTxt (w : World) (e : Ending) (w' : World) : Prop := (∃ x : ByteArray, e = .returned (.string x) ∧ x.size ≤ 1000) ∧ Below w.heap.size w w'
def signs4 : List ByteArray := [⟨#[60]⟩, ⟨#[93]⟩, ⟨#[123]⟩, ⟨#[58]⟩, ⟨#[97]⟩, ⟨#[73]⟩, ⟨#[44]⟩]
theorem turned4 (p B : Nat) (s : ByteArray) (W : World) (h : CurAt W B p) (hs : s.size ≤ 240) :
    Calls Tryz.prog 25 #[.pointer (some ⟨p, 0, none⟩), .string s, .slice (some ⟨W.heap.size, 0, none⟩) 7 7] (W.alloc (.cells #[.string ⟨#[60]⟩, .string ⟨#[93]⟩, .string ⟨#[123]⟩, .string ⟨#[58]⟩, .string ⟨#[97]⟩, .string ⟨#[73]⟩, .string ⟨#[44]⟩] 9)) (DrawnTxt (W.alloc (.cells #[.string ⟨#[60]⟩, .string ⟨#[93]⟩, .string ⟨#[123]⟩, .string ⟨#[58]⟩, .string ⟨#[97]⟩, .string ⟨#[73]⟩, .string ⟨#[44]⟩] 9)) B p (s.size + 8)) :=
  turned_any p B (W.heap.size + 1) 7 (some ⟨W.heap.size, 0, none⟩) signs4 s _ (CurAt.belowP h ((Below.refl W.heap.size W).alloc (Nat.le_refl _) _) h.lt) (StrsAt.of_whole (t := 9) (Whole1.new W _ _) _ (by omega)) (fun q b off e => by cases e; have := h.lt; omega) (by decide) (by decide) (by decide) (by omega)

end Go.Proofs.YtceclhndagoddaaGreatDoor
end

section
namespace Go.Proofs.YtceclhndagoddaaGreatDoor

/-- What digits spell. -/
def valD (l : List UInt8) : Nat := l.foldl (fun a c => 10 * a + (c.toNat - 48)) 0
theorem valD_snoc (l : List UInt8) (c : UInt8) : valD (l ++ [c]) = 10 * valD l + (c.toNat - 48) := by simp [valD]
def IsDig (c : UInt8) : Prop := 48 ≤ c.toNat ∧ c.toNat ≤ 57

theorem digit_toNat (d : Nat) (h : d < 10) : (UInt8.ofNat (48 + d)).toNat = 48 + d := by
  rw [UInt8.toNat_ofNat']
  omega

theorem dec_rec (P : Nat → List UInt8 → Prop) (h1 : ∀ u, u < 10 → P u [UInt8.ofNat (48 + u)]) (h2 : ∀ u, 10 ≤ u → P (u / 10) (Lib.decDigits (u / 10)) → P u (Lib.decDigits (u / 10) ++ [UInt8.ofNat (48 + u % 10)])) (u : Nat) : P u (Lib.decDigits u) := by
  induction u using Nat.strongRecOn with
  | ind u ih =>
    rw [Lib.decDigits]
    by_cases h : u < 10
    · rw [dif_pos h]; exact h1 u h
    · rw [dif_neg h]; exact h2 u (by omega) (ih _ (by omega))

theorem dec_val (u : Nat) : valD (Lib.decDigits u) = u := by
  refine dec_rec (fun u l => valD l = u) (fun u h => ?_) (fun u h ih => ?_) u
  · show 10 * 0 + ((UInt8.ofNat (48 + u)).toNat - 48) = u
    rw [digit_toNat u h]
    omega
  · rw [valD_snoc, ih, digit_toNat _ (by omega)]
    omega
theorem dec_dig (u : Nat) : ∀ c ∈ Lib.decDigits u, IsDig c := by
  refine dec_rec (fun u l => ∀ c ∈ l, IsDig c) (fun u h c hc => ?_) (fun u h ih c hc => ?_) u
  · rw [List.mem_singleton.1 hc]
    have := digit_toNat u h
    exact ⟨by omega, by omega⟩
  · rcases List.mem_append.1 hc with hc | hc
    · exact ih c hc
    · rw [List.mem_singleton.1 hc]
      have := digit_toNat (u % 10) (by omega)
      exact ⟨by omega, by omega⟩
theorem dec_ne (u : Nat) : Lib.decDigits u ≠ [] := by
  refine dec_rec (fun u l => l ≠ []) (fun u h => ?_) (fun u h ih => ?_) u <;> simp
theorem dec_len (k : Nat) : ∀ u, u < 10 ^ (k + 1) → (Lib.decDigits u).length ≤ k + 1 := by
  induction k with
  | zero => intro u h; rw [Lib.decDigits, dif_pos (by simpa using h)]; simp
  | succ k ih =>
    intro u h
    rw [Lib.decDigits]
    by_cases h1 : u < 10
    · rw [dif_pos h1]; simp
    · rw [dif_neg h1, List.length_append]
      have := ih (u / 10) (by rw [Nat.div_lt_iff_lt_mul (by omega)]; rw [Nat.pow_succ 10 (k + 1)] at h; exact h)
      simp
      omega

theorem parse_snoc : ∀ (l : List UInt8) (acc v : Nat) (c : UInt8), Lib.parseUint10 acc l = .ok v → IsDig c → v * 10 + (c.toNat - 48) < 18446744073709551616 → Lib.parseUint10 acc (l ++ [c]) = .ok (v * 10 + (c.toNat - 48))
  | [], acc, v, c, h, hc, hv => by
    simp only [Lib.parseUint10] at h
    injection h with h
    subst h
    simp only [List.nil_append, Lib.parseUint10]
    rw [if_pos (show 48 ≤ c.toNat ∧ c.toNat ≤ 57 from hc), if_neg (by omega), if_neg (by omega)]
  | b :: l, acc, v, c, h, hc, hv => by
    simp only [Lib.parseUint10] at h
    simp only [List.cons_append, Lib.parseUint10]
    split at h
    · rename_i hb
      rw [if_pos hb]
      split at h
      · cases h
      · rename_i h1
        rw [if_neg h1]
        split at h
        · cases h
        · rename_i h2
          rw [if_neg h2]
          exact parse_snoc l _ v c h hc hv
    · cases h
theorem parse_dec (u : Nat) (hu : u < 18446744073709551616) : Lib.parseUint10 0 (Lib.decDigits u) = .ok u := by
  refine dec_rec (fun u l => u < 18446744073709551616 → Lib.parseUint10 0 l = .ok u) (fun u h hu => ?_) (fun u h ih hu => ?_) u hu
  · have hd := digit_toNat u h
    have := parse_snoc [] 0 0 (UInt8.ofNat (48 + u)) rfl ⟨by omega, by omega⟩ (by omega)
    rw [List.nil_append, hd] at this
    rw [this]
    congr 1
    omega
  · have hd := digit_toNat (u % 10) (by omega)
    have := parse_snoc _ 0 (u / 10) (UInt8.ofNat (48 + u % 10)) (ih (by omega)) ⟨by omega, by omega⟩ (by omega)
    rw [this, hd]
    congr 1
    omega

theorem atoi_itoa (n : Int) (h0 : -9223372036854775808 ≤ n) (h1 : n ≤ 9223372036854775807) : Lib.atoiAll (Lib.itoa n) = .ok n := by
  unfold Lib.itoa
  by_cases h : n < 0
  · rw [if_pos h]
    have hp := parse_dec n.natAbs (by omega)
    simp only [Lib.atoiAll]
    rw [if_pos (by decide), Lib.parseMag, if_neg (dec_ne _), hp]
    simp only []
    rw [if_neg (by simp), if_neg (by omega), if_pos (by decide)]
    congr 1
    omega
  · rw [if_neg h]
    have hp := parse_dec n.toNat (by omega)
    obtain ⟨c, r, hcr⟩ : ∃ c r, Lib.decDigits n.toNat = c :: r := by
      cases hl : Lib.decDigits n.toNat with
      | nil => exact absurd hl (dec_ne _)
      | cons c r => exact ⟨c, r, rfl⟩
    have hc : IsDig c := dec_dig n.toNat c (by rw [hcr]; simp)
    unfold IsDig at hc
    rw [hcr] at hp ⊢
    simp only [Lib.atoiAll]
    rw [if_neg (by omega), Lib.parseMag, if_neg (by simp), hp]
    simp only []
    rw [if_neg (by omega), if_neg (by omega), if_neg (by omega)]
    congr 1
    omega

theorem itoa_inj (n m : Int) (h0 : -9223372036854775808 ≤ n) (h1 : n ≤ 9223372036854775807) (h2 : -9223372036854775808 ≤ m) (h3 : m ≤ 9223372036854775807) (h : Lib.itoa n = Lib.itoa m) : n = m := by
  have e := atoi_itoa n h0 h1
  rw [h, atoi_itoa m h2 h3] at e
  injection e with e
  exact e.symm

end Go.Proofs.YtceclhndagoddaaGreatDoor
end

section
namespace Go.Proofs.YtceclhndagoddaaGreatDoor

def behind (l : List UInt8) : List UInt8 := if l.head? = some 45 then l.tail else l
def sign (l : List UInt8) (u : Nat) : Int := if l.head? = some 45 then -(u : Int) else u

theorem itoa_behind (n : Int) : behind (Lib.itoa n) = Lib.decDigits n.natAbs ∧ (n = sign (Lib.itoa n) n.natAbs) := by
  unfold behind sign Lib.itoa
  by_cases h : n < 0
  · rw [if_pos h]
    simp
    omega
  · rw [if_neg h]
    have e : n.toNat = n.natAbs := by omega
    rw [e]
    have hh : (Lib.decDigits n.natAbs).head? ≠ some 45 := by
      intro hc
      have := dec_dig n.natAbs 45 (List.mem_of_mem_head? hc)
      unfold IsDig at this
      simp at this
    rw [if_neg hh, if_neg hh]
    exact ⟨rfl, by omega⟩

/-- Why a string is no numeral of at most k + 1 digits. -/
theorem no_short {l : List UInt8} {k : Nat} (h : (behind l).length < 1 ∨ k + 1 < (behind l).length) (n : Int) (hn : n.natAbs < 10 ^ (k + 1)) : l ≠ Lib.itoa n := by
  rintro rfl
  rw [(itoa_behind n).1] at h
  have h1 := dec_len k n.natAbs hn
  have h2 := List.length_pos_iff.2 (dec_ne n.natAbs)
  omega
theorem no_digit {l : List UInt8} {c : UInt8} (hc : c ∈ behind l) (h : ¬ IsDig c) (n : Int) : l ≠ Lib.itoa n := by
  rintro rfl
  rw [(itoa_behind n).1] at hc
  exact h (dec_dig _ c hc)
theorem the_number {l : List UInt8} (n : Int) (h : l = Lib.itoa n) : n = sign l (valD (behind l)) := by
  subst h
  rw [(itoa_behind n).1, dec_val]
  exact (itoa_behind n).2

theorem valD_take (l : List UInt8) (k : Nat) (h : k < l.length) : valD (l.take (k + 1)) = 10 * valD (l.take k) + (l[k].toNat - 48) := by
  rw [List.take_succ_eq_append_getElem h, valD_snoc]
theorem valD_lt (l : List UInt8) (k : Nat) : k ≤ l.length → (∀ i, (h : i < l.length) → i < k → IsDig l[i]) → valD (l.take k) < 10 ^ k := by
  induction k with
  | zero => intro _ _; simp [valD]
  | succ k ih =>
    intro hk hd
    have h1 := ih (by omega) (fun i h hi => hd i h (by omega))
    have h2 := hd k (by omega) (by omega)
    unfold IsDig at h2
    rw [valD_take l k (by omega), Nat.pow_succ]
    omega

end Go.Proofs.YtceclhndagoddaaGreatDoor
end
