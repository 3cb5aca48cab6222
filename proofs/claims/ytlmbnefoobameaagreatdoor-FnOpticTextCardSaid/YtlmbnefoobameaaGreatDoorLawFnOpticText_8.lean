/- Lemmas: Smalls, VTxt, VTxtLen, OTxt, ShelfItoa, SpecFmt, Fmt, SpecOText, ODrawT, OBuild. -/
import Derived.Test.YtlmbnefoobameaaGreatDoorLawFnOpticText_7
import Derived.Test.YtlmbnefoobameaaGreatDoorLawFnOpticText_6
import Derived.Shelf.Strconv.Atoi
import Derived.Shelf.Strconv.Itoa0
import Derived.Shelf.Strconv.Itoa1
import Derived.Shelf.LaysM
import Derived.Shelf.Strconv.Itoa2
import Derived.Shelf.Strconv.Itoa3
import Derived.Shelf.Strconv.AtoiErrFast
import Derived.Shelf.Strconv.ParseIntEmpty
import Derived.Shelf.Strconv.AtoiFail
import Derived.Shelf.Strconv.Clone
import Derived.Shelf.Strconv.SyntaxError
import Derived.Shelf.LaysC
import Derived.Shelf.Strconv.ToError
import Derived.Shelf.Strconv.Lower
import Derived.Shelf.Strconv.ParseUint10
import Derived.Shelf.Strconv.ParseUint10Empty
import Derived.Shelf.Strconv.ParseUint10Any
import Derived.Shelf.Strconv.ParseInt10
import Derived.Shelf.Strconv.AtoiLong
import Derived.Shelf.Strconv.AtoiInnerAll
import Derived.Shelf.Strconv.RangeError
import Derived.Shelf.Strconv.ToErrorRange
import Derived.Shelf.Strconv.AtoiAll
import Derived.Shelf.Strconv.ErrVarAll
import Derived.Shelf.GgClosure.StringsIndexFunc
import Derived.Shelf.GgClosure.StringsTrimFunc
import Derived.Shelf.GgClosure.StringsRunes
import Derived.Shelf.Strings.Prefix
import Derived.Test.YtlmbnefoobameaaGreatDoorProg
import Derived.Test.YtlmbnefoobameaaGreatDoorLawFnOpticText_1
import Derived.Sort.Grow
import Derived.BigGuard

section
namespace Go.Proofs.YtlmbnefoobameaaGreatDoor
open Go.RowKit

mutual
/-- Every number is small. -/
def smallB : Va → Bool | .mk _ n _ _ ts => decide (-999999999999 ≤ n ∧ n ≤ 999999999999) && smallBs ts
def smallBs : List Va → Bool | [] => true | t :: r => smallB t && smallBs r
end
theorem smallBs_all : ∀ (ts : List Va), (∀ i, (h : i < ts.length) → smallB ts[i] = true) → smallBs ts = true
  | [], _ => by rw [smallBs]
  | t :: r, h => by
    rw [smallBs, show smallB t = true from h 0 (by simp), smallBs_all r fun i hi => h (i + 1) (by simpa using hi)]
    rfl
theorem smallBs_at : ∀ (ts : List Va), smallBs ts = true → ∀ i, (h : i < ts.length) → smallB ts[i] = true
  | [], _, i, h => absurd h (by simp)
  | t :: r, e, i, h => by
    rw [smallBs, Bool.and_eq_true] at e
    cases i with
    | zero => exact e.1
    | succ i => exact smallBs_at r e.2 i (by simpa using h)
theorem smallB_mk (k n : Int) (nm : ByteArray) (ls : List ByteArray) (ts : List Va) (h : -999999999999 ≤ n ∧ n ≤ 999999999999) (h2 : ∀ i, (h : i < ts.length) → smallB ts[i] = true) : smallB (.mk k n nm ls ts) = true := by
  rw [smallB, smallBs_all ts h2]
  simp [h]
theorem smallB_of (t : Va) (h : smallB t = true) : (-999999999999 ≤ t.num ∧ t.num ≤ 999999999999) ∧ ∀ i, (h : i < t.args.length) → smallB t.args[i] = true := by
  cases t
  rw [smallB, Bool.and_eq_true, decide_eq_true_eq] at h
  exact ⟨h.1, smallBs_at _ h.2⟩
theorem smallB_nums (t : Va) : smallB t = true → numsB t = true := by
  induction t using Va.ind with
  | h k n nm ls ts ih =>
    intro h
    obtain ⟨h1, h2⟩ := smallB_of _ h
    simp only [Va.num, Va.args] at h1 h2
    exact numsB_mk _ _ _ _ _ (by omega) fun i hi => ih i hi (h2 i hi)
theorem smallBs_mem : ∀ {ts : List Va}, smallBs ts = true → ∀ t ∈ ts, smallB t = true
  | [], _, t, h => by cases h
  | a :: r, h, t, ht => by
    rw [smallBs, Bool.and_eq_true] at h
    rcases List.mem_cons.1 ht with rfl | h2
    · exact h.1
    · exact smallBs_mem h.2 t h2
theorem smallBs_of : ∀ (ts : List Va), (∀ t ∈ ts, smallB t = true) → smallBs ts = true := fun ts h => smallBs_all ts fun _ hi => h _ (List.getElem_mem hi)

end Go.Proofs.YtlmbnefoobameaaGreatDoor
end

section
namespace Go.Proofs.YtlmbnefoobameaaGreatDoor
open Go.RowKit

def labE : List ByteArray → List (List UInt8) → List (List UInt8)
  | l :: ls, x :: xs => (l.data.toList ++ 61 :: x) :: labE ls xs
  | _, _ => []
def nodeTxtV (k n : Int) (nm : ByteArray) (ls : List ByteArray) (xs : List (List UInt8)) : List UInt8 :=
  if k = 1 then Lib.itoa n
  else if k = 2 then [35, if n = 1 then 116 else 102]
  else if k = 3 then 123 :: (commas (labE ls xs) ++ [125])
  else if k = 4 then 60 :: (nm.data.toList ++ 32 :: (xs.headD [] ++ [62]))
  else 91 :: (commas xs ++ [93])
mutual
/-- The text of a value. -/
def txtV : Va → List UInt8 | .mk k n nm ls ts => nodeTxtV k n nm ls (txtVs ts)
def txtVs : List Va → List (List UInt8) | [] => [] | t :: r => txtV t :: txtVs r
end
theorem txtVs_map : ∀ (ts : List Va), txtVs ts = ts.map txtV
  | [] => by rw [txtVs]; rfl
  | t :: r => by rw [txtVs, txtVs_map r]; rfl
theorem labE_map : ∀ (ps : List (ByteArray × Va)), labE (ps.map (·.1)) (txtVs (ps.map (·.2))) = ps.map fun p => p.1.data.toList ++ 61 :: txtV p.2
  | [] => rfl
  | p :: r => by
    simp only [List.map_cons, txtVs, labE]
    rw [labE_map r]

/-- A digit; a digit or a minus. -/
def digC (c : UInt8) : Bool := decide (48 ≤ c.toNat) && decide (c.toNat ≤ 57)
def intC (c : UInt8) : Bool := c == 45 || digC c
theorem digC_intC {c : UInt8} (h : digC c = true) : intC c = true := by simp [intC, h]
/-- The number that the text spells. -/
def unItoa (l : List UInt8) : Option Int :=
  if l = Lib.itoa (sign l (valD (behind l))) ∧ -999999999999 ≤ sign l (valD (behind l)) ∧ sign l (valD (behind l)) ≤ 999999999999 then some (sign l (valD (behind l))) else none
theorem unItoa_some {l : List UInt8} {n : Int} (h : unItoa l = some n) : l = Lib.itoa n ∧ -999999999999 ≤ n ∧ n ≤ 999999999999 := by
  unfold unItoa at h
  split at h
  · injection h with h
    rw [← h]
    assumption
  · cases h
theorem unItoa_of {l : List UInt8} {n : Int} (h : l = Lib.itoa n) (h1 : -999999999999 ≤ n) (h2 : n ≤ 999999999999) : unItoa l = some n := by
  have e := the_number n h
  unfold unItoa
  rw [← e, if_pos ⟨h, h1, h2⟩]
theorem unItoa_none {l : List UInt8} (h : ∀ n : Int, -999999999999 ≤ n → n ≤ 999999999999 → l ≠ Lib.itoa n) : unItoa l = none := by
  cases e : unItoa l with
  | none => rfl
  | some n =>
    obtain ⟨h1, h2, h3⟩ := unItoa_some e
    exact (h n h2 h3 h1).elim

/-- The text begins with the one given: what comes behind it. -/
def eats (p l : List UInt8) : Option (List UInt8) := if p.isPrefixOf l then some (l.drop p.length) else none
theorem eats_some {p l r : List UInt8} (h : eats p l = some r) : l = p ++ r := by
  unfold eats at h
  split at h
  · rename_i hp
    injection h with h
    obtain ⟨q, rfl⟩ := List.isPrefixOf_iff_prefix.1 hp
    rw [← h]
    simp
  · cases h
theorem eats_append (p r : List UInt8) : eats p (p ++ r) = some r := by
  unfold eats
  rw [if_pos (List.isPrefixOf_iff_prefix.2 ⟨r, rfl⟩)]
  simp
theorem eats_one (c : UInt8) (l : List UInt8) : eats [c] l = eat c l := by
  cases l with
  | nil => rfl
  | cons x r =>
    by_cases h : x = c
    · subst h
      simp [List.isPrefixOf, eats, eat]
    · have hb : (c == x) = false := by
        rw [beq_eq_false_iff_ne]
        exact fun e => h e.symm
      rw [eat_other r h]
      simp [List.isPrefixOf, eats, hb]

section Parts
variable {α : Type}
/-- Parts, as far as commas stand between. -/
def rdSeq (f : List UInt8 → Option (α × List UInt8)) : Nat → List UInt8 → Option (List α × List UInt8)
  | 0, _ => none
  | n + 1, l =>
    match f l with
    | none => none
    | some (a, r) =>
      match eat 44 r with
      | none => some ([a], r)
      | some r2 =>
        match rdSeq f n r2 with
        | none => none
        | some (us, q) => some (a :: us, q)
/-- Parts up to a closing sign, or none of them. -/
def rdSeqE (f : List UInt8 → Option (α × List UInt8)) (e : UInt8) (l : List UInt8) : Option (List α × List UInt8) :=
  match eat e l with
  | some r => some ([], r)
  | none => match rdSeq f (l.length + 1) l with
    | none => none
    | some (us, q) => match eat e q with
      | none => none
      | some r => some (us, r)
theorem rdSeq_sound {f : List UInt8 → Option (α × List UInt8)} {g : α → List UInt8} (hf : ∀ l a r, f l = some (a, r) → l = g a ++ r) : ∀ (n : Nat) (l : List UInt8) (us : List α) (q : List UInt8), rdSeq f n l = some (us, q) → l = commas (us.map g) ++ q ∧ us ≠ [] := by
  intro n
  induction n with
  | zero =>
    intro l us q h
    cases h
  | succ n ih =>
    intro l us q h
    rw [rdSeq] at h
    split at h
    · cases h
    · rename_i a r ha
      have e1 := hf _ _ _ ha
      split at h
      · cases h
        exact ⟨by simpa [commas] using e1, by simp⟩
      · rename_i r2 hr2
        have e2 := eat_some hr2
        split at h
        · cases h
        · rename_i us' q' hq
          cases h
          obtain ⟨i1, i2⟩ := ih _ _ _ hq
          obtain ⟨b, bs, rfl⟩ : ∃ b bs, us' = b :: bs := by
            cases us' with
            | nil => exact absurd rfl i2
            | cons b bs => exact ⟨b, bs, rfl⟩
          refine ⟨?_, by simp⟩
          rw [e1, e2, i1]
          simp [commas]
theorem rdSeqE_sound {f : List UInt8 → Option (α × List UInt8)} {g : α → List UInt8} (hf : ∀ l a r, f l = some (a, r) → l = g a ++ r) (e : UInt8) (l : List UInt8) (us : List α) (r : List UInt8) (h : rdSeqE f e l = some (us, r)) : l = commas (us.map g) ++ e :: r := by
  unfold rdSeqE at h
  split at h
  · rename_i r' hr
    cases h
    simpa [commas] using eat_some hr
  · split at h
    · cases h
    · rename_i us' q hq
      split at h
      · cases h
      · rename_i r' hr
        cases h
        rw [(rdSeq_sound hf _ _ _ _ hq).1, eat_some hr]
/-- All parts that are read were read by f. -/
theorem rdSeq_all {f : List UInt8 → Option (α × List UInt8)} {P : α → Prop} (hf : ∀ l a r, f l = some (a, r) → P a) : ∀ (n : Nat) (l : List UInt8) (us : List α) (q : List UInt8), rdSeq f n l = some (us, q) → ∀ a ∈ us, P a := by
  intro n
  induction n with
  | zero =>
    intro l us q h
    cases h
  | succ n ih =>
    intro l us q h
    rw [rdSeq] at h
    split at h
    · cases h
    · rename_i a r ha
      split at h
      · cases h
        intro b hb
        rw [List.mem_singleton.1 hb]
        exact hf _ _ _ ha
      · rename_i r2 hr2
        split at h
        · cases h
        · rename_i us' q' hq
          cases h
          intro b hb
          rcases List.mem_cons.1 hb with rfl | hb
          · exact hf _ _ _ ha
          · exact ih _ _ _ hq b hb
theorem rdSeqE_all {f : List UInt8 → Option (α × List UInt8)} {P : α → Prop} (hf : ∀ l a r, f l = some (a, r) → P a) (e : UInt8) (l : List UInt8) (us : List α) (r : List UInt8) (h : rdSeqE f e l = some (us, r)) : ∀ a ∈ us, P a := by
  unfold rdSeqE at h
  split at h
  · cases h
    intro a ha
    cases ha
  · split at h
    · cases h
    · rename_i us' q hq
      split at h
      · cases h
      · cases h
        exact rdSeq_all hf _ _ _ _ hq
/-- What comes behind a text: no digit. -/
def Stop (r : List UInt8) : Prop := ∀ c, r.head? = some c → digC c = false
theorem stop_cons (c : UInt8) (r : List UInt8) (h : digC c = false) : Stop (c :: r) := fun x hx => by
  simp at hx
  rw [← hx]
  exact h
theorem rdSeq_full {f : List UInt8 → Option (α × List UInt8)} {g : α → List UInt8} : ∀ (us : List α), us ≠ [] → (∀ a ∈ us, ∀ r, Stop r → f (g a ++ r) = some (a, r)) → ∀ (n : Nat) (e : UInt8) (r : List UInt8), e ≠ 44 → digC e = false → us.length ≤ n →
    rdSeq f n (commas (us.map g) ++ e :: r) = some (us, e :: r) := by
  intro us
  induction us with
  | nil => intro h; exact absurd rfl h
  | cons a aq ih =>
    intro _ hr n e r he hd hlen
    cases n with
    | zero => simp at hlen
    | succ n =>
      have ha := hr a (by simp)
      cases aq with
      | nil =>
        have e1 : commas ([a].map g) ++ e :: r = g a ++ e :: r := by simp [commas]
        rw [e1, rdSeq, ha _ (stop_cons e r hd)]
        simp only [eat_other r he]
      | cons b bs =>
        have e1 : commas ((a :: b :: bs).map g) ++ e :: r = g a ++ 44 :: (commas ((b :: bs).map g) ++ e :: r) := by simp [commas]
        have h1 := ih (by simp) (fun x h => hr x (by simp [h])) n e r he hd (by simpa using hlen)
        rw [e1, rdSeq, ha _ (stop_cons 44 _ (by decide))]
        simp only [eat_cons, h1]
end Parts

/-- A field: its label, its value. -/
def rdField (f : List UInt8 → Option (Va × List UInt8)) (l : List UInt8) : Option ((ByteArray × Va) × List UInt8) :=
  match eat 61 (l.dropWhile wordC) with
  | none => none
  | some r => match f r with
    | none => none
    | some (t, q) => some ((⟨(l.takeWhile wordC).toArray⟩, t), q)
def rdIntV (l : List UInt8) : Option (Va × List UInt8) :=
  match eat 45 l with
  | some r => match unItoa (45 :: r.takeWhile digC) with
    | none => none
    | some n => some (.mk 1 n ⟨#[]⟩ [] [], r.dropWhile digC)
  | none => match unItoa (l.takeWhile digC) with
    | none => none
    | some n => some (.mk 1 n ⟨#[]⟩ [] [], l.dropWhile digC)
def rdTag (f : List UInt8 → Option (Va × List UInt8)) (l : List UInt8) : Option (Va × List UInt8) :=
  match eat 32 (l.dropWhile wordC) with
  | none => none
  | some r => match f r with
    | none => none
    | some (t, q) => match eat 62 q with
      | none => none
      | some q2 => some (.mk 4 0 ⟨(l.takeWhile wordC).toArray⟩ [] [t], q2)
def rdRec (f : List UInt8 → Option (Va × List UInt8)) (l : List UInt8) : Option (Va × List UInt8) :=
  match rdSeqE (rdField f) 125 l with
  | none => none
  | some (ps, r) => some (.mk 3 0 ⟨#[]⟩ (ps.map (·.1)) (ps.map (·.2)), r)
def rdList (f : List UInt8 → Option (Va × List UInt8)) (l : List UInt8) : Option (Va × List UInt8) :=
  match rdSeqE f 93 l with
  | none => none
  | some (ts, r) => some (.mk 5 0 ⟨#[]⟩ [] ts, r)
/-- A value of n levels at most is read. -/
def rdVa : Nat → List UInt8 → Option (Va × List UInt8)
  | 0, _ => none
  | n + 1, l =>
    match eats [35, 116] l with
    | some r => some (.mk 2 1 ⟨#[]⟩ [] [], r)
    | none => match eats [35, 102] l with
      | some r => some (.mk 2 0 ⟨#[]⟩ [] [], r)
      | none => match eat 123 l with
        | some r => rdRec (rdVa n) r
        | none => match eat 91 l with
          | some r => rdList (rdVa n) r
          | none => match eat 60 l with
            | some r => rdTag (rdVa n) r
            | none => rdIntV l

/-- What is read is the text of what it is read as. -/
def SoundV (f : List UInt8 → Option (Va × List UInt8)) : Prop := ∀ l t r, f l = some (t, r) → l = txtV t ++ r
theorem word_split (l : List UInt8) : l = (⟨(l.takeWhile wordC).toArray⟩ : ByteArray).data.toList ++ l.dropWhile wordC := (List.takeWhile_append_dropWhile).symm
theorem rdField_sound {f : List UInt8 → Option (Va × List UInt8)} (hf : SoundV f) (l : List UInt8) (a : ByteArray × Va) (r : List UInt8) (h : rdField f l = some (a, r)) : l = (a.1.data.toList ++ 61 :: txtV a.2) ++ r := by
  unfold rdField at h
  split at h
  · cases h
  · rename_i q hq
    split at h
    · cases h
    · rename_i t q2 ht
      cases h
      have e1 := word_split l
      rw [eat_some hq, hf _ _ _ ht] at e1
      simpa using e1
theorem dig_split (l : List UInt8) : l = l.takeWhile digC ++ l.dropWhile digC := (List.takeWhile_append_dropWhile).symm
theorem rdInt_sound : SoundV rdIntV := by
  intro l t r h
  unfold rdIntV at h
  split at h
  · rename_i q hq
    split at h
    · cases h
    · rename_i n hn
      cases h
      rw [eat_some hq, txtV, nodeTxtV, if_pos rfl, ← (unItoa_some hn).1, List.cons_append, ← dig_split]
  · split at h
    · cases h
    · rename_i n hn
      cases h
      rw [txtV, nodeTxtV, if_pos rfl, ← (unItoa_some hn).1, ← dig_split]
theorem rdVa_sound (n : Nat) : SoundV (rdVa n) := by
  induction n with
  | zero =>
    intro l t r h
    cases h
  | succ n ih =>
    intro l t r h
    rw [rdVa] at h
    split at h
    · rename_i r' hr
      cases h
      rw [eats_some hr]
      simp [txtV, nodeTxtV]
    · split at h
      · rename_i r' hr
        cases h
        rw [eats_some hr]
        simp [txtV, nodeTxtV]
      · split at h
        · rename_i r' hr
          unfold rdRec at h
          split at h
          · cases h
          · rename_i ps q hq
            cases h
            have e1 := rdSeqE_sound (rdField_sound ih) _ _ _ _ hq
            rw [eat_some hr, e1, txtV, nodeTxtV, if_neg (by decide), if_neg (by decide), if_pos rfl, labE_map]
            simp
        · split at h
          · rename_i r' hr
            unfold rdList at h
            split at h
            · cases h
            · rename_i ts q hq
              cases h
              have e1 := rdSeqE_sound ih _ _ _ _ hq
              rw [eat_some hr, e1, txtV, nodeTxtV, if_neg (by decide), if_neg (by decide), if_neg (by decide), if_neg (by decide), txtVs_map]
              simp
          · split at h
            · rename_i r' hr
              unfold rdTag at h
              split at h
              · cases h
              · rename_i q hq
                split at h
                · cases h
                · rename_i u q2 hu
                  split at h
                  · cases h
                  · rename_i q3 hq3
                    cases h
                    have e1 := word_split r'
                    rw [eat_some hq, ih _ _ _ hu, eat_some hq3] at e1
                    have e2 := eat_some hr
                    rw [e1] at e2
                    rw [e2, txtV, nodeTxtV, if_neg (by decide), if_neg (by decide), if_neg (by decide), if_pos rfl]
                    simp [txtVs]
            · exact rdInt_sound _ _ _ h

theorem formVas_mem : ∀ {ts : List Va}, formVas ts = true → ∀ t ∈ ts, formVa t = true
  | [], _, t, h => by cases h
  | a :: r, h, t, ht => by
    rw [formVas, Bool.and_eq_true] at h
    rcases List.mem_cons.1 ht with rfl | h2
    · exact h.1
    · exact formVas_mem h.2 t h2
theorem depthVas_mem : ∀ {ts : List Va} {n : Nat}, depthVas ts ≤ n → ∀ t ∈ ts, depthVa t ≤ n
  | [], _, _, t, h => by cases h
  | a :: r, n, h, t, ht => by
    rw [depthVas] at h
    rcases List.mem_cons.1 ht with rfl | h2
    · omega
    · exact depthVas_mem (by omega) t h2
theorem take_digs {l r : List UInt8} (h : ∀ c ∈ l, digC c = true) (hr : Stop r) : (l ++ r).takeWhile digC = l ∧ (l ++ r).dropWhile digC = r := by
  induction l with
  | nil =>
    cases r with
    | nil => exact ⟨rfl, rfl⟩
    | cons c q =>
      have h1 := hr c rfl
      simp [h1]
  | cons a q ih =>
    have h1 := ih fun c hc => h c (by simp [hc])
    have h2 := h a (by simp)
    simp [h2, h1]
theorem digs_all (u : Nat) : ∀ c ∈ Lib.decDigits u, digC c = true := fun c hc => by
  have h := dec_dig u c hc
  unfold IsDig at h
  simp [digC, h]
theorem int_reads (n : Int) (r : List UInt8) (h1 : -999999999999 ≤ n) (h2 : n ≤ 999999999999) (hr : Stop r) : rdIntV (Lib.itoa n ++ r) = some (.mk 1 n ⟨#[]⟩ [] [], r) := by
  unfold rdIntV
  by_cases h : n < 0
  · have e : Lib.itoa n = 45 :: Lib.decDigits n.natAbs := by rw [Lib.itoa, if_pos h]
    have hd := take_digs (digs_all n.natAbs) hr
    rw [e, List.cons_append, eat_cons]
    simp only [hd.1, hd.2]
    rw [← e, unItoa_of rfl h1 h2]
  · have e : Lib.itoa n = Lib.decDigits n.toNat := by rw [Lib.itoa, if_neg h]
    have hd := take_digs (digs_all n.toNat) hr
    have h45 : eat 45 (Lib.decDigits n.toNat ++ r) = none := by
      obtain ⟨c, q, hcq⟩ : ∃ c q, Lib.decDigits n.toNat = c :: q := by
        cases hl : Lib.decDigits n.toNat with
        | nil => exact absurd hl (dec_ne _)
        | cons c q => exact ⟨c, q, rfl⟩
      have hc := digs_all n.toNat c (by rw [hcq]; simp)
      rw [hcq, List.cons_append]
      refine eat_other _ fun e => ?_
      rw [e] at hc
      exact absurd hc (by decide)
    rw [e, h45]
    simp only [hd.1, hd.2]
    rw [← e, unItoa_of rfl h1 h2]
/-- What the text of a number begins with. -/
theorem itoa_head (n : Int) : ∃ c q, Lib.itoa n = c :: q ∧ intC c = true := by
  by_cases h : n < 0
  · exact ⟨45, _, by rw [Lib.itoa, if_pos h], rfl⟩
  · have e : Lib.itoa n = Lib.decDigits n.toNat := by rw [Lib.itoa, if_neg h]
    cases hl : Lib.decDigits n.toNat with
    | nil => exact absurd hl (dec_ne _)
    | cons c q => exact ⟨c, q, by rw [e, hl], digC_intC (digs_all n.toNat c (by rw [hl]; simp))⟩
theorem word_taken2 (s : ByteArray) (h : isNameB s = true) (e : UInt8) (he : wordC e = false) (r : List UInt8) : (s.data.toList ++ e :: r).takeWhile wordC = s.data.toList ∧ (s.data.toList ++ e :: r).dropWhile wordC = e :: r := by
  have hw := name_word s h
  generalize s.data.toList = l at *
  induction l with
  | nil => simp [he]
  | cons a q ih =>
    have h1 := ih fun c hc => hw c (by simp [hc])
    have h2 := hw a (by simp)
    simp [h2, h1]
def ReadsV (f : List UInt8 → Option (Va × List UInt8)) (t : Va) : Prop := ∀ r, Stop r → f (txtV t ++ r) = some (t, r)
theorem field_reads {f : List UInt8 → Option (Va × List UInt8)} (l : ByteArray) (t : Va) (hl : isNameB l = true) (ht : ReadsV f t) (r : List UInt8) (hr : Stop r) : rdField f ((l.data.toList ++ 61 :: txtV t) ++ r) = some ((l, t), r) := by
  have e1 : (l.data.toList ++ 61 :: txtV t) ++ r = l.data.toList ++ 61 :: (txtV t ++ r) := by simp
  have hw := word_taken2 l hl 61 (by decide) (txtV t ++ r)
  rw [e1, rdField, hw.1, hw.2, eat_cons]
  simp only [ht r hr]
theorem zip_maps : ∀ (ls : List ByteArray) (ts : List Va), ls.length = ts.length → (ls.zip ts).map (·.1) = ls ∧ (ls.zip ts).map (·.2) = ts
  | [], [], _ => ⟨rfl, rfl⟩
  | [], _ :: _, h => by simp at h
  | _ :: _, [], h => by simp at h
  | l :: ls, t :: ts, h => by
    obtain ⟨h1, h2⟩ := zip_maps ls ts (by simpa using h)
    constructor
    · rw [List.zip_cons_cons, List.map_cons, h1]
    · rw [List.zip_cons_cons, List.map_cons, h2]
theorem commas_pos : ∀ (xs : List (List UInt8)), (∀ x ∈ xs, 1 ≤ x.length) → xs.length ≤ (commas xs).length
  | [], _ => Nat.le_refl _
  | [a], h => by
    have := h a (by simp)
    simpa [commas] using this
  | a :: b :: r, h => by
    have h1 := commas_pos (b :: r) fun x hx => h x (by simp [hx])
    simp only [commas, List.length_append, List.length_cons] at h1 ⊢
    omega
theorem txtV_pos (t : Va) : 1 ≤ (txtV t).length := by
  cases t with
  | mk k n nm ls ts =>
    rw [txtV]
    unfold nodeTxtV
    split
    · obtain ⟨c, q, e, _⟩ := itoa_head n
      rw [e]
      simp
    · split
      · simp
      · split
        · simp
        · split
          · simp
          · simp
/-- What the text of no number begins with. -/
theorem txtV_head (t : Va) (hk : t.kind ≠ 1) : ∃ c q, txtV t = c :: q ∧ (c = 35 ∨ c = 123 ∨ c = 60 ∨ c = 91) := by
  cases t with
  | mk k n nm ls ts =>
    have hk' : k ≠ 1 := hk
    rw [txtV]
    unfold nodeTxtV
    rw [if_neg hk']
    split
    · exact ⟨_, _, rfl, Or.inl rfl⟩
    · split
      · exact ⟨_, _, rfl, Or.inr (Or.inl rfl)⟩
      · split
        · exact ⟨_, _, rfl, Or.inr (Or.inr (Or.inl rfl))⟩
        · exact ⟨_, _, rfl, Or.inr (Or.inr (Or.inr rfl))⟩
/-- No text of a value begins with a closing sign. -/
theorem txtV_noend (t : Va) (e : UInt8) (he : e = 125 ∨ e = 93) (r : List UInt8) : eat e (txtV t ++ r) = none := by
  by_cases hk : t.kind = 1
  · cases t with
    | mk k n nm ls ts =>
      have hk' : k = 1 := hk
      rw [txtV, nodeTxtV, if_pos hk']
      obtain ⟨c, q, e1, h1⟩ := itoa_head n
      rw [e1, List.cons_append]
      refine eat_other _ fun e2 => ?_
      rw [e2] at h1
      rcases he with rfl | rfl <;> exact absurd h1 (by decide)
  · obtain ⟨c, q, e1, h1⟩ := txtV_head t hk
    rw [e1, List.cons_append]
    refine eat_other _ fun e2 => ?_
    rw [e2] at h1
    rcases he with rfl | rfl <;> exact absurd h1 (by decide)
theorem rdVa_full (n : Nat) : ∀ (t : Va), formVa t = true → depthVa t ≤ n → smallB t = true → ReadsV (rdVa n) t := by
  induction n with
  | zero =>
    intro t _ h
    rw [depthVa_eq] at h
    omega
  | succ n ih =>
    intro t hf hd hs r hr
    cases t with
    | mk k n0 nm ls ts =>
      rw [formVa, Bool.and_eq_true] at hf
      rw [depthVa] at hd
      rw [smallB, Bool.and_eq_true] at hs
      have hts : ∀ t ∈ ts, ReadsV (rdVa n) t := fun t ht => ih t (formVas_mem hf.1 t ht) (depthVas_mem (by omega) t ht) (smallBs_mem hs.2 t ht)
      have hnode := hf.2
      unfold nodeVB at hnode
      by_cases h1 : k = 1
      · rw [if_pos h1] at hnode
        simp only [Bool.and_eq_true, decide_eq_true_eq] at hnode
        obtain ⟨⟨hnm, hls⟩, hm⟩ := hnode
        obtain rfl : nm = ⟨#[]⟩ := size_nil hnm
        obtain rfl : ls = [] := List.eq_nil_of_length_eq_zero hls
        obtain rfl : ts = [] := List.eq_nil_of_length_eq_zero hm
        subst h1
        have hsn := hs.1
        simp only [decide_eq_true_eq] at hsn
        have hI := int_reads n0 r hsn.1 hsn.2 hr
        rw [txtV, nodeTxtV, if_pos rfl]
        obtain ⟨c, q, e1, h1⟩ := itoa_head n0
        have hn1 : ∀ x : UInt8, intC x = false → c ≠ x := fun x hx e => by rw [e, hx] at h1; cases h1
        rw [rdVa]
        have g1 : eats [35, 116] (Lib.itoa n0 ++ r) = none := by
          rw [e1]
          simp only [eats, List.cons_append, List.isPrefixOf]
          have : ((35 : UInt8) == c) = false := by rw [beq_eq_false_iff_ne]; exact fun e => hn1 35 (by decide) e.symm
          rw [this]
          rfl
        have g2 : eats [35, 102] (Lib.itoa n0 ++ r) = none := by
          rw [e1]
          simp only [eats, List.cons_append, List.isPrefixOf]
          have : ((35 : UInt8) == c) = false := by rw [beq_eq_false_iff_ne]; exact fun e => hn1 35 (by decide) e.symm
          rw [this]
          rfl
        have g3 : eat 123 (Lib.itoa n0 ++ r) = none := by rw [e1]; exact eat_other _ (hn1 123 (by decide))
        have g4 : eat 91 (Lib.itoa n0 ++ r) = none := by rw [e1]; exact eat_other _ (hn1 91 (by decide))
        have g5 : eat 60 (Lib.itoa n0 ++ r) = none := by rw [e1]; exact eat_other _ (hn1 60 (by decide))
        simp only [g1, g2, g3, g4, g5]
        exact hI
      · rw [if_neg h1] at hnode
        by_cases h2 : k = 2
        · rw [if_pos h2] at hnode
          simp only [Bool.and_eq_true, decide_eq_true_eq] at hnode
          obtain ⟨⟨⟨hnm, hls⟩, hm⟩, hn⟩ := hnode
          obtain rfl : nm = ⟨#[]⟩ := size_nil hnm
          obtain rfl : ls = [] := List.eq_nil_of_length_eq_zero hls
          obtain rfl : ts = [] := List.eq_nil_of_length_eq_zero hm
          subst h2
          rw [txtV, nodeTxtV, if_neg (by decide), if_pos rfl]
          by_cases hn1 : n0 = 1
          · subst hn1
            have e1 : ([35, if (1 : Int) = 1 then 116 else 102] : List UInt8) ++ r = [35, 116] ++ r := rfl
            rw [e1, rdVa, eats_append]
          · obtain rfl : n0 = 0 := by omega
            have e1 : ([35, if (0 : Int) = 1 then 116 else 102] : List UInt8) ++ r = [35, 102] ++ r := rfl
            have e2 : eats [35, 116] (([35, 102] : List UInt8) ++ r) = none := by
              simp [eats, List.isPrefixOf]
            rw [e1, rdVa, e2]
            simp only [eats_append]
        · rw [if_neg h2] at hnode
          have nohash : ∀ (c : UInt8) (q : List UInt8) (x : UInt8), c ≠ 35 → eats [35, x] (c :: q) = none := fun c q x hc => by
            have : ((35 : UInt8) == c) = false := by rw [beq_eq_false_iff_ne]; exact fun e => hc e.symm
            simp [eats, List.isPrefixOf, this]
          by_cases h3 : k = 3
          · rw [if_pos h3] at hnode
            simp only [Bool.and_eq_true, decide_eq_true_eq] at hnode
            obtain ⟨⟨⟨hnm, hn⟩, hm⟩, hlab⟩ := hnode
            obtain rfl : nm = ⟨#[]⟩ := size_nil hnm
            subst h3 hn
            have hz := zip_maps ls ts hm.symm
            have hzl : (ls.zip ts).length = ls.length := by rw [List.length_zip]; omega
            have hne : ls.zip ts ≠ [] := fun e => by
              have h := congrArg List.length e
              rw [hzl] at h
              exact labelsB_some hlab (List.eq_nil_of_length_eq_zero h)
            have hpos : ls.length ≤ (commas (labE ls (txtVs ts))).length := by
              have h := commas_pos (labE ls (txtVs ts)) fun x hx => by
                have e2 := labE_map (ls.zip ts)
                rw [hz.1, hz.2] at e2
                rw [e2] at hx
                obtain ⟨p, _, rfl⟩ := List.mem_map.1 hx
                simp
                omega
              have e2 := labE_map (ls.zip ts)
              rw [hz.1, hz.2] at e2
              rw [e2, List.length_map, hzl] at h
              rw [e2]
              exact h
            rw [txtV, nodeTxtV, if_neg (by decide), if_neg (by decide), if_pos rfl]
            rw [List.cons_append, rdVa]
            simp only [nohash 123 _ _ (by decide), eat_cons]
            have hseq : rdSeq (rdField (rdVa n)) ((commas (labE ls (txtVs ts)) ++ [125] ++ r).length + 1) (commas (labE ls (txtVs ts)) ++ [125] ++ r) = some (ls.zip ts, 125 :: r) := by
              have e2 := labE_map (ls.zip ts)
              rw [hz.1, hz.2] at e2
              have h := rdSeq_full (f := rdField (rdVa n)) (g := fun p : ByteArray × Va => p.1.data.toList ++ 61 :: txtV p.2) (ls.zip ts) hne (fun p hp q hq => field_reads p.1 p.2 (labelsB_names hlab _ (List.of_mem_zip hp).1) (hts _ (List.of_mem_zip hp).2) q hq) ((commas (labE ls (txtVs ts)) ++ [125] ++ r).length + 1) 125 r (by decide) (by decide) (by rw [hzl]; rw [List.length_append, List.length_append]; omega)
              rw [← e2] at h
              rw [show commas (labE ls (txtVs ts)) ++ [125] ++ r = commas (labE ls (txtVs ts)) ++ 125 :: r by simp] at h ⊢
              exact h
            have hno : eat 125 (commas (labE ls (txtVs ts)) ++ [125] ++ r) = none := by
              obtain ⟨p, ps, hps⟩ : ∃ p ps, ls.zip ts = p :: ps := by
                cases hzz : ls.zip ts with
                | nil => exact absurd hzz hne
                | cons p ps => exact ⟨p, ps, rfl⟩
              have hp1 := labelsB_names hlab p.1 (List.of_mem_zip (show p ∈ ls.zip ts by rw [hps]; simp)).1
              have hw := name_word p.1 hp1
              have hsz := isNameB_size p.1 hp1
              obtain ⟨c, q, hc⟩ : ∃ c q, p.1.data.toList = c :: q := by
                cases hl : p.1.data.toList with
                | nil =>
                  have h2 : p.1.data.toList.length = p.1.size := by simp
                  rw [hl] at h2
                  simp at h2
                  omega
                | cons c q => exact ⟨c, q, rfl⟩
              have hwc := hw c (by rw [hc]; simp)
              have e2 := labE_map (ls.zip ts)
              rw [hz.1, hz.2, hps, List.map_cons, hc] at e2
              obtain ⟨q2, hq2⟩ : ∃ q2, commas (labE ls (txtVs ts)) = c :: q2 := by
                rw [e2]
                cases ps.map fun p : ByteArray × Va => p.1.data.toList ++ 61 :: txtV p.2 with
                | nil => exact ⟨_, rfl⟩
                | cons b bs => exact ⟨_, rfl⟩
              rw [hq2, List.cons_append, List.cons_append]
              refine eat_other _ fun e => ?_
              rw [e] at hwc
              exact absurd hwc (by decide)
            rw [rdRec, rdSeqE, hno, hseq]
            simp only [eat_cons, hz.1, hz.2]
          · rw [if_neg h3] at hnode
            by_cases h4 : k = 4
            · rw [if_pos h4] at hnode
              simp only [Bool.and_eq_true, decide_eq_true_eq] at hnode
              obtain ⟨⟨⟨hnm, hls⟩, hn⟩, hm⟩ := hnode
              obtain rfl : ls = [] := List.eq_nil_of_length_eq_zero hls
              obtain ⟨t, rfl⟩ := List.length_eq_one_iff.1 hm
              subst h4 hn
              have ht := hts t (by simp) (62 :: r) (stop_cons 62 r (by decide))
              have hw := word_taken2 nm hnm 32 (by decide) (txtV t ++ 62 :: r)
              have e1 : txtV (.mk 4 0 nm [] [t]) ++ r = 60 :: (nm.data.toList ++ 32 :: (txtV t ++ 62 :: r)) := by
                rw [txtV, nodeTxtV, if_neg (by decide), if_neg (by decide), if_neg (by decide), if_pos rfl]
                simp [txtVs]
              rw [e1, rdVa]
              simp only [nohash 60 _ _ (by decide), eat_cons, show eat 123 (60 :: (nm.data.toList ++ 32 :: (txtV t ++ 62 :: r))) = none from eat_other _ (by decide), show eat 91 (60 :: (nm.data.toList ++ 32 :: (txtV t ++ 62 :: r))) = none from eat_other _ (by decide)]
              rw [rdTag, hw.1, hw.2, eat_cons]
              simp only [ht, eat_cons]
            · rw [if_neg h4] at hnode
              by_cases h5 : k = 5
              · rw [if_pos h5] at hnode
                simp only [Bool.and_eq_true, decide_eq_true_eq] at hnode
                obtain ⟨⟨hnm, hls⟩, hn⟩ := hnode
                obtain rfl : nm = ⟨#[]⟩ := size_nil hnm
                obtain rfl : ls = [] := List.eq_nil_of_length_eq_zero hls
                subst h5 hn
                have e1 : txtV (.mk 5 0 ⟨#[]⟩ [] ts) ++ r = 91 :: (commas (ts.map txtV) ++ 93 :: r) := by
                  rw [txtV, nodeTxtV, if_neg (by decide), if_neg (by decide), if_neg (by decide), if_neg (by decide), txtVs_map]
                  simp
                rw [e1, rdVa]
                simp only [nohash 91 _ _ (by decide), eat_cons, show eat 123 (91 :: (commas (ts.map txtV) ++ 93 :: r)) = none from eat_other _ (by decide)]
                rw [rdList]
                cases ts with
                | nil => simp [rdSeqE, commas, eat]
                | cons a q =>
                  have hno : eat 93 (commas ((a :: q).map txtV) ++ 93 :: r) = none := by
                    cases hq : q.map txtV with
                    | nil =>
                      rw [List.map_cons, hq]
                      exact txtV_noend a 93 (Or.inr rfl) _
                    | cons b bs =>
                      rw [List.map_cons, hq, commas, List.append_assoc]
                      exact txtV_noend a 93 (Or.inr rfl) _
                  have hpos := commas_pos ((a :: q).map txtV) fun x hx => by
                    obtain ⟨u, _, rfl⟩ := List.mem_map.1 hx
                    exact txtV_pos u
                  rw [List.length_map] at hpos
                  have hseq := rdSeq_full (f := rdVa n) (g := txtV) (a :: q) (by simp) (fun t ht => hts t ht) ((commas ((a :: q).map txtV) ++ 93 :: r).length + 1) 93 r (by decide) (by decide) (by rw [List.length_append]; omega)
                  rw [rdSeqE, hno, hseq]
                  simp only [eat_cons]
              · rw [if_neg h5] at hnode
                cases hnode

/-- The value of a text: valid, with this text. -/
def parseVB (s : ByteArray) : Option Va :=
  match rdVa 300 s.data.toList with
  | some (t, []) => if valueB t then some t else none
  | _ => none
theorem parseVB_some {s : ByteArray} {t : Va} (h : parseVB s = some t) : valueB t = true ∧ txtV t = s.data.toList := by
  unfold parseVB at h
  split at h
  · rename_i t' e
    split at h
    · cases h
      have := rdVa_sound 300 _ _ _ e
      simp_all
    · cases h
  · cases h
/-- The text of a value; nothing of another tree. -/
def formatVB (t : Va) : ByteArray := if valueB t then ⟨(txtV t).toArray⟩ else ⟨#[]⟩

end Go.Proofs.YtlmbnefoobameaaGreatDoor
end

section
namespace Go.Proofs.YtlmbnefoobameaaGreatDoor
open Go.RowKit

theorem emptySize0 : (⟨#[]⟩ : ByteArray).size = 0 := rfl
theorem itoa_len (n : Int) (h : -9223372036854775808 ≤ n ∧ n ≤ 9223372036854775807) : (Lib.itoa n).length ≤ 20 := by
  by_cases h0 : n < 0
  · rw [Lib.itoa, if_pos h0]
    have := dec_len 18 n.natAbs (by omega)
    simp
    omega
  · rw [Lib.itoa, if_neg h0]
    have := dec_len 18 n.toNat (by omega)
    omega
theorem labE_sum : ∀ (ls : List ByteArray) (xs : List (List UInt8)), (∀ l ∈ ls, l.size ≤ 4) → sumLens (labE ls xs) ≤ sumLens xs + 5 * xs.length ∧ (labE ls xs).length ≤ xs.length
  | [], xs, _ => by simp [labE, sumLens]
  | _ :: _, [], _ => by simp [labE, sumLens]
  | l :: ls, x :: xs, h => by
    have h1 := labE_sum ls xs fun l hl => h l (by simp [hl])
    have h2 := h l (by simp)
    have h3 : l.data.toList.length = l.size := by simp
    simp only [labE, sumLens, List.map_cons, List.sum_cons, List.length_append, List.length_cons] at h1 ⊢
    omega
theorem labE_same : ∀ (ls : List ByteArray) (xs : List (List UInt8)), ls.length = xs.length → (labE ls xs).length = ls.length
  | [], _, _ => rfl
  | _ :: _, [], h => by simp at h
  | l :: ls, x :: xs, h => by simp [labE, labE_same ls xs (by simpa using h)]
theorem labE_get : ∀ (ls : List ByteArray) (xs : List (List UInt8)) (k : Nat) (h1 : k < ls.length) (h2 : k < xs.length) (h3 : k < (labE ls xs).length), (labE ls xs)[k] = ls[k].data.toList ++ 61 :: xs[k]
  | [], _, _, h, _, _ => by simp at h
  | _ :: _, [], _, _, h, _ => by simp at h
  | l :: ls, x :: xs, 0, _, _, _ => rfl
  | l :: ls, x :: xs, k + 1, h1, h2, h3 => labE_get ls xs k (by simpa using h1) (by simpa using h2) (by simpa [labE] using h3)
theorem txtVs_sum : ∀ (ts : List Va), (∀ i, (h : i < ts.length) → (txtV ts[i]).length + 6 ≤ 26 * sizeVa ts[i]) → sumLens (txtVs ts) + 6 * ts.length ≤ 26 * sizeVas ts ∧ (txtVs ts).length = ts.length
  | [], _ => by simp [txtVs, sumLens, sizeVas]
  | t :: r, h => by
    have h1 := txtVs_sum r fun i hi => h (i + 1) (by simpa using hi)
    have h2 := h 0 (by simp)
    simp only [txtVs, sumLens, sizeVas, List.map_cons, List.sum_cons, List.length_cons, List.getElem_cons_zero] at h1 h2 ⊢
    omega
theorem formVas_get {ts : List Va} (h : formVas ts = true) (i : Nat) (hi : i < ts.length) : formVa ts[i] = true := formVas_mem h _ (List.getElem_mem hi)
/-- The kinds of nodes. -/
theorem nodeVB_kind {k n : Int} {nm : ByteArray} {ls : List ByteArray} {m : Nat} (h : nodeVB k n nm ls m = true) :
    k = 1 ∧ m = 0 ∨ k = 2 ∧ m = 0 ∧ 0 ≤ n ∧ n ≤ 1 ∨ k = 3 ∧ ls.length = m ∧ labelsB ls = true ∨ k = 4 ∧ m = 1 ∧ isNameB nm = true ∨ k = 5 := by
  unfold nodeVB at h
  split at h
  · simp only [Bool.and_eq_true, decide_eq_true_eq] at h
    exact Or.inl ⟨by assumption, h.2⟩
  · split at h
    · simp only [Bool.and_eq_true, decide_eq_true_eq] at h
      exact Or.inr (Or.inl ⟨by assumption, h.1.2, h.2⟩)
    · split at h
      · simp only [Bool.and_eq_true, decide_eq_true_eq] at h
        exact Or.inr (Or.inr (Or.inl ⟨by assumption, h.1.2.symm, h.2⟩))
      · split at h
        · simp only [Bool.and_eq_true, decide_eq_true_eq] at h
          exact Or.inr (Or.inr (Or.inr (Or.inl ⟨by assumption, h.2, h.1.1.1⟩)))
        · split at h
          · exact Or.inr (Or.inr (Or.inr (Or.inr (by assumption))))
          · cases h
theorem txtV_len (t : Va) : formVa t = true → numsB t = true → (txtV t).length + 6 ≤ 26 * sizeVa t := by
  induction t using Va.ind with
  | h k n nm ls ts ih =>
    intro hf hq
    rw [formVa, Bool.and_eq_true] at hf
    have hq2 := numsB_of _ hq
    obtain ⟨h1, h2⟩ := txtVs_sum ts fun i hi => ih i hi (formVas_get hf.1 i hi) (hq2.2 i hi)
    have hn := nodeVB_kind hf.2
    have hi := itoa_len n hq2.1
    rw [txtV, sizeVa]
    unfold nodeTxtV
    rcases hn with ⟨rfl, hm⟩ | ⟨rfl, hm, _⟩ | ⟨rfl, hm, hl⟩ | ⟨rfl, hm, hl⟩ | rfl
    · rw [if_pos rfl]
      omega
    · rw [if_neg (by decide), if_pos rfl]
      simp
      omega
    · rw [if_neg (by decide), if_neg (by decide), if_pos rfl]
      have h3 := labE_sum ls (txtVs ts) fun l hl2 => name_len (labelsB_names hl l hl2)
      have h4 := commas_len (labE ls (txtVs ts))
      simp only [List.length_cons, List.length_append, List.length_nil]
      omega
    · rw [if_neg (by decide), if_neg (by decide), if_neg (by decide), if_pos rfl]
      have h3 := name_len hl
      have h4 : nm.data.toList.length = nm.size := by simp
      have hh : (txtVs ts).headD [] = [] ∨ ((txtVs ts).headD []).length ≤ sumLens (txtVs ts) := by
        cases txtVs ts with
        | nil => exact .inl rfl
        | cons a r => exact .inr (by simp [sumLens])
      simp only [List.length_cons, List.length_append, List.length_nil]
      rcases hh with hh | hh
      · rw [hh]
        simp
        omega
      · omega
    · rw [if_neg (by decide), if_neg (by decide), if_neg (by decide), if_neg (by decide)]
      have h4 := commas_len (txtVs ts)
      simp only [List.length_cons, List.length_append, List.length_nil]
      omega

/-- A value that is read is no larger than its text. -/
theorem commas_sum : ∀ (xs : List (List UInt8)), sumLens xs + xs.length ≤ (commas xs).length + 1
  | [] => by simp [sumLens, commas]
  | [a] => by simp [sumLens, commas]
  | a :: b :: r => by
    have := commas_sum (b :: r)
    simp only [commas, sumLens, List.map_cons, List.sum_cons, List.length_append, List.length_cons] at this ⊢
    omega
theorem szVas_le_sum : ∀ (ts : List Va), (∀ t ∈ ts, szVa t + 1 ≤ (txtV t).length) → szVas ts ≤ sumLens (ts.map txtV)
  | [], _ => by simp [szVas, sumLens]
  | t :: r, h => by
    have h1 := szVas_le_sum r fun u hu => h u (by simp [hu])
    have h2 := h t (by simp)
    simp only [szVas, sumLens, List.map_cons, List.sum_cons] at h1 ⊢
    omega
theorem szPairs_le_sum : ∀ (ps : List (ByteArray × Va)), (∀ p ∈ ps, szVa p.2 + 1 ≤ (txtV p.2).length) → (ps.map (·.1)).length + sumSizes (ps.map (·.1)) + szVas (ps.map (·.2)) ≤ sumLens (ps.map fun p => p.1.data.toList ++ 61 :: txtV p.2)
  | [], _ => by simp [szVas, sumLens, sumSizes]
  | p :: r, h => by
    have h1 := szPairs_le_sum r fun u hu => h u (by simp [hu])
    have h2 := h p (by simp)
    have h3 : p.1.data.toList.length = p.1.size := by simp
    simp only [szVas, sumLens, sumSizes, List.map_cons, List.sum_cons, List.length_append, List.length_cons] at h1 ⊢
    omega
theorem rdVa_sz (n : Nat) : ∀ (l : List UInt8) (t : Va) (r : List UInt8), rdVa n l = some (t, r) → szVa t + 1 ≤ (txtV t).length := by
  induction n with
  | zero =>
    intro l t r h
    cases h
  | succ n ih =>
    intro l t r h
    rw [rdVa] at h
    split at h
    · cases h
      simp [szVa, szVas, sumSizes, txtV, nodeTxtV, emptySize0]
    · split at h
      · cases h
        simp [szVa, szVas, sumSizes, txtV, nodeTxtV, emptySize0]
      · split at h
        · unfold rdRec at h
          split at h
          · cases h
          · rename_i ps q hq
            cases h
            have hall := rdSeqE_all (P := fun p : ByteArray × Va => szVa p.2 + 1 ≤ (txtV p.2).length) (fun l a r h => by
              unfold rdField at h
              split at h
              · cases h
              · split at h
                · cases h
                · rename_i t q ht
                  cases h
                  exact ih _ _ _ ht) _ _ _ _ hq
            have h1 := szPairs_le_sum ps hall
            rw [txtV, nodeTxtV, if_neg (by decide), if_neg (by decide), if_pos rfl, labE_map]
            have h2 := commas_sum (ps.map fun p : ByteArray × Va => p.1.data.toList ++ 61 :: txtV p.2)
            simp only [szVa, List.length_cons, List.length_append, List.length_nil, emptySize0] at h1 h2 ⊢
            simp
            simp at h1 h2
            omega
        · split at h
          · unfold rdList at h
            split at h
            · cases h
            · rename_i ts q hq
              cases h
              have hall := rdSeqE_all (P := fun t : Va => szVa t + 1 ≤ (txtV t).length) ih _ _ _ _ hq
              have h1 := szVas_le_sum ts hall
              rw [txtV, nodeTxtV, if_neg (by decide), if_neg (by decide), if_neg (by decide), if_neg (by decide), txtVs_map]
              have h2 := commas_sum (ts.map txtV)
              simp only [szVa, List.length_cons, List.length_append, List.length_nil, emptySize0] at h1 h2 ⊢
              simp [sumSizes]
              omega
          · split at h
            · unfold rdTag at h
              split at h
              · cases h
              · split at h
                · cases h
                · rename_i u q2 hu
                  split at h
                  · cases h
                  · cases h
                    have h1 := ih _ _ _ hu
                    rw [txtV, nodeTxtV, if_neg (by decide), if_neg (by decide), if_neg (by decide), if_pos rfl]
                    generalize (⟨(List.takeWhile wordC _).toArray⟩ : ByteArray) = nm
                    have h2 : nm.data.toList.length = nm.size := by simp
                    have h3 : szVa (.mk 4 0 nm [] [u]) = nm.size + (1 + szVa u) := by simp [szVa, szVas, sumSizes]
                    rw [h3]
                    simp only [txtVs, List.headD_cons, List.length_cons, List.length_append, List.length_nil]
                    omega
            · unfold rdIntV at h
              split at h
              · split at h
                · cases h
                · cases h
                  rw [szVa]
                  have := txtV_pos (.mk 1 (by assumption) ⟨#[]⟩ [] [])
                  simpa [szVas, sumSizes, emptySize0] using this
              · split at h
                · cases h
                · cases h
                  rw [szVa]
                  have := txtV_pos (.mk 1 (by assumption) ⟨#[]⟩ [] [])
                  simpa [szVas, sumSizes, emptySize0] using this

theorem parseVB_of {s : ByteArray} {t : Va} (hv : valueB t = true) (hs : smallB t = true) (ht : txtV t = s.data.toList) : parseVB s = some t := by
  have h := hv
  unfold valueB at h
  simp only [Bool.and_eq_true, decide_eq_true_eq] at h
  have h1 := rdVa_full 300 t h.2 (by have := depth_le_sizeV t; omega) hs [] (fun c hc => by cases hc)
  rw [List.append_nil, ht] at h1
  unfold parseVB
  rw [h1]
  simp [hv]
theorem rdVa_small (n : Nat) : ∀ (l : List UInt8) (t : Va) (r : List UInt8), rdVa n l = some (t, r) → smallB t = true := by
  induction n with
  | zero =>
    intro l t r h
    cases h
  | succ n ih =>
    intro l t r h
    rw [rdVa] at h
    split at h
    · cases h
      rfl
    · split at h
      · cases h
        rfl
      · split at h
        · unfold rdRec at h
          split at h
          · cases h
          · rename_i ps q hq
            cases h
            have hall := rdSeqE_all (P := fun p : ByteArray × Va => smallB p.2 = true) (fun l a r h => by
              unfold rdField at h
              split at h
              · cases h
              · split at h
                · cases h
                · rename_i t q ht
                  cases h
                  exact ih _ _ _ ht) _ _ _ _ hq
            rw [smallB, smallBs_of _ fun t ht => by
              obtain ⟨p, hp, rfl⟩ := List.mem_map.1 ht
              exact hall p hp]
            rfl
        · split at h
          · unfold rdList at h
            split at h
            · cases h
            · rename_i ts q hq
              cases h
              rw [smallB, smallBs_of _ (rdSeqE_all (P := fun t : Va => smallB t = true) ih _ _ _ _ hq)]
              rfl
          · split at h
            · unfold rdTag at h
              split at h
              · cases h
              · split at h
                · cases h
                · rename_i u q2 hu
                  split at h
                  · cases h
                  · cases h
                    rw [smallB, smallBs, smallBs, ih _ _ _ hu]
                    rfl
            · unfold rdIntV at h
              split at h
              · split at h
                · cases h
                · rename_i n hn
                  cases h
                  have := unItoa_some hn
                  simp [smallB, smallBs, this]
              · split at h
                · cases h
                · rename_i n hn
                  cases h
                  have := unItoa_some hn
                  simp [smallB, smallBs, this]
end Go.Proofs.YtlmbnefoobameaaGreatDoor
end

section
namespace Go.Proofs.YtlmbnefoobameaaGreatDoor
open Go.RowKit

def nodeTxtO (k n : Int) (nm : ByteArray) (xs : List (List UInt8)) : List UInt8 :=
  if k = 1 then [105, 100]
  else if k = 2 then 46 :: nm.data.toList
  else if k = 3 then 63 :: nm.data.toList
  else if k = 4 then [101, 97, 99, 104]
  else if k = 5 then [97, 108, 108]
  else if k = 6 then 97 :: 116 :: 32 :: Lib.itoa n
  else if k = 7 then 97 :: 100 :: 100 :: 32 :: Lib.itoa n
  else if k = 8 then [110, 111, 116]
  else if k = 9 then [114, 101, 118]
  else if k = 10 then 119 :: 114 :: 97 :: 112 :: 32 :: nm.data.toList
  else if k = 11 then 109 :: 97 :: 112 :: 32 :: xs.headD []
  else 40 :: (xs.headD [] ++ (if k = 12 then 59 else 124) :: (xs.tail.headD [] ++ [41]))
mutual
/-- The text of an optic. -/
def txtO : Ot → List UInt8 | .mk k n nm ts => nodeTxtO k n nm (txtOs ts)
def txtOs : List Ot → List (List UInt8) | [] => [] | t :: r => txtO t :: txtOs r
end
theorem txtOs_map : ∀ (ts : List Ot), txtOs ts = ts.map txtO
  | [] => by rw [txtOs]; rfl
  | t :: r => by rw [txtOs, txtOs_map r]; rfl
theorem txtO_1 : txtO (.mk 1 0 ⟨#[]⟩ []) = [105, 100] := by simp [txtO, nodeTxtO]
theorem txtO_2 (nm : ByteArray) : txtO (.mk 2 0 nm []) = 46 :: nm.data.toList := by simp [txtO, nodeTxtO]
theorem txtO_3 (nm : ByteArray) : txtO (.mk 3 0 nm []) = 63 :: nm.data.toList := by simp [txtO, nodeTxtO]
theorem txtO_4 : txtO (.mk 4 0 ⟨#[]⟩ []) = [101, 97, 99, 104] := by simp [txtO, nodeTxtO]
theorem txtO_5 : txtO (.mk 5 0 ⟨#[]⟩ []) = [97, 108, 108] := by simp [txtO, nodeTxtO]
theorem txtO_6 (n : Int) : txtO (.mk 6 n ⟨#[]⟩ []) = 97 :: 116 :: 32 :: Lib.itoa n := by simp [txtO, nodeTxtO]
theorem txtO_7 (n : Int) : txtO (.mk 7 n ⟨#[]⟩ []) = 97 :: 100 :: 100 :: 32 :: Lib.itoa n := by simp [txtO, nodeTxtO]
theorem txtO_8 : txtO (.mk 8 0 ⟨#[]⟩ []) = [110, 111, 116] := by simp [txtO, nodeTxtO]
theorem txtO_9 : txtO (.mk 9 0 ⟨#[]⟩ []) = [114, 101, 118] := by simp [txtO, nodeTxtO]
theorem txtO_10 (nm : ByteArray) : txtO (.mk 10 0 nm []) = 119 :: 114 :: 97 :: 112 :: 32 :: nm.data.toList := by simp [txtO, nodeTxtO]
theorem txtO_11 (t : Ot) : txtO (.mk 11 0 ⟨#[]⟩ [t]) = 109 :: 97 :: 112 :: 32 :: txtO t := by simp [txtO, nodeTxtO, txtOs]
theorem txtO_12 (a b : Ot) : txtO (.mk 12 0 ⟨#[]⟩ [a, b]) = 40 :: (txtO a ++ 59 :: (txtO b ++ [41])) := by simp [txtO, nodeTxtO, txtOs]
theorem txtO_13 (a b : Ot) : txtO (.mk 13 0 ⟨#[]⟩ [a, b]) = 40 :: (txtO a ++ 124 :: (txtO b ++ [41])) := by simp [txtO, nodeTxtO, txtOs]

/-- The forms of a node. -/
def FormsO (k n : Int) (nm : ByteArray) (ts : List Ot) : Prop :=
  ((k = 1 ∨ k = 4 ∨ k = 5 ∨ k = 8 ∨ k = 9) ∧ n = 0 ∧ nm = ⟨#[]⟩ ∧ ts = []) ∨ ((k = 2 ∨ k = 3 ∨ k = 10) ∧ n = 0 ∧ isNameB nm = true ∧ ts = []) ∨ ((k = 6 ∨ k = 7) ∧ (-1000 ≤ n ∧ n ≤ 1000) ∧ nm = ⟨#[]⟩ ∧ ts = []) ∨
  (k = 11 ∧ n = 0 ∧ nm = ⟨#[]⟩ ∧ ∃ t, ts = [t]) ∨ ((k = 12 ∨ k = 13) ∧ n = 0 ∧ nm = ⟨#[]⟩ ∧ ∃ a b, ts = [a, b])
theorem two_parts : ∀ {ts : List Ot}, ts.length = 2 → ∃ a b, ts = [a, b]
  | [a, b], _ => ⟨a, b, rfl⟩
  | [], h => by simp at h
  | [_], h => by simp at h
  | _ :: _ :: _ :: _, h => by simp at h
theorem nodeOB_forms {k n : Int} {nm : ByteArray} {ts : List Ot} (h : nodeOB k n nm ts.length = true) : FormsO k n nm ts := by
  unfold nodeOB at h
  simp only [Bool.and_eq_true, decide_eq_true_eq] at h
  obtain ⟨⟨h1, h2⟩, h3⟩ := h
  unfold arityI at h2
  unfold numOB at h3
  by_cases hn : k = 2 ∨ k = 3 ∨ k = 10
  · rw [if_pos hn] at h1
    rw [if_neg (by omega), if_neg (by omega), if_pos (by omega)] at h2
    rw [if_neg (by omega), if_neg (by omega)] at h3
    exact Or.inr (Or.inl ⟨hn, by simpa using h3, h1, List.eq_nil_of_length_eq_zero (by omega)⟩)
  · rw [if_neg hn] at h1
    have hnm := osize_nil (by simpa using h1)
    by_cases h11 : k = 11
    · rw [if_pos h11] at h2
      rw [if_neg (by omega), if_neg (by omega)] at h3
      exact Or.inr (Or.inr (Or.inr (Or.inl ⟨h11, by simpa using h3, hnm, List.length_eq_one_iff.1 (by omega)⟩)))
    · rw [if_neg h11] at h2
      by_cases h12 : k = 12 ∨ k = 13
      · rw [if_pos h12] at h2
        rw [if_neg (by omega), if_neg (by omega)] at h3
        exact Or.inr (Or.inr (Or.inr (Or.inr ⟨h12, by simpa using h3, hnm, two_parts (by omega)⟩)))
      · rw [if_neg h12] at h2
        by_cases h10 : 1 ≤ k ∧ k ≤ 10
        · rw [if_pos h10] at h2
          have hts : ts = [] := List.eq_nil_of_length_eq_zero (by omega)
          by_cases h6 : k = 6
          · rw [if_pos h6] at h3
            simp only [decide_eq_true_eq] at h3
            exact Or.inr (Or.inr (Or.inl ⟨Or.inl h6, by omega, hnm, hts⟩))
          · rw [if_neg h6] at h3
            by_cases h7 : k = 7
            · rw [if_pos h7] at h3
              simp only [decide_eq_true_eq] at h3
              exact Or.inr (Or.inr (Or.inl ⟨Or.inr h7, h3, hnm, hts⟩))
            · rw [if_neg h7] at h3
              exact Or.inl ⟨by omega, by simpa using h3, hnm, hts⟩
        · rw [if_neg h10] at h2
          omega
theorem formOts_mem : ∀ {ts : List Ot}, formOts ts = true → ∀ t ∈ ts, formOt t = true
  | [], _, t, h => by cases h
  | a :: r, h, t, ht => by
    rw [formOts, Bool.and_eq_true] at h
    rcases List.mem_cons.1 ht with rfl | h2
    · exact h.1
    · exact formOts_mem h.2 t h2
theorem depthOts_mem : ∀ {ts : List Ot} {n : Nat}, depthOts ts ≤ n → ∀ t ∈ ts, depthOt t ≤ n
  | [], _, _, t, h => by cases h
  | a :: r, n, h, t, ht => by
    rw [depthOts] at h
    rcases List.mem_cons.1 ht with rfl | h2
    · omega
    · exact depthOts_mem (by omega) t h2

/-- A name. -/
def rdNm (k : Int) (l : List UInt8) : Option (Ot × List UInt8) := some (.mk k 0 ⟨(l.takeWhile wordC).toArray⟩ [], l.dropWhile wordC)
def rdNumO (k : Int) (l : List UInt8) : Option (Ot × List UInt8) :=
  match rdIntV l with
  | none => none
  | some (v, r) => some (.mk k v.num ⟨#[]⟩ [], r)
/-- The second optic of two, and the closing bracket. -/
def rdLast (f : List UInt8 → Option (Ot × List UInt8)) (k : Int) (a : Ot) (l : List UInt8) : Option (Ot × List UInt8) :=
  match f l with
  | none => none
  | some (b, q) => match eat 41 q with
    | none => none
    | some r => some (.mk k 0 ⟨#[]⟩ [a, b], r)
def rdTwo (f : List UInt8 → Option (Ot × List UInt8)) (l : List UInt8) : Option (Ot × List UInt8) :=
  match f l with
  | none => none
  | some (a, q) => match eat 59 q with
    | some r => rdLast f 12 a r
    | none => match eat 124 q with
      | none => none
      | some r => rdLast f 13 a r
def rdMapO (f : List UInt8 → Option (Ot × List UInt8)) (l : List UInt8) : Option (Ot × List UInt8) :=
  match f l with
  | none => none
  | some (t, r) => some (.mk 11 0 ⟨#[]⟩ [t], r)
/-- An optic of n levels at most is read, sign by sign. -/
def rdOt : Nat → List UInt8 → Option (Ot × List UInt8)
  | 0, _ => none
  | n + 1, l =>
    match eats [105, 100] l with
    | some r => some (.mk 1 0 ⟨#[]⟩ [], r)
    | none => match eats [46] l with
      | some r => rdNm 2 r
      | none => match eats [63] l with
        | some r => rdNm 3 r
        | none => match eats [101, 97, 99, 104] l with
          | some r => some (.mk 4 0 ⟨#[]⟩ [], r)
          | none => match eats [97, 108, 108] l with
            | some r => some (.mk 5 0 ⟨#[]⟩ [], r)
            | none => match eats [97, 116, 32] l with
              | some r => rdNumO 6 r
              | none => match eats [97, 100, 100, 32] l with
                | some r => rdNumO 7 r
                | none => match eats [110, 111, 116] l with
                  | some r => some (.mk 8 0 ⟨#[]⟩ [], r)
                  | none => match eats [114, 101, 118] l with
                    | some r => some (.mk 9 0 ⟨#[]⟩ [], r)
                    | none => match eats [119, 114, 97, 112, 32] l with
                      | some r => rdNm 10 r
                      | none => match eats [109, 97, 112, 32] l with
                        | some r => rdMapO (rdOt n) r
                        | none => match eat 40 l with
                          | none => none
                          | some r => rdTwo (rdOt n) r
/-- A number behind a blank. -/
def rdStepO (k : Int) (l : List UInt8) : Option (Ot × List UInt8) :=
  match eat 32 l with
  | none => none
  | some q => match unItoa (q.takeWhile intC) with
    | none => none
    | some n => some (.mk k n ⟨#[]⟩ [], q.dropWhile intC)
/-- What a word stands for. -/
def rdWordO (f : List UInt8 → Option (Ot × List UInt8)) (u l : List UInt8) : Option (Ot × List UInt8) :=
  if u = [105, 100] then some (.mk 1 0 ⟨#[]⟩ [], l)
  else if u = [101, 97, 99, 104] then some (.mk 4 0 ⟨#[]⟩ [], l)
  else if u = [97, 108, 108] then some (.mk 5 0 ⟨#[]⟩ [], l)
  else if u = [110, 111, 116] then some (.mk 8 0 ⟨#[]⟩ [], l)
  else if u = [114, 101, 118] then some (.mk 9 0 ⟨#[]⟩ [], l)
  else if u = [97, 116] then rdStepO 6 l
  else if u = [97, 100, 100] then rdStepO 7 l
  else if u = [119, 114, 97, 112] then (match eat 32 l with
    | none => none
    | some q => rdNm 10 q)
  else if u = [109, 97, 112] then (match eat 32 l with
    | none => none
    | some q => rdMapO f q)
  else none
/-- An optic of n levels at most is read, word by word. -/
def rdOi : Nat → List UInt8 → Option (Ot × List UInt8)
  | 0, _ => none
  | n + 1, l =>
    match eat 40 l with
    | some r => rdTwo (rdOi n) r
    | none => match eat 46 l with
      | some r => rdNm 2 r
      | none => match eat 63 l with
        | some r => rdNm 3 r
        | none => rdWordO (rdOi n) (l.takeWhile wordC) (l.dropWhile wordC)

/-- What is read is the text of what it is read as, and no shorter than the tree. -/
def SoundO (f : List UInt8 → Option (Ot × List UInt8)) : Prop := ∀ l t r, f l = some (t, r) → l = txtO t ++ r ∧ szOt t + 1 ≤ (txtO t).length
theorem name_len0 (l : List UInt8) : (⟨l.toArray⟩ : ByteArray).size = l.length := by simp [ByteArray.size]
theorem rdLast_sound {f : List UInt8 → Option (Ot × List UInt8)} (hf : SoundO f) (k : Int) (hk : k = 12 ∨ k = 13) (a : Ot) (ha : szOt a + 1 ≤ (txtO a).length) (l : List UInt8) (t : Ot) (r : List UInt8) (h : rdLast f k a l = some (t, r)) :
    40 :: (txtO a ++ (if k = 12 then 59 else 124) :: l) = txtO t ++ r ∧ szOt t + 1 ≤ (txtO t).length := by
  unfold rdLast at h
  split at h
  · cases h
  · rename_i b q hb
    split at h
    · cases h
    · rename_i r' hr
      cases h
      obtain ⟨h1, h2⟩ := hf _ _ _ hb
      rw [h1, eat_some hr]
      rcases hk with rfl | rfl
      · rw [txtO_12]
        refine ⟨by simp, ?_⟩
        simp [szOt, szOts, emptySize0]
        omega
      · rw [txtO_13]
        refine ⟨by simp, ?_⟩
        simp [szOt, szOts, emptySize0]
        omega
theorem rdTwo_sound {f : List UInt8 → Option (Ot × List UInt8)} (hf : SoundO f) (l : List UInt8) (t : Ot) (r : List UInt8) (h : rdTwo f l = some (t, r)) : 40 :: l = txtO t ++ r ∧ szOt t + 1 ≤ (txtO t).length := by
  unfold rdTwo at h
  split at h
  · cases h
  · rename_i a q ha
    obtain ⟨h1, h2⟩ := hf _ _ _ ha
    split at h
    · rename_i r' hr
      have h3 := rdLast_sound hf 12 (.inl rfl) a h2 _ _ _ h
      rw [if_pos rfl] at h3
      rw [h1, eat_some hr]
      exact h3
    · split at h
      · cases h
      · rename_i r' hr
        have h3 := rdLast_sound hf 13 (.inr rfl) a h2 _ _ _ h
        rw [if_neg (by decide)] at h3
        rw [h1, eat_some hr]
        exact h3
theorem rdMapO_sound {f : List UInt8 → Option (Ot × List UInt8)} (hf : SoundO f) (l : List UInt8) (t : Ot) (r : List UInt8) (h : rdMapO f l = some (t, r)) : 109 :: 97 :: 112 :: 32 :: l = txtO t ++ r ∧ szOt t + 1 ≤ (txtO t).length := by
  unfold rdMapO at h
  split at h
  · cases h
  · rename_i u q hu
    cases h
    obtain ⟨h1, h2⟩ := hf _ _ _ hu
    rw [txtO_11, h1]
    refine ⟨by simp, ?_⟩
    simp [szOt, szOts, emptySize0]
    omega
theorem rdNm_sound (k : Int) (pre : List UInt8) (hk : ∀ nm, txtO (.mk k 0 nm []) = pre ++ nm.data.toList) (hp : pre ≠ []) (l : List UInt8) (t : Ot) (r : List UInt8) (h : rdNm k l = some (t, r)) : pre ++ l = txtO t ++ r ∧ szOt t + 1 ≤ (txtO t).length := by
  unfold rdNm at h
  cases h
  rw [hk]
  refine ⟨by rw [List.append_assoc]; exact congrArg (pre ++ ·) (word_split l), ?_⟩
  have hl : 1 ≤ pre.length := by
    cases pre with
    | nil => exact absurd rfl hp
    | cons a q => simp
  simp [szOt, szOts, name_len0]
  omega
theorem rdNumO_sound (k : Int) (pre : List UInt8) (hk : ∀ n, txtO (.mk k n ⟨#[]⟩ []) = pre ++ Lib.itoa n) (hp : pre ≠ []) (l : List UInt8) (t : Ot) (r : List UInt8) (h : rdNumO k l = some (t, r)) : pre ++ l = txtO t ++ r ∧ szOt t + 1 ≤ (txtO t).length := by
  unfold rdNumO at h
  split at h
  · cases h
  · rename_i v q hv
    cases h
    have h1 := rdInt_sound _ _ _ hv
    have h2 : txtV v = Lib.itoa v.num := by
      unfold rdIntV at hv
      split at hv
      · split at hv
        · cases hv
        · cases hv
          simp [txtV, nodeTxtV, Va.num]
      · split at hv
        · cases hv
        · cases hv
          simp [txtV, nodeTxtV, Va.num]
    rw [hk, h1, h2]
    refine ⟨by simp, ?_⟩
    have hl : 1 ≤ pre.length := by
      cases pre with
      | nil => exact absurd rfl hp
      | cons a q => simp
    simp [szOt, szOts, emptySize0]
    omega
theorem rdStepO_sound (k : Int) (pre : List UInt8) (hk : ∀ n, txtO (.mk k n ⟨#[]⟩ []) = pre ++ 32 :: Lib.itoa n) (l : List UInt8) (t : Ot) (r : List UInt8) (h : rdStepO k l = some (t, r)) : pre ++ l = txtO t ++ r ∧ szOt t + 1 ≤ (txtO t).length := by
  unfold rdStepO at h
  split at h
  · cases h
  · rename_i q hq
    split at h
    · cases h
    · rename_i n hn
      cases h
      rw [hk, eat_some hq, ← (unItoa_some hn).1]
      refine ⟨by simp, ?_⟩
      simp [szOt, szOts, emptySize0]
      omega
theorem rdOt_sound (n : Nat) : SoundO (rdOt n) := by
  induction n with
  | zero =>
    intro l t r h
    cases h
  | succ n ih =>
    intro l t r h
    rw [rdOt] at h
    split at h
    · rename_i r' hr
      cases h
      rw [eats_some hr, txtO_1]
      exact ⟨rfl, by simp [szOt, szOts, emptySize0]⟩
    split at h
    · rename_i r' hr
      rw [eats_some hr]
      exact rdNm_sound 2 [46] txtO_2 (by simp) _ _ _ h
    split at h
    · rename_i r' hr
      rw [eats_some hr]
      exact rdNm_sound 3 [63] txtO_3 (by simp) _ _ _ h
    split at h
    · rename_i r' hr
      cases h
      rw [eats_some hr, txtO_4]
      exact ⟨rfl, by simp [szOt, szOts, emptySize0]⟩
    split at h
    · rename_i r' hr
      cases h
      rw [eats_some hr, txtO_5]
      exact ⟨rfl, by simp [szOt, szOts, emptySize0]⟩
    split at h
    · rename_i r' hr
      rw [eats_some hr]
      exact rdNumO_sound 6 [97, 116, 32] txtO_6 (by simp) _ _ _ h
    split at h
    · rename_i r' hr
      rw [eats_some hr]
      exact rdNumO_sound 7 [97, 100, 100, 32] txtO_7 (by simp) _ _ _ h
    split at h
    · rename_i r' hr
      cases h
      rw [eats_some hr, txtO_8]
      exact ⟨rfl, by simp [szOt, szOts, emptySize0]⟩
    split at h
    · rename_i r' hr
      cases h
      rw [eats_some hr, txtO_9]
      exact ⟨rfl, by simp [szOt, szOts, emptySize0]⟩
    split at h
    · rename_i r' hr
      rw [eats_some hr]
      exact rdNm_sound 10 [119, 114, 97, 112, 32] txtO_10 (by simp) _ _ _ h
    split at h
    · rename_i r' hr
      rw [eats_some hr]
      exact rdMapO_sound ih _ _ _ h
    split at h
    · cases h
    · rename_i r' hr
      rw [eat_some hr]
      exact rdTwo_sound ih _ _ _ h
theorem rdWordO_sound {f : List UInt8 → Option (Ot × List UInt8)} (hf : SoundO f) (u l : List UInt8) (t : Ot) (r : List UInt8) (h : rdWordO f u l = some (t, r)) : u ++ l = txtO t ++ r ∧ szOt t + 1 ≤ (txtO t).length := by
  unfold rdWordO at h
  split at h
  · rename_i hu
    cases h
    rw [hu, txtO_1]
    exact ⟨rfl, by simp [szOt, szOts, emptySize0]⟩
  split at h
  · rename_i hu
    cases h
    rw [hu, txtO_4]
    exact ⟨rfl, by simp [szOt, szOts, emptySize0]⟩
  split at h
  · rename_i hu
    cases h
    rw [hu, txtO_5]
    exact ⟨rfl, by simp [szOt, szOts, emptySize0]⟩
  split at h
  · rename_i hu
    cases h
    rw [hu, txtO_8]
    exact ⟨rfl, by simp [szOt, szOts, emptySize0]⟩
  split at h
  · rename_i hu
    cases h
    rw [hu, txtO_9]
    exact ⟨rfl, by simp [szOt, szOts, emptySize0]⟩
  split at h
  · rename_i hu
    rw [hu]
    exact rdStepO_sound 6 [97, 116] txtO_6 _ _ _ h
  split at h
  · rename_i hu
    rw [hu]
    exact rdStepO_sound 7 [97, 100, 100] txtO_7 _ _ _ h
  split at h
  · rename_i hu
    split at h
    · cases h
    · rename_i q hq
      rw [hu, eat_some hq]
      exact rdNm_sound 10 [119, 114, 97, 112, 32] txtO_10 (by simp) _ _ _ h
  split at h
  · rename_i hu
    split at h
    · cases h
    · rename_i q hq
      rw [hu, eat_some hq]
      exact rdMapO_sound hf _ _ _ h
  · cases h
theorem rdOi_sound (n : Nat) : SoundO (rdOi n) := by
  induction n with
  | zero =>
    intro l t r h
    cases h
  | succ n ih =>
    intro l t r h
    rw [rdOi] at h
    split at h
    · rename_i r' hr
      rw [eat_some hr]
      exact rdTwo_sound ih _ _ _ h
    split at h
    · rename_i r' hr
      rw [eat_some hr]
      exact rdNm_sound 2 [46] txtO_2 (by simp) _ _ _ h
    split at h
    · rename_i r' hr
      rw [eat_some hr]
      exact rdNm_sound 3 [63] txtO_3 (by simp) _ _ _ h
    · have h1 := rdWordO_sound ih _ _ _ _ h
      rw [List.takeWhile_append_dropWhile] at h1
      exact h1

/-- What comes behind a text: no letter, no digit, no minus. -/
def StopO (r : List UInt8) : Prop := ∀ c, r.head? = some c → wordC c = false ∧ intC c = false
theorem stopO_cons (c : UInt8) (r : List UInt8) (h : wordC c = false) (h2 : intC c = false) : StopO (c :: r) := fun x hx => by
  simp at hx
  rw [← hx]
  exact ⟨h, h2⟩
theorem StopO.dig {r : List UInt8} (h : StopO r) : Stop r := fun c hc => by
  have := (h c hc).2
  cases hd : digC c with
  | false => rfl
  | true => rw [digC_intC hd] at this; cases this
theorem take_run {C : UInt8 → Bool} {l r : List UInt8} (h : ∀ c ∈ l, C c = true) (hr : ∀ c, r.head? = some c → C c = false) : (l ++ r).takeWhile C = l ∧ (l ++ r).dropWhile C = r := by
  induction l with
  | nil =>
    cases r with
    | nil => exact ⟨rfl, rfl⟩
    | cons c q =>
      have h1 := hr c rfl
      simp [h1]
  | cons a q ih =>
    have h1 := ih fun c hc => h c (by simp [hc])
    have h2 := h a (by simp)
    simp [h2, h1]
theorem itoa_ints (n : Int) : ∀ c ∈ Lib.itoa n, intC c = true := by
  intro c hc
  by_cases h : n < 0
  · rw [Lib.itoa, if_pos h] at hc
    rcases List.mem_cons.1 hc with rfl | hc
    · rfl
    · exact digC_intC (digs_all _ c hc)
  · rw [Lib.itoa, if_neg h] at hc
    exact digC_intC (digs_all _ c hc)
def ReadsO (f : List UInt8 → Option (Ot × List UInt8)) (t : Ot) : Prop := ∀ r, StopO r → f (txtO t ++ r) = some (t, r)
theorem nm_reads (k : Int) (nm : ByteArray) (h : isNameB nm = true) (r : List UInt8) (hr : StopO r) : rdNm k (nm.data.toList ++ r) = some (.mk k 0 nm [], r) := by
  have h1 := take_run (name_word nm h) fun c hc => (hr c hc).1
  rw [rdNm, h1.1, h1.2]
theorem numO_reads (k n : Int) (h : -1000 ≤ n ∧ n ≤ 1000) (r : List UInt8) (hr : StopO r) : rdNumO k (Lib.itoa n ++ r) = some (.mk k n ⟨#[]⟩ [], r) := by
  rw [rdNumO, int_reads n r (by omega) (by omega) hr.dig]
  rfl
theorem stepO_reads (k n : Int) (h : -1000 ≤ n ∧ n ≤ 1000) (r : List UInt8) (hr : StopO r) : rdStepO k (32 :: (Lib.itoa n ++ r)) = some (.mk k n ⟨#[]⟩ [], r) := by
  have h1 := take_run (itoa_ints n) fun c hc => (hr c hc).2
  rw [rdStepO, eat_cons]
  simp only [h1.1, h1.2]
  rw [unItoa_of rfl (by omega) (by omega)]
theorem two_reads {f : List UInt8 → Option (Ot × List UInt8)} (k : Int) (hk : k = 12 ∨ k = 13) (a b : Ot) (ha : ReadsO f a) (hb : ReadsO f b) (r : List UInt8) :
    rdTwo f (txtO a ++ (if k = 12 then 59 else 124) :: (txtO b ++ 41 :: r)) = some (.mk k 0 ⟨#[]⟩ [a, b], r) := by
  rcases hk with rfl | rfl
  · rw [if_pos rfl, rdTwo, ha _ (stopO_cons 59 _ (by decide) (by decide))]
    simp only [eat_cons]
    rw [rdLast, hb _ (stopO_cons 41 _ (by decide) (by decide))]
    simp only [eat_cons]
  · rw [if_neg (by decide), rdTwo, ha _ (stopO_cons 124 _ (by decide) (by decide))]
    simp only [eat_cons, show eat 59 (124 :: (txtO b ++ 41 :: r)) = none from eat_other _ (by decide)]
    rw [rdLast, hb _ (stopO_cons 41 _ (by decide) (by decide))]
    simp only [eat_cons]
theorem mapO_reads {f : List UInt8 → Option (Ot × List UInt8)} (t : Ot) (ht : ReadsO f t) (r : List UInt8) (hr : StopO r) : rdMapO f (txtO t ++ r) = some (.mk 11 0 ⟨#[]⟩ [t], r) := by rw [rdMapO, ht r hr]
theorem eats_miss (a : UInt8) (p : List UInt8) (c : UInt8) (l : List UInt8) (h : a ≠ c) : eats (a :: p) (c :: l) = none := by
  have : (a == c) = false := by rw [beq_eq_false_iff_ne]; exact h
  simp [eats, List.isPrefixOf, this]
theorem eats_next (a : UInt8) (p l : List UInt8) : eats (a :: p) (a :: l) = eats p l := by
  simp [eats, List.isPrefixOf]
theorem eats_nil (l : List UInt8) : eats [] l = some l := by simp [eats]
theorem rdOt_full (n : Nat) : ∀ (t : Ot), formOt t = true → depthOt t ≤ n → ReadsO (rdOt n) t := by
  induction n with
  | zero =>
    intro t _ h
    rw [depthOt_eq] at h
    omega
  | succ n ih =>
    intro t hf hd r hr
    cases t with
    | mk k n0 nm ts =>
      rw [formOt, Bool.and_eq_true] at hf
      rw [depthOt] at hd
      have hts : ∀ t ∈ ts, ReadsO (rdOt n) t := fun t ht => ih t (formOts_mem hf.1 t ht) (depthOts_mem (by omega) t ht)
      rcases nodeOB_forms hf.2 with ⟨hk, rfl, rfl, rfl⟩ | ⟨hk, rfl, hnm, rfl⟩ | ⟨hk, hn, rfl, rfl⟩ | ⟨rfl, rfl, rfl, t, rfl⟩ | ⟨hk, rfl, rfl, a, b, rfl⟩
      · rcases hk with rfl | rfl | rfl | rfl | rfl
        · rw [txtO_1]
          simp [rdOt, eats_next, eats_nil]
        · rw [txtO_4]
          simp [rdOt, eats_next, eats_nil, eats_miss]
        · rw [txtO_5]
          simp [rdOt, eats_next, eats_nil, eats_miss]
        · rw [txtO_8]
          simp [rdOt, eats_next, eats_nil, eats_miss]
        · rw [txtO_9]
          simp [rdOt, eats_next, eats_nil, eats_miss]
      · rcases hk with rfl | rfl | rfl
        · rw [txtO_2]
          simp [rdOt, eats_next, eats_nil, eats_miss, nm_reads _ nm hnm r hr]
        · rw [txtO_3]
          simp [rdOt, eats_next, eats_nil, eats_miss, nm_reads _ nm hnm r hr]
        · rw [txtO_10]
          simp [rdOt, eats_next, eats_nil, eats_miss, nm_reads _ nm hnm r hr]
      · rcases hk with rfl | rfl
        · rw [txtO_6]
          simp [rdOt, eats_next, eats_nil, eats_miss, numO_reads _ n0 hn r hr]
        · rw [txtO_7]
          simp [rdOt, eats_next, eats_nil, eats_miss, numO_reads _ n0 hn r hr]
      · rw [txtO_11]
        simp [rdOt, eats_next, eats_nil, eats_miss, mapO_reads t (hts t (by simp)) r hr]
      · have h2 := two_reads k hk a b (hts a (by simp)) (hts b (by simp)) r
        rcases hk with rfl | rfl
        · rw [if_pos rfl] at h2
          rw [txtO_12]
          simp [rdOt, eats_miss, eat_cons, h2]
        · rw [if_neg (by decide)] at h2
          rw [txtO_13]
          simp [rdOt, eats_miss, eat_cons, h2]
theorem word_run (u r : List UInt8) (hu : u.all wordC = true) (hr : ∀ c, r.head? = some c → wordC c = false) : (u ++ r).takeWhile wordC = u ∧ (u ++ r).dropWhile wordC = r :=
  take_run (fun c hc => List.all_eq_true.1 hu c hc) hr
theorem blank_stop (l : List UInt8) : ∀ c, (32 :: l : List UInt8).head? = some c → wordC c = false := fun c hc => by
  simp at hc
  rw [← hc]
  rfl
theorem rdOi_word (n : Nat) (c : UInt8) (u r : List UInt8) (hu : (c :: u).all wordC = true) (hr : ∀ c, r.head? = some c → wordC c = false) : rdOi (n + 1) (c :: (u ++ r)) = rdWordO (rdOi n) (c :: u) r := by
  have h1 := word_run (c :: u) r hu hr
  have hc : wordC c = true := List.all_eq_true.1 hu c (by simp)
  have ne : ∀ x : UInt8, wordC x = false → c ≠ x := fun x hx e => by rw [e, hx] at hc; cases hc
  rw [List.cons_append] at h1
  rw [rdOi, eat_other _ (ne 40 (by decide)), eat_other _ (ne 46 (by decide)), eat_other _ (ne 63 (by decide))]
  simp only [h1.1, h1.2]
theorem rdOi_full (n : Nat) : ∀ (t : Ot), formOt t = true → depthOt t ≤ n → ReadsO (rdOi n) t := by
  induction n with
  | zero =>
    intro t _ h
    rw [depthOt_eq] at h
    omega
  | succ n ih =>
    intro t hf hd r hr
    have hr1 : ∀ c, r.head? = some c → wordC c = false := fun c hc => (hr c hc).1
    cases t with
    | mk k n0 nm ts =>
      rw [formOt, Bool.and_eq_true] at hf
      rw [depthOt] at hd
      have hts : ∀ t ∈ ts, ReadsO (rdOi n) t := fun t ht => ih t (formOts_mem hf.1 t ht) (depthOts_mem (by omega) t ht)
      rcases nodeOB_forms hf.2 with ⟨hk, rfl, rfl, rfl⟩ | ⟨hk, rfl, hnm, rfl⟩ | ⟨hk, hn, rfl, rfl⟩ | ⟨rfl, rfl, rfl, t, rfl⟩ | ⟨hk, rfl, rfl, a, b, rfl⟩
      · rcases hk with rfl | rfl | rfl | rfl | rfl
        · rw [txtO_1]
          exact rdOi_word n 105 [100] r (by decide) hr1
        · rw [txtO_4]
          exact rdOi_word n 101 [97, 99, 104] r (by decide) hr1
        · rw [txtO_5]
          exact rdOi_word n 97 [108, 108] r (by decide) hr1
        · rw [txtO_8]
          exact rdOi_word n 110 [111, 116] r (by decide) hr1
        · rw [txtO_9]
          exact rdOi_word n 114 [101, 118] r (by decide) hr1
      · rcases hk with rfl | rfl | rfl
        · rw [txtO_2]
          simp [rdOi, eat, nm_reads _ nm hnm r hr]
        · rw [txtO_3]
          simp [rdOi, eat, nm_reads _ nm hnm r hr]
        · rw [txtO_10]
          refine (rdOi_word n 119 [114, 97, 112] (32 :: (nm.data.toList ++ r)) (by decide) (blank_stop _)).trans ?_
          simp [rdWordO, eat_cons, nm_reads _ nm hnm r hr]
      · rcases hk with rfl | rfl
        · rw [txtO_6]
          refine (rdOi_word n 97 [116] (32 :: (Lib.itoa n0 ++ r)) (by decide) (blank_stop _)).trans ?_
          simp [rdWordO, stepO_reads _ n0 hn r hr]
        · rw [txtO_7]
          refine (rdOi_word n 97 [100, 100] (32 :: (Lib.itoa n0 ++ r)) (by decide) (blank_stop _)).trans ?_
          simp [rdWordO, stepO_reads _ n0 hn r hr]
      · rw [txtO_11]
        refine (rdOi_word n 109 [97, 112] (32 :: (txtO t ++ r)) (by decide) (blank_stop _)).trans ?_
        simp [rdWordO, eat_cons, mapO_reads t (hts t (by simp)) r hr]
      · have h2 := two_reads k hk a b (hts a (by simp)) (hts b (by simp)) r
        rcases hk with rfl | rfl
        · rw [if_pos rfl] at h2
          rw [txtO_12]
          simp [rdOi, eat_cons, h2]
        · rw [if_neg (by decide)] at h2
          rw [txtO_13]
          simp [rdOi, eat_cons, h2]

/-- An optic: few nodes, few levels, each of one of the forms. -/
theorem opticB_parts {t : Ot} (h : opticB t = true) : sizeOt t ≤ 20 ∧ depthOt t ≤ 10 ∧ formOt t = true := by
  unfold opticB at h
  simp only [Bool.and_eq_true, decide_eq_true_eq] at h
  exact ⟨h.1.1, h.1.2, h.2⟩
/-- The optic of a text. -/
def parseOB (s : ByteArray) : Option Ot :=
  match rdOt 10 s.data.toList with
  | some (t, []) => if opticB t then some t else none
  | _ => none
theorem parseOB_some {s : ByteArray} {t : Ot} (h : parseOB s = some t) : opticB t = true ∧ txtO t = s.data.toList := by
  unfold parseOB at h
  split at h
  · rename_i t' e
    split at h
    · cases h
      have := (rdOt_sound 10 _ _ _ e).1
      simp_all
    · cases h
  · cases h
theorem parseOB_of {s : ByteArray} {t : Ot} (hv : opticB t = true) (ht : txtO t = s.data.toList) : parseOB s = some t := by
  obtain ⟨_, h1, h2⟩ := opticB_parts hv
  have h3 := rdOt_full 10 t h2 h1 [] (fun c hc => by cases hc)
  rw [List.append_nil, ht] at h3
  unfold parseOB
  rw [h3]
  simp [hv]
theorem parseOB_none {s : ByteArray} (h : ∀ t, opticB t = true → txtO t = s.data.toList → False) : parseOB s = none := by
  cases hp : parseOB s with
  | none => rfl
  | some t => exact (h t (parseOB_some hp).1 (parseOB_some hp).2).elim
/-- The other reader reads the same. -/
theorem parseOB_oi (s : ByteArray) : parseOB s = match rdOi 10 s.data.toList with
  | some (t, []) => if opticB t then some t else none
  | _ => none := by
  split
  · rename_i t e
    split
    · rename_i hv
      have := (rdOi_sound 10 _ _ _ e).1
      exact parseOB_of hv (by simpa using this.symm)
    · rename_i hv
      refine parseOB_none fun u hu ht => ?_
      obtain ⟨_, h1, h2⟩ := opticB_parts hu
      have h3 := rdOi_full 10 u h2 h1 [] (fun c hc => by cases hc)
      rw [List.append_nil, ht, e] at h3
      cases h3
      exact hv hu
  · rename_i hne
    refine parseOB_none fun u hu ht => ?_
    obtain ⟨_, h1, h2⟩ := opticB_parts hu
    have h3 := rdOi_full 10 u h2 h1 [] (fun c hc => by cases hc)
    rw [List.append_nil, ht] at h3
    exact hne u h3
/-- The text of an optic; nothing of another tree. -/
def formatOB (t : Ot) : ByteArray := if opticB t then ⟨(txtO t).toArray⟩ else ⟨#[]⟩
theorem ite_len {c : Prop} [Decidable c] {a b : List UInt8} (ha : 1 ≤ a.length) (hb : 1 ≤ b.length) : 1 ≤ (if c then a else b).length := by
  split <;> assumption
theorem txtO_pos (t : Ot) : 1 ≤ (txtO t).length := by
  cases t with
  | mk k n nm ts =>
    rw [txtO]
    unfold nodeTxtO
    repeat' apply ite_len
    all_goals exact Nat.le_add_left 1 _
/-- How long a text is. -/
theorem txtO_len (t : Ot) : formOt t = true → (txtO t).length ≤ 24 * sizeOt t := by
  induction t using Ot.ind with
  | h k n nm ts ih =>
    intro hf
    rw [formOt, Bool.and_eq_true] at hf
    have hts : ∀ i, (h : i < ts.length) → (txtO ts[i]).length ≤ 24 * sizeOt ts[i] := fun i hi => ih i hi (formOts_at ts hf.1 i hi)
    rw [sizeOt]
    rcases nodeOB_forms hf.2 with ⟨hk, rfl, rfl, rfl⟩ | ⟨hk, rfl, hnm, rfl⟩ | ⟨hk, hn, rfl, rfl⟩ | ⟨rfl, rfl, rfl, t, rfl⟩ | ⟨hk, rfl, rfl, a, b, rfl⟩
    · rcases hk with rfl | rfl | rfl | rfl | rfl <;> simp [txtO, nodeTxtO, sizeOts]
    · have h3 := name_len hnm
      have h4 : nm.data.toList.length = nm.size := by simp
      rcases hk with rfl | rfl | rfl
      · rw [txtO_2]
        simp only [List.length_cons]
        omega
      · rw [txtO_3]
        simp only [List.length_cons]
        omega
      · rw [txtO_10]
        simp only [List.length_cons]
        omega
    · have h3 := itoa_len n (by omega)
      rcases hk with rfl | rfl
      · rw [txtO_6]
        simp only [List.length_cons]
        omega
      · rw [txtO_7]
        simp only [List.length_cons]
        omega
    · have h1 := hts 0 (by simp)
      rw [txtO_11]
      simp only [List.length_cons, sizeOts, List.getElem_cons_zero] at h1 ⊢
      omega
    · have h1 := hts 0 (by simp)
      have h2 := hts 1 (by simp)
      rcases hk with rfl | rfl
      · rw [txtO_12]
        simp only [List.length_cons, List.length_append, List.length_nil, sizeOts, List.getElem_cons_zero, List.getElem_cons_succ] at h1 h2 ⊢
        omega
      · rw [txtO_13]
        simp only [List.length_cons, List.length_append, List.length_nil, sizeOts, List.getElem_cons_zero, List.getElem_cons_succ] at h1 h2 ⊢
        omega

end Go.Proofs.YtlmbnefoobameaaGreatDoor
end

section
namespace Go.Proofs
open Go.Shelf
def Tryz.laysM171_ren : Go.Shelf.Ren := ⟨fun | 171 => 63 | 243 => 74 | 246 => 84 | 283 => 89 | 284 => 90 | 285 => 91 | 286 => 92 | 129 => 95 | 317 => 94 | 318 => 96 | 319 => 97 | 320 => 98 | 337 => 101 | 338 => 102 | n => n, fun | 3 => 3 | 9 => 9 | 2 => 2 | 4 => 4 | 171 => 117 | 0 => 0 | 53 => 118 | 37 => 22 | 5 => 5 | 173 => 121 | 212 => 128 | 51 => 129 | 20 => 20 | 213 => 130 | 46 => 97 | 232 => 141 | 233 => 142 | n => n, fun | 17 => 0 | 18 => 1 | 19 => 2 | n => n⟩
theorem Tryz.laysM171 : Go.Proofs.LaysM.n171 Tryz.prog Tryz.laysM171_ren := {
  mixed := by kernel_rfl
  f129 := Tryz.func95.trans (congrArg some (by kernel_rfl))
  f171 := Tryz.func63.trans (congrArg some (by kernel_rfl))
  f243 := Tryz.func74.trans (congrArg some (by kernel_rfl))
  f246 := Tryz.func84.trans (congrArg some (by kernel_rfl))
  f283 := Tryz.func89.trans (congrArg some (by kernel_rfl))
  f284 := Tryz.func90.trans (congrArg some (by kernel_rfl))
  f285 := Tryz.func91.trans (congrArg some (by kernel_rfl))
  f286 := Tryz.func92.trans (congrArg some (by kernel_rfl))
  f317 := Tryz.func94.trans (congrArg some (by kernel_rfl))
  f318 := Tryz.func96.trans (congrArg some (by kernel_rfl))
  f319 := Tryz.func97.trans (congrArg some (by kernel_rfl))
  f320 := Tryz.func98.trans (congrArg some (by kernel_rfl))
  f337 := Tryz.func101.trans (congrArg some (by kernel_rfl))
  f338 := Tryz.func102.trans (congrArg some (by kernel_rfl))
  t0 := Tryz.underlying0
  a0 := Tryz.isAgg0
  z0 := Tryz.sizeOf0
  v0 := Tryz.zeroValue0
  t2 := Tryz.underlying2
  a2 := Tryz.isAgg2
  z2 := Tryz.sizeOf2
  v2 := Tryz.zeroValue2
  t3 := Tryz.underlying3
  a3 := Tryz.isAgg3
  z3 := Tryz.sizeOf3
  v3 := Tryz.zeroValue3
  t4 := Tryz.underlying4
  a4 := Tryz.isAgg4
  z4 := Tryz.sizeOf4
  v4 := Tryz.zeroValue4
  t5 := Tryz.underlying5
  a5 := Tryz.isAgg5
  z5 := Tryz.sizeOf5
  v5 := Tryz.zeroValue5
  t9 := Tryz.underlying9
  a9 := Tryz.isAgg9
  z9 := Tryz.sizeOf9
  v9 := Tryz.zeroValue9
  t20 := Tryz.underlying20
  a20 := Tryz.isAgg20
  z20 := Tryz.sizeOf20
  v20 := Tryz.zeroValue20
  t37 := Tryz.underlying22
  a37 := Tryz.isAgg22
  z37 := Tryz.sizeOf22
  v37 := Tryz.zeroValue22
  t46 := Tryz.underlying97
  a46 := Tryz.isAgg97
  z46 := Tryz.sizeOf97
  v46 := Tryz.zeroValue97
  t51 := Tryz.underlying129
  a51 := Tryz.isAgg129
  z51 := Tryz.sizeOf129
  v51 := Tryz.zeroValue129
  t53 := Tryz.underlying118
  a53 := Tryz.isAgg118
  z53 := Tryz.sizeOf118
  v53 := Tryz.zeroValue118
  t171 := Tryz.underlying117
  a171 := Tryz.isAgg117
  z171 := Tryz.sizeOf117
  v171 := Tryz.zeroValue117
  t173 := Tryz.underlying121
  a173 := Tryz.isAgg121
  z173 := Tryz.sizeOf121
  v173 := Tryz.zeroValue121
  t212 := Tryz.underlying128
  a212 := Tryz.isAgg128
  z212 := Tryz.sizeOf128
  v212 := Tryz.zeroValue128
  t213 := Tryz.underlying130
  a213 := Tryz.isAgg130
  z213 := Tryz.sizeOf130
  t232 := Tryz.underlying141
  a232 := Tryz.isAgg141
  z232 := Tryz.sizeOf141
  v232 := Tryz.zeroValue141
  t233 := Tryz.underlying142
  a233 := Tryz.isAgg142
  z233 := Tryz.sizeOf142
  v233 := Tryz.zeroValue142
  g17 := by kernel_rfl
  g18 := by kernel_rfl
  g19 := by kernel_rfl
  i0 := by kernel_rfl
  i2 := by kernel_rfl
  i3 := by kernel_rfl
  i4 := by kernel_rfl
  i5 := by kernel_rfl
  i9 := by kernel_rfl
  i20 := by kernel_rfl
  i37 := by kernel_rfl
  i46 := by kernel_rfl
  i51 := by kernel_rfl
  i53 := by kernel_rfl
  i171 := by kernel_rfl
  i173 := by kernel_rfl
  i212 := by kernel_rfl
  i232 := by kernel_rfl
  i233 := by kernel_rfl
  m17 := by kernel_rfl
  m18 := by kernel_rfl
  m19 := by kernel_rfl }
open Go.RowKit Go.Sort Go.Lib in
theorem Tryz.strconv_Itoa (n : Int) (h0 : -9223372036854775808 ≤ n) (h1 : n ≤ 9223372036854775807) (w : World) (htab : Lib.TabIs Tryz.prog w "internal/strconv.uint64pow10" .u64 Lib.pow10Tab) :
    Calls Tryz.prog 63 #[.int .i64 n] w fun e w' => e = .returned (.string ⟨(Lib.itoa n).toArray⟩) ∧ ∃ k os, w' = grow (w.drewN k) os := Any.strconv_Itoa Tryz.laysM171 n h0 h1 w htab
end Go.Proofs
end

section
namespace Go.Proofs.YtlmbnefoobameaaGreatDoor
open Go.RowKit

set_option maxHeartbeats 400000 in
set_option maxRecDepth 100000 in
theorem specFormatInt_pos (n : Nat) (w : World) (h0 : 0 < n) (h1 : n ≤ 2 ^ 63 - 1) :
    Calls Tryz.prog 45 #[.int .i64 n] w fun e w' => e = .returned (.string ⟨(nz n).toArray⟩) ∧ Below w.heap.size w w' := by
  have hn0 : ((n : Int) == 0) = false := by simp; omega
  have hnl : ¬ (n : Int) < 0 := by omega
  have hcv := run_convert_byte (P := Tryz.prog) Tryz.underlying22 Tryz.underlying5 Tryz.underlying9
  go_enter Tryz.func45, Tryz.ntmps45
  go_wp2
  go_loopw [0, 4] (fun m s wr => ∃ (u : Nat) (out : List UInt8), m = .int .i64 (u : Int) ∧ u ≤ n ∧ s = .string ⟨out.toArray⟩ ∧ nz n = nz u ++ out ∧ Below w.heap.size w wr) (fun m _ _ => (intOf m).toNat)
  case atStart => exact ⟨n, [], rfl, Nat.le_refl _, rfl, by simp, Below.refl _ _⟩
  case round =>
    obtain ⟨u, out, rfl, hu, rfl, hout, hb⟩ := hrel
    have hO := Lib.hid hout
    clear hout
    by_cases hz : u = 0
    · subst hz
      have hz0 : ((0 : Int) != 0) = false := by decide
      go_wp2
      go_ret
      have hE : nz n = out := by
        have := hO.out
        rw [show nz 0 = [] from rfl, List.nil_append] at this
        exact this
      exact ⟨by rw [hE]; rfl, hb⟩
    · have hz0 : ((u : Int) != 0) = true := by simp; omega
      have hb1 : u < 2 ^ 63 := by omega
      have hlen : out.length + 1 ≤ n := by
        have h1 := nz_len n
        have h2 := nz_pos u (by omega)
        rw [hO.out, List.length_append] at h1
        omega
      go_wp2
      go_roundw
      case rel => exact ⟨u / 10, _, by go_num, by omega, rfl, by rw [hO.out, nz_step u (by omega)]; simp, hb.alloc hb.size _⟩
      case measure => simp [intOf]; omega

theorem tmod_neg10 (u : Nat) : (-(u : Int)).tmod 10 = -((u : Int) % 10) := by rw [Int.neg_tmod, Int.tmod_eq_emod_of_nonneg (by omega)]
theorem tdiv_neg10 (u : Nat) : (-(u : Int)).tdiv 10 = -((u : Int) / 10) := by rw [Int.neg_tdiv, Int.tdiv_eq_ediv_of_nonneg (by omega)]

set_option maxHeartbeats 400000 in
set_option maxRecDepth 100000 in
theorem specFormatInt_neg (n : Nat) (w : World) (h0 : 0 < n) (h1 : n ≤ 2 ^ 63) :
    Calls Tryz.prog 45 #[.int .i64 (-(n : Int))] w fun e w' => e = .returned (.string ⟨(45 :: nz n).toArray⟩) ∧ Below w.heap.size w w' := by
  have hn0 : (-(n : Int) == 0) = false := by simp; omega
  have hcv := run_convert_byte (P := Tryz.prog) Tryz.underlying22 Tryz.underlying5 Tryz.underlying9
  go_enter Tryz.func45, Tryz.ntmps45
  go_wp2
  go_loopw [0, 4] (fun m s wr => ∃ (u : Nat) (out : List UInt8), m = .int .i64 (-(u : Int)) ∧ u ≤ n ∧ s = .string ⟨out.toArray⟩ ∧ nz n = nz u ++ out ∧ Below w.heap.size w wr) (fun m _ _ => (intOf m).natAbs)
  case atStart => exact ⟨n, [], rfl, Nat.le_refl _, rfl, by simp, Below.refl _ _⟩
  case round =>
    obtain ⟨u, out, rfl, hu, rfl, hout, hb⟩ := hrel
    have hO := Lib.hid hout
    clear hout
    have hlen0 : out.length ≤ 20 := by
      have h1 := nz_len_of 20 n (by omega)
      rw [hO.out, List.length_append] at h1
      omega
    by_cases hz : u = 0
    · subst hz
      go_wp2
      go_ret
      have hE : nz n = out := by
        have := hO.out
        rw [show nz 0 = [] from rfl, List.nil_append] at this
        exact this
      refine ⟨?_, hb⟩
      rw [hE]
      rfl
    · have hz0 : (-(u : Int) != 0) = true := by simp; omega
      have hb1 : u ≤ 2 ^ 63 := by omega
      have hd := tmod_neg10 u
      have hq := tdiv_neg10 u
      by_cases h10 : (u : Int) % 10 = 0
      · have hD := Lib.hid h10
        have hneg : ¬ -((u : Int) % 10) < 0 := by omega
        clear h10
        go_wp2
        go_roundw
        case rel => exact ⟨u / 10, _, by go_num, by omega, rfl, by rw [hO.out, nz_step u (by omega), show u % 10 = 0 from by have := hD.out; omega, show ((u : Int) % 10) = 0 from hD.out]; simp, hb.alloc hb.size _⟩
        case measure => simp [intOf]; omega
      · have hneg : -((u : Int) % 10) < 0 := by omega
        clear h10
        go_wp2
        go_roundw
        case rel => exact ⟨u / 10, _, by go_num, by omega, rfl, by rw [hO.out, nz_step u (by omega)]; simp, hb.alloc hb.size _⟩
        case measure => simp [intOf]; omega

end Go.Proofs.YtlmbnefoobameaaGreatDoor
end

section
namespace Go.Proofs.YtlmbnefoobameaaGreatDoor
open Go.RowKit Go.Sort

theorem specFormatInt_any (n : Int) (w : World) (h0 : -(2 ^ 63) ≤ n) (h1 : n ≤ 2 ^ 63 - 1) :
    Calls Tryz.prog 45 #[.int .i64 n] w fun e w' => e = .returned (.string ⟨(Lib.itoa n).toArray⟩) ∧ Below w.heap.size w w' := by
  rcases Int.lt_trichotomy n 0 with h | h | h
  · obtain ⟨u, rfl⟩ : ∃ u : Nat, n = -(u : Int) := ⟨n.natAbs, by omega⟩
    refine (specFormatInt_neg u w (by omega) (by omega)).mono fun e w' ⟨he, hb⟩ => ⟨?_, hb⟩
    rw [he, Lib.itoa, if_pos h, show (-(u : Int)).natAbs = u from by omega, nz, if_neg (by omega)]
  · subst h
    have h00 : ((0 : Int) == 0) = true := by decide
    go_enter Tryz.func45, Tryz.ntmps45
    go_wp2
    go_ret
    refine ⟨?_, Below.refl _ _⟩
    have : (Lib.itoa 0) = [48] := by rw [Lib.itoa, if_neg (by omega), Lib.decDigits, dif_pos (by decide)]; rfl
    rw [this]
    rfl
  · obtain ⟨u, rfl⟩ : ∃ u : Nat, n = (u : Int) := ⟨n.toNat, by omega⟩
    refine (specFormatInt_pos u w (by omega) (by omega)).mono fun e w' ⟨he, hb⟩ => ⟨?_, hb⟩
    rw [he, Lib.itoa, if_neg (by omega), Int.toNat_natCast, nz, if_neg (by omega)]

/-- The table that strconv reads. -/
def Pow10At (w : World) : Prop := Lib.TabIs Tryz.prog w "internal/strconv.uint64pow10" .u64 Lib.pow10Tab

theorem grow_below (w : World) (k : Nat) (os : Array Obj) : Below w.heap.size w (grow (w.drewN k) os) :=
  ⟨rfl, rfl, rfl, by simp [grow], fun i hi => by simp [grow, Array.getElem?_append, hi]⟩

theorem Pow10At.below {w w' : World} {B : Nat} (h : Pow10At w) (hb : Below B w w') (hB : 0 < B) : Pow10At w' := by
  unfold Pow10At Lib.TabIs World.var? at h ⊢
  rw [show Tryz.prog.globalNamed "internal/strconv.uint64pow10" = some 0 by kernel_rfl] at h ⊢
  rw [Option.bind_some] at h ⊢
  rw [hb.block _ hB]
  exact h

theorem implFormatInt_any (n : Int) (w : World) (h0 : -(2 ^ 63) ≤ n) (h1 : n ≤ 2 ^ 63 - 1) (ht : Pow10At w) :
    Calls Tryz.prog 34 #[.int .i64 n] w fun e w' => e = .returned (.string ⟨(Lib.itoa n).toArray⟩) ∧ Below w.heap.size w w' := by
  have hI := Lib.hid (Tryz.strconv_Itoa n (by omega) (by omega) w ht)
  clear ht
  go_enter Tryz.func34, Tryz.ntmps34
  go_wp2_with fail
  refine hI.out.mono ?_
  rintro e w' ⟨rfl, k, os, rfl⟩
  go_wp2
  go_ret
  exact ⟨rfl, grow_below w k os⟩

end Go.Proofs.YtlmbnefoobameaaGreatDoor
end

section
namespace Go.Proofs.YtlmbnefoobameaaGreatDoor
open Go.RowKit

theorem lead_bytes (p : List UInt8) (x : ByteArray) : (⟨p.toArray⟩ ++ x : ByteArray) = ⟨(p ++ x.data.toList).toArray⟩ := by
  apply ByteArray.ext
  simp only [ByteArray.data_append]
  apply Array.toList_inj.1
  simp
theorem lead_list (p x : List UInt8) : (⟨p.toArray⟩ ++ ⟨x.toArray⟩ : ByteArray) = ⟨(p ++ x).toArray⟩ := by
  apply ByteArray.ext
  simp only [ByteArray.data_append]
  apply Array.toList_inj.1
  simp
theorem txtOs_len (ts : List Ot) : (txtOs ts).length = ts.length := by rw [txtOs_map, List.length_map]
theorem txtOs_sum : ∀ (ts : List Ot), (∀ i, (h : i < ts.length) → (txtO ts[i]).length ≤ 24 * sizeOt ts[i]) → sumLens (txtOs ts) ≤ 24 * sizeOts ts
  | [], _ => by simp [txtOs, sumLens]
  | t :: r, h => by
    have h1 := txtOs_sum r fun i hi => h (i + 1) (by simpa using hi)
    have h2 := h 0 (by simp)
    simp only [txtOs, sumLens, sizeOts, List.map_cons, List.sum_cons, List.getElem_cons_zero] at h1 h2 ⊢
    omega
theorem join_pair (a b : Ot) (c : UInt8) : joinTo (bytesOf (txtOs [a, b])) ⟨#[c]⟩ (bytesOf (txtOs [a, b])).length = txtO a ++ c :: txtO b := by
  simp [bytesOf, txtOs, joinTo]
theorem sizeOts_len : ∀ (ts : List Ot), ts.length ≤ sizeOts ts
  | [] => Nat.le_refl _
  | t :: r => by
    have h1 := sizeOts_len r
    have h2 := sizeOt_eq t
    rw [sizeOts, List.length_cons]
    omega
def TextOOne (f : Nat) (t : Ot) : Prop := ∀ (v : Value) (w : World), OtAt w w.heap.size v t → formOt t = true → sizeOt t ≤ 1000 → Calls Tryz.prog f #[v] w (StrIs ⟨(txtO t).toArray⟩ w)

set_option maxHeartbeats 8000000 in
set_option maxRecDepth 100000 in
theorem specTextO_of (k0 n0 : Int) (nm : ByteArray) (ts : List Ot) (hall : ∀ i, (h : i < ts.length) → TextOOne 19 ts[i]) : TextOOne 19 (.mk k0 n0 nm ts) := by
  intro v w hv hf hsz
  obtain ⟨i0, hi, hz0, hz1, hz2⟩ := info_parts infoString
  have htx : txtO (.mk k0 n0 nm ts) = nodeTxtO k0 n0 nm (txtOs ts) := by rw [txtO]
  rw [formOt, Bool.and_eq_true] at hf
  have hfa := formOts_at ts hf.1
  have hsum := txtOs_sum ts fun i hi => txtO_len ts[i] (hfa i hi)
  have hsz2 : 1 + sizeOts ts ≤ 1000 := by rw [sizeOt] at hsz; exact hsz
  have HF := Lib.hid hfa
  have HFORM := Lib.hid (nodeOB_forms hf.2)
  have hpl : (bytesOf (txtOs ts)).length = ts.length := by rw [bytesOf_len, txtOs_len]
  have HPL := Lib.hid hpl
  have HPS := Lib.hid (show sumLens (txtOs ts) ≤ 24000 by omega)
  have HTX := Lib.hid htx
  have HALL := Lib.hid hall
  obtain ⟨A, ac, rfl, hnm, ha⟩ := hv.open
  simp only [Ot.kind, Ot.num, Ot.name, Ot.args] at *
  have hm := ha.1
  clear hall hv hf hpl htx hsum hnm hfa
  obtain ⟨hb0, p0, q0, hs0⟩ := boxes2 w 26 9 #[.int .i64 k0, .string nm, .int .i64 n0, .slice A ts.length ac] #[]
  have hown0 : ((w.alloc (.cells #[.int .i64 k0, .string nm, .int .i64 n0, .slice A ts.length ac] 26)).alloc (.cells #[] 9)).ownsRow (w.heap.size + 1) 9 1 (.slice (some ⟨w.heap.size + 1, 0, none⟩) 0 0) 0 [] := by
    have := World.ownsRow_lit (base := w.heap.size + 1) (e := 9) (size := 1) (w.alloc (.cells #[.int .i64 k0, .string nm, .int .i64 n0, .slice A ts.length ac] 26)) #[] 0 (by simp) (Nat.zero_le _) rfl
    rw [show (w.alloc (.cells #[.int .i64 k0, .string nm, .int .i64 n0, .slice A ts.length ac] 26)).heap.size = w.heap.size + 1 by simp] at this
    exact this
  have ha0 := ha.below hb0
  have HZ := Lib.hid hs0
  have hszw : w.heap.size + 2 ≤ ((w.alloc (.cells #[.int .i64 k0, .string nm, .int .i64 n0, .slice A ts.length ac] 26)).alloc (.cells #[] 9)).heap.size := by omega
  clear hs0 ha q0
  go_enter Tryz.func19, Tryz.ntmps19
  go_wp2
  generalize ((w.alloc (.cells #[.int .i64 k0, .string nm, .int .i64 n0, .slice A ts.length ac] 26)).alloc (.cells #[] 9)) = w0 at *
  have hpw := p0.lt
  go_loopw [3, 4] (fun a i wr => ∃ k : Nat, k ≤ ts.length ∧ i = .int .i64 k ∧ wr.ownsRow (w.heap.size + 1) 9 1 a k (strVals ((bytesOf (txtOs ts)).take k)) ∧ Below (w.heap.size + 1) w0 wr) (fun _ i _ => ts.length - (intOf i).toNat)
  case atStart => exact ⟨0, Nat.zero_le _, rfl, hown0, Below.refl _ _⟩
  case round =>
    obtain ⟨k, hk, rfl, hown, hb⟩ := hrel
    have hbW := hb.mono (Nat.le_succ w.heap.size)
    have p1 := p0.below hb (Nat.lt_succ_self _)
    have c0 : wr.cell? ⟨w.heap.size, 0, none⟩ = some (.int .i64 k0) := p1.cell 0
    have c1 : wr.cell? ⟨w.heap.size, 1, none⟩ = some (.string nm) := p1.cell 1
    have c2 : wr.cell? ⟨w.heap.size, 2, none⟩ = some (.int .i64 n0) := p1.cell 2
    have c3 : wr.cell? ⟨w.heap.size, 3, none⟩ = some (.slice A ts.length ac) := p1.cell 3
    have hbs := hb.size
    have htk3 : ts.length ≤ 1000 := by have := sizeOts_len ts; omega
    by_cases hlt : k < ts.length
    · obtain ⟨b, off, A1, ac1, rfl, hbl, q0, q1, q2, q3, ht⟩ := (ha0.below hbW).elem k hlt
      have htk := sizeOts_take ts k hlt
      have htl := sizeOts_le ts (k + 1)
      have HT := Lib.hid (HALL.out k hlt _ wr (ht.more (by omega)) (HF.out k hlt) (by omega))
      clear ht htk htl
      go_wp2_with fail
      refine HT.out.mono ?_
      rintro e w3 ⟨rfl, hb3'⟩
      have hb3 := hb.trans (hb3'.mono (by omega))
      have HOWN := Lib.hid (own_keep1 (w' := w3) hown (fun g hg => hb3'.block g (hown.lt g hg).2))
      have hs3 := hb3.size
      clear hown p1 c0 c1 c2 c3 q0 q1 q2 q3
      have HPK : Hid ((bytesOf (txtOs ts))[k]'(by rw [HPL.out]; exact hlt) = ⟨(txtO ts[k]).toArray⟩) := Lib.hid (by
        simp only [bytesOf, List.getElem_map, txtOs_map])
      go_wp2_with (at_builtin; refine wpList_append_own _ rfl (.tmp 13) (.tmp 20) _ rfl (w.heap.size + 1) 9 i0 (.string ⟨#[]⟩) 1 16 Tryz.underlying49 hi hz0 hz1 hz2 rfl (by decide) _ _ _ rfl (HOWN.out.alloc _) ⟨w3.heap.size, 0, none⟩ 1 1 [.string ⟨(txtO ts[k]).toArray⟩] rfl rfl (cellNew w3 9 _) (by intro u hu; simp at hu; subst hu; rfl) (by unfold maxLen; omega) (by omega) (by have := hb3.size; simp; omega) ?_; intro v1 w4 hown1 hg1 _)
      go_roundw
      case rel => exact ⟨k + 1, by omega, by go_num, by rw [show strVals ((bytesOf (txtOs ts)).take (k + 1)) = strVals ((bytesOf (txtOs ts)).take k) ++ [.string ⟨(txtO ts[k]).toArray⟩] from by rw [List.take_succ_eq_append_getElem (by rw [HPL.out]; omega), HPK.out]; simp [strVals]]; exact hown1, (hb3.alloc (by omega) _).grown hg1 (by have := hb3.size; simp; omega) (fun q hq => by have := (HOWN.out.lt q hq).1; omega)⟩
      case measure => simp [intOf]; omega
    · have hke : k = ts.length := by omega
      subst hke
      rw [List.take_of_length_le (by rw [HPL.out]; exact Nat.le_refl _)] at hown
      obtain ⟨A3, c5, rfl, hst⟩ := own_strings hown
      have HB := Lib.hid (hb0.trans hbW)
      have hpn : (bytesOf (txtOs ts)).length = ts.length := HPL.out
      have HST := Lib.hid hst
      have HPN := Lib.hid hpn
      clear hown hst p1 ha0
      rcases HFORM.out with ⟨hq0, rfl, rfl, rfl⟩ | ⟨hq0, rfl, hnm, rfl⟩ | ⟨hq0, hn, rfl, rfl⟩ | ⟨rfl, rfl, rfl, t, rfl⟩ | ⟨hq0, rfl, rfl, a, b, rfl⟩
      · rcases hq0 with rfl | rfl | rfl | rfl | rfl
        all_goals
          go_wp2
          go_ret
          exact ⟨by rw [HTX.out]; rfl, HB.out⟩
      · rcases hq0 with rfl | rfl | rfl
        · have hnz := name_len hnm
          have hj0 : ¬ 9223372036854775807 < 1 + nm.size := by omega
          have HE : Hid (txtO (.mk 2 0 nm []) = [46] ++ nm.data.toList) := Lib.hid (by rw [HTX.out]; rfl)
          clear hnm hnz
          go_wp2
          go_ret
          exact ⟨by rw [HE.out, lead_bytes]; rfl, HB.out⟩
        · have hnz := name_len hnm
          have hj0 : ¬ 9223372036854775807 < 1 + nm.size := by omega
          have HE : Hid (txtO (.mk 3 0 nm []) = [63] ++ nm.data.toList) := Lib.hid (by rw [HTX.out]; rfl)
          clear hnm hnz
          go_wp2
          go_ret
          exact ⟨by rw [HE.out, lead_bytes]; rfl, HB.out⟩
        · have hnz := name_len hnm
          have hj0 : ¬ 9223372036854775807 < 5 + nm.size := by omega
          have HE : Hid (txtO (.mk 10 0 nm []) = [119, 114, 97, 112, 32] ++ nm.data.toList) := Lib.hid (by rw [HTX.out]; rfl)
          clear hnm hnz
          go_wp2
          go_ret
          exact ⟨by rw [HE.out, lead_bytes]; rfl, HB.out⟩
      · rcases hq0 with rfl | rfl
        · have hn0 := itoa_len n0 (by omega)
          have hj0 : ¬ 9223372036854775807 < 3 + (Lib.itoa n0).length := by omega
          have HE : Hid (txtO (.mk 6 n0 ⟨#[]⟩ []) = [97, 116, 32] ++ Lib.itoa n0) := Lib.hid (by rw [HTX.out]; rfl)
          have HI := Lib.hid (specFormatInt_any n0 wr (by omega) (by omega))
          clear hn hn0
          go_wp2_with fail
          refine HI.out.mono ?_
          rintro e w5 ⟨rfl, hb5⟩
          go_wp2
          go_ret
          exact ⟨by rw [HE.out, lead_list]; rfl, HB.out.trans (hb5.mono HB.out.size)⟩
        · have hn0 := itoa_len n0 (by omega)
          have hj0 : ¬ 9223372036854775807 < 4 + (Lib.itoa n0).length := by omega
          have HE : Hid (txtO (.mk 7 n0 ⟨#[]⟩ []) = [97, 100, 100, 32] ++ Lib.itoa n0) := Lib.hid (by rw [HTX.out]; rfl)
          have HI := Lib.hid (specFormatInt_any n0 wr (by omega) (by omega))
          clear hn hn0
          go_wp2_with fail
          refine HI.out.mono ?_
          rintro e w5 ⟨rfl, hb5⟩
          go_wp2
          go_ret
          exact ⟨by rw [HE.out, lead_list]; rfl, HB.out.trans (hb5.mono HB.out.size)⟩
      · skip
        have h0 : 0 < (bytesOf (txtOs [t])).length := by rw [HPN.out]; simp
        obtain ⟨b, o, rfl, hbl, hcl⟩ := HST.out 0 h0
        have h0I : (0 : Int) < ((bytesOf (txtOs [t])).length : Int) := by omega
        have e0 : (bytesOf (txtOs [t]))[0] = ⟨(txtO t).toArray⟩ := by simp [bytesOf, txtOs]
        rw [Nat.add_zero, e0] at hcl
        have hTl : (txtO t).length ≤ 24000 := by have := HPS.out; simp [txtOs, sumLens] at this; omega
        have HE : Hid (txtO (.mk 11 0 ⟨#[]⟩ [t]) = [109, 97, 112, 32] ++ txtO t) := Lib.hid (by rw [txtO_11]; rfl)
        generalize txtO t = T at *
        have hj1 : ¬ 9223372036854775807 < 4 + T.length := by omega
        clear hTl e0
        go_wp2
        go_ret
        exact ⟨by rw [HE.out, lead_list]; rfl, HB.out⟩
      · rcases hq0 with rfl | rfl
        · have hJ := Lib.hid (specJoin_any A3 c5 (bytesOf (txtOs [a, b])) ⟨#[59]⟩ wr HST.out (by rw [HPN.out]; omega) (by rw [bytesOf_sum]; have := HPS.out; omega) (by decide))
          have HC : Hid (joinTo (bytesOf (txtOs [a, b])) ⟨#[59]⟩ (bytesOf (txtOs [a, b])).length = txtO a ++ 59 :: txtO b) := Lib.hid (join_pair _ _ _)
          have hJ2 := hJ.out
          rw [HC.out] at hJ2
          have HJ2 := Lib.hid hJ2
          have HE : Hid (txtO (.mk 12 0 ⟨#[]⟩ [a, b]) = 40 :: ((txtO a ++ 59 :: txtO b) ++ [41])) := Lib.hid (by rw [txtO_12]; simp)
          have hjl : (txtO a ++ 59 :: txtO b).length ≤ 48001 := by have := HPS.out; simp [txtOs, sumLens] at this ⊢; omega
          generalize txtO a ++ 59 :: txtO b = J at *
          have hj1 : ¬ 9223372036854775807 < 1 + J.length := by omega
          have hj2 : ¬ 9223372036854775807 < 1 + J.length + 1 := by omega
          clear hJ hJ2 hjl
          go_wp2_with fail
          refine HJ2.out.mono ?_
          rintro e w5 ⟨rfl, hb5⟩
          go_wp2
          go_ret
          exact ⟨by rw [HE.out, byte3]; rfl, HB.out.trans (hb5.mono HB.out.size)⟩
        · have hJ := Lib.hid (specJoin_any A3 c5 (bytesOf (txtOs [a, b])) ⟨#[124]⟩ wr HST.out (by rw [HPN.out]; omega) (by rw [bytesOf_sum]; have := HPS.out; omega) (by decide))
          have HC : Hid (joinTo (bytesOf (txtOs [a, b])) ⟨#[124]⟩ (bytesOf (txtOs [a, b])).length = txtO a ++ 124 :: txtO b) := Lib.hid (join_pair _ _ _)
          have hJ2 := hJ.out
          rw [HC.out] at hJ2
          have HJ2 := Lib.hid hJ2
          have HE : Hid (txtO (.mk 13 0 ⟨#[]⟩ [a, b]) = 40 :: ((txtO a ++ 124 :: txtO b) ++ [41])) := Lib.hid (by rw [txtO_13]; simp)
          have hjl : (txtO a ++ 124 :: txtO b).length ≤ 48001 := by have := HPS.out; simp [txtOs, sumLens] at this ⊢; omega
          generalize txtO a ++ 124 :: txtO b = J at *
          have hj1 : ¬ 9223372036854775807 < 1 + J.length := by omega
          have hj2 : ¬ 9223372036854775807 < 1 + J.length + 1 := by omega
          clear hJ hJ2 hjl
          go_wp2_with fail
          refine HJ2.out.mono ?_
          rintro e w5 ⟨rfl, hb5⟩
          go_wp2
          go_ret
          exact ⟨by rw [HE.out, byte3]; rfl, HB.out.trans (hb5.mono HB.out.size)⟩

theorem specTextO_any (t : Ot) : TextOOne 19 t := by
  induction t using Ot.ind with
  | h k n nm ts ih => exact specTextO_of k n nm ts ih

set_option maxHeartbeats 1000000 in
theorem specFormatO_any (t : Ot) (v : Value) (w : World) (hv : OtAt w w.heap.size v t) (hsz : szOt t ≤ 1048576) : Calls Tryz.prog 8 #[v] w (StrIs (formatOB t) w) := by
  have HX : opticB t = true → Hid (∀ W, Below w.heap.size w W → Calls Tryz.prog 19 #[v] W (StrIs ⟨(txtO t).toArray⟩ W)) := fun h => Lib.hid fun W hb => by
    obtain ⟨h1, _, h3⟩ := opticB_parts h
    exact specTextO_any t v W (hv.up hb) h3 (by omega)
  have hv0 := hv
  obtain ⟨A, ac, rfl, _⟩ := hv.open
  obtain ⟨hb0, p0, hs0⟩ := boxes1 w 26 #[.int .i64 t.kind, .string t.name, .int .i64 t.num, .slice A t.args.length ac]
  have HV := Lib.hid (specIsOptic_any t _ _ (hv0.up hb0) hsz)
  have c0 : (w.alloc (.cells #[.int .i64 t.kind, .string t.name, .int .i64 t.num, .slice A t.args.length ac] 26)).cell? ⟨w.heap.size, 0, none⟩ = some (.int .i64 t.kind) := p0.cell 0
  have c1 : (w.alloc (.cells #[.int .i64 t.kind, .string t.name, .int .i64 t.num, .slice A t.args.length ac] 26)).cell? ⟨w.heap.size, 1, none⟩ = some (.string t.name) := p0.cell 1
  have c2 : (w.alloc (.cells #[.int .i64 t.kind, .string t.name, .int .i64 t.num, .slice A t.args.length ac] 26)).cell? ⟨w.heap.size, 2, none⟩ = some (.int .i64 t.num) := p0.cell 2
  have c3 : (w.alloc (.cells #[.int .i64 t.kind, .string t.name, .int .i64 t.num, .slice A t.args.length ac] 26)).cell? ⟨w.heap.size, 3, none⟩ = some (.slice A t.args.length ac) := p0.cell 3
  clear hv hv0 hs0
  cases hvb : opticB t
  · rw [hvb] at HV
    have HE : Hid (formatOB t = ⟨#[]⟩) := Lib.hid (by unfold formatOB; rw [hvb]; rfl)
    clear HX hvb
    go_enter Tryz.func8, Tryz.ntmps8
    go_wp2_with fail
    generalize (w.alloc (.cells #[.int .i64 t.kind, .string t.name, .int .i64 t.num, .slice A t.args.length ac] 26)) = w0 at *
    refine HV.out.mono ?_
    rintro e w1 ⟨rfl, hb1⟩
    go_wp2
    go_ret
    exact ⟨by rw [HE.out]; rfl, hb0.trans (hb1.mono hb0.size)⟩
  · rw [hvb] at HV
    have HE : Hid (formatOB t = ⟨(txtO t).toArray⟩) := Lib.hid (by unfold formatOB; rw [hvb]; rfl)
    have HX2 := HX hvb
    clear HX hvb
    go_enter Tryz.func8, Tryz.ntmps8
    go_wp2_with fail
    generalize (w.alloc (.cells #[.int .i64 t.kind, .string t.name, .int .i64 t.num, .slice A t.args.length ac] 26)) = w0 at *
    refine HV.out.mono ?_
    rintro e w1 ⟨rfl, hb1⟩
    have hb01 := hb0.trans (hb1.mono hb0.size)
    have HX3 := Lib.hid (HX2.out w1 hb01)
    have p1 := p0.below hb1 p0.lt
    have d0 : w1.cell? ⟨w.heap.size, 0, none⟩ = some (.int .i64 t.kind) := p1.cell 0
    have d1 : w1.cell? ⟨w.heap.size, 1, none⟩ = some (.string t.name) := p1.cell 1
    have d2 : w1.cell? ⟨w.heap.size, 2, none⟩ = some (.int .i64 t.num) := p1.cell 2
    have d3 : w1.cell? ⟨w.heap.size, 3, none⟩ = some (.slice A t.args.length ac) := p1.cell 3
    clear p1 c0 c1 c2 c3
    go_wp2_with fail
    refine HX3.out.mono ?_
    rintro e w2 ⟨rfl, hb2⟩
    go_wp2
    go_ret
    exact ⟨by rw [HE.out]; rfl, hb01.trans (hb2.mono hb01.size)⟩

end Go.Proofs.YtlmbnefoobameaaGreatDoor
end

section
namespace Go.Proofs.YtlmbnefoobameaaGreatDoor
set_option maxRecDepth 100000
open Go.RowKit
attribute [local go_sem ↓] Go.wp_at_zero Go.wp_at_succ

set_option maxHeartbeats 2000000 in
theorem drawFormatOptic_any (A : Option Addr) (n cap : Nat) (w : World) (hA : BytesAt w w.heap.size A n) (hn : n ≤ 2 ^ 47) :
    Calls Tryz.prog 5 #[.slice A n cap] w (GivesOt w) := by
  obtain ⟨hb0, r0, hs0⟩ := boxes1 w 26 #[.int .i64 0, .string ⟨#[]⟩, .int .i64 0, .slice none 0 0]
  have hc := Lib.hid (l1New_any A n cap (w.alloc (.cells #[.int .i64 0, .string ⟨#[]⟩, .int .i64 0, .slice none 0 0] 26)) (hA.allocO _) hn)
  have hp := Lib.hid (fun p B W h => specBentO_any p B W h)
  clear hA
  go_enter Tryz.func5, Tryz.ntmps5
  go_wp2_with fail
  refine hc.out.mono ?_
  rintro e w1 ⟨p, rfl, hc1, hb1⟩
  go_wp2_with fail
  refine (hp.out p _ w1 hc1).mono ?_
  rintro e w2 ⟨⟨v, t, rfl, hO, hz⟩, hc2, hg2⟩
  have hi := hO.owned
  obtain ⟨A2, ac, rfl⟩ := hO.open
  have hs1 := hb1.size
  have hb2 := below_only hb1 hg2 hb1.size hc1.low
  have r2 := r0.below hb2 r0.lt
  rw [hs0] at hs1
  have hbw := hb0.trans (hb2.mono hb0.size)
  have d0 : w2.cell? ⟨w.heap.size, 0, none⟩ = some (.int .i64 0) := r2.cell 0
  have f0 : w2.frozen? ⟨w.heap.size, 0, none⟩ = false := r2.free 0
  have d1 : w2.cell? ⟨w.heap.size, 1, none⟩ = some (.string ⟨#[]⟩) := r2.cell 1
  have f1 : w2.frozen? ⟨w.heap.size, 1, none⟩ = false := r2.free 1
  have d2 : w2.cell? ⟨w.heap.size, 2, none⟩ = some (.int .i64 0) := r2.cell 2
  have f2 : w2.frozen? ⟨w.heap.size, 2, none⟩ = false := r2.free 2
  have d3 : w2.cell? ⟨w.heap.size, 3, none⟩ = some (.slice none 0 0) := r2.cell 3
  have f3 : w2.frozen? ⟨w.heap.size, 3, none⟩ = false := r2.free 3
  have HF : Hid (∀ a b c d, GivesOt w (.returned (.agg #[.int .i64 t.kind, .string t.name, .int .i64 t.num, .slice A2 t.args.length ac])) ((((w2.setCell ⟨w.heap.size, 0, none⟩ a).setCell ⟨w.heap.size, 1, none⟩ b).setCell ⟨w.heap.size, 2, none⟩ c).setCell ⟨w.heap.size, 3, none⟩ d)) := Lib.hid (fun a b c d => ⟨⟨_, t, rfl, otIn_set4 hi (fun b hb' => ⟨hb'.1, hb'.2⟩) w.heap.size w.heap.size (by omega) (by omega) a b c d, by omega⟩, (((hbw.setCell (by simp) _).setCell (by simp) _).setCell (by simp) _).setCell (by simp) _⟩)
  clear hi hO hc1 hb1 hc2 hg2 hb2 r2 r0 hb0
  go_wp2
  exact bodyPost_ret (v := .agg #[.int .i64 t.kind, .string t.name, .int .i64 t.num, .slice A2 t.args.length ac]) (by simp [results, Tryz.results5, go_sem, d0, d1, d2, d3]) rfl (HF.out _ _ _ _)

theorem formatO_len (t : Ot) : (formatOB t).size ≤ 480 := by
  unfold formatOB
  split
  · rename_i h
    obtain ⟨h0, _, h2⟩ := opticB_parts h
    have h1 := txtO_len t h2
    show (txtO t).toArray.size ≤ 480
    simp
    omega
  · exact Nat.zero_le _
/-- A text is drawn. -/
def GivesTxtO (w : World) (e : Ending) (w' : World) : Prop := (∃ x : ByteArray, e = .returned (.string x) ∧ x.size ≤ 1000) ∧ Below w.heap.size w w'
def signsO : List ByteArray := [⟨#[40]⟩, ⟨#[59]⟩, ⟨#[46, 97]⟩, ⟨#[105, 100]⟩, ⟨#[124]⟩, ⟨#[41]⟩, ⟨#[97, 116, 32, 49]⟩]
theorem turnedO (p B : Nat) (s : ByteArray) (W : World) (h : CurAt W B p) (hs : s.size ≤ 480) :
    Calls Tryz.prog 26 #[.pointer (some ⟨p, 0, none⟩), .string s, .slice (some ⟨W.heap.size, 0, none⟩) 7 7] (W.alloc (.cells #[.string ⟨#[40]⟩, .string ⟨#[59]⟩, .string ⟨#[46, 97]⟩, .string ⟨#[105, 100]⟩, .string ⟨#[124]⟩, .string ⟨#[41]⟩, .string ⟨#[97, 116, 32, 49]⟩] 9)) (DrawnTxt (W.alloc (.cells #[.string ⟨#[40]⟩, .string ⟨#[59]⟩, .string ⟨#[46, 97]⟩, .string ⟨#[105, 100]⟩, .string ⟨#[124]⟩, .string ⟨#[41]⟩, .string ⟨#[97, 116, 32, 49]⟩] 9)) B p (s.size + 8)) :=
  turned_any p B (W.heap.size + 1) 7 (some ⟨W.heap.size, 0, none⟩) signsO s _ (CurAt.belowP h ((Below.refl W.heap.size W).alloc (Nat.le_refl _) _) h.lt) (StrsAt.of_whole (t := 9) (Whole1.new W _ _) _ (by omega)) (fun q b off e => by cases e; have := h.lt; omega) (by decide) (by decide) (by decide) (by omega)

set_option maxHeartbeats 1000000 in
theorem drawParseOptic_any (A : Option Addr) (n cap : Nat) (w : World) (hA : BytesAt w w.heap.size A n) (hn : n ≤ 2 ^ 47) :
    Calls Tryz.prog 11 #[.slice A n cap] w (GivesTxtO w) := by
  have hc := Lib.hid (l1New_any A n cap w hA hn)
  have hp := Lib.hid (fun p B W h => specBentO_any p B W h)
  have hT := Lib.hid (fun p B s W h hs => turnedO p B s W h hs)
  clear hA
  go_enter Tryz.func11, Tryz.ntmps11
  go_wp2_with fail
  refine hc.out.mono ?_
  rintro e w1 ⟨p, rfl, hc1, hb1⟩
  go_wp2_with fail
  refine (hp.out p _ w1 hc1).mono ?_
  rintro e w2 ⟨⟨v, t, rfl, hO, hz⟩, hc2, hg2⟩
  have hF := Lib.hid (specFormatO_any t v w2 hO.owned.here (by omega))
  have hfl := formatO_len t
  have hb2 := below_only hb1 hg2 hb1.size hc1.low
  obtain ⟨A2, ac, rfl⟩ := hO.open
  clear hO hc1 hb1 hg2
  go_wp2_with fail
  refine hF.out.mono ?_
  rintro e w3 ⟨rfl, hb3⟩
  have hc3 := hc2.belowP hb3 hc2.lt
  have hb23 := hb2.trans (hb3.mono hb2.size)
  generalize formatOB t = s at *
  have HTT := Lib.hid (hT.out p _ s w3 hc3 hfl)
  have hba := (Below.refl w3.heap.size w3).alloc (Nat.le_refl _) (.cells #[.string ⟨#[40]⟩, .string ⟨#[59]⟩, .string ⟨#[46, 97]⟩, .string ⟨#[105, 100]⟩, .string ⟨#[124]⟩, .string ⟨#[41]⟩, .string ⟨#[97, 116, 32, 49]⟩] 9)
  have HB := Lib.hid (hb23.trans (hba.mono hb23.size))
  have hcl := hc3.low
  clear hc3 hc2 hb3 hb2 hb23 hba
  go_wp2_with fail
  refine HTT.out.mono ?_
  rintro e w4 ⟨⟨x, rfl, hx⟩, hc4, hg4⟩
  have hb4 := below_only HB.out hg4 HB.out.size (by omega)
  clear hc4 hg4
  go_wp2
  go_ret
  exact ⟨⟨x, rfl, by omega⟩, hb4⟩

end Go.Proofs.YtlmbnefoobameaaGreatDoor
end

section
namespace Go.Proofs.YtlmbnefoobameaaGreatDoor
open Go.RowKit

theorem oset4_keep (w : World) (r : Nat) (a b c d : Value) (g : Nat) (hg : g ≠ r) : ((((w.setCell ⟨r, 0, none⟩ a).setCell ⟨r, 1, none⟩ b).setCell ⟨r, 2, none⟩ c).setCell ⟨r, 3, none⟩ d).heap[g]? = w.heap[g]? := by
  rw [Below.heap_setCell _ _ _ _ hg, Below.heap_setCell _ _ _ _ hg, Below.heap_setCell _ _ _ _ hg, Below.heap_setCell _ _ _ _ hg]
theorem oset4_below (w : World) (r : Nat) (a b c d : Value) : Below r w ((((w.setCell ⟨r, 0, none⟩ a).setCell ⟨r, 1, none⟩ b).setCell ⟨r, 2, none⟩ c).setCell ⟨r, 3, none⟩ d) :=
  ((((Below.refl r w).setCell (p := ⟨r, 0, none⟩) (Nat.le_refl _) _).setCell (p := ⟨r, 1, none⟩) (Nat.le_refl _) _).setCell (p := ⟨r, 2, none⟩) (Nat.le_refl _) _).setCell (p := ⟨r, 3, none⟩) (Nat.le_refl _) _
theorem OwnOt.set4 {w : World} {base : Nat} {v : Value} {t : Ot} (h : OwnOt w base v t) (r : Nat) (hr : r < base) (a b c d : Value) : OwnOt ((((w.setCell ⟨r, 0, none⟩ a).setCell ⟨r, 1, none⟩ b).setCell ⟨r, 2, none⟩ c).setCell ⟨r, 3, none⟩ d) base v t :=
  h.keep (oset4_below w r a b c d).size fun g hg _ => oset4_keep _ _ _ _ _ _ _ (by omega)
theorem osp {a b : Nat} (q : Nat) (h : Span a b q) : a ≤ q ∧ q < b := h
theorem ogather_one {w1 : World} {base lo0 hi0 : Nat} {a b c d : Value} {t : Ot} (hb : base ≤ lo0) (hl : base ≤ w1.heap.size) (hs : hi0 ≤ w1.heap.size) (ht : OtIn w1 (Span lo0 hi0) (.agg #[a, b, c, d]) t) :
    OGather (w1.alloc (.cells #[a, b, c, d] 26)) base (.slice (some ⟨w1.heap.size, 0, none⟩) 1 1) 1 [t] := by
  refine ⟨[a, b, c, d], fun _ => .agg #[a, b, c, d], fun _ => lo0, fun _ => hi0, World.ownsRow_lit w1 #[a, b, c, d] 1 (by omega) (by unfold maxLen; omega) rfl, fun i hi j hj => ?_, fun i hi => ⟨hb, by simp; omega⟩, fun i j h1 h2 => absurd h2 (by omega), fun i hi g hg => ?_, fun i hi hi1 => ?_⟩
  · have h0 : i = 0 := by omega
    subst h0
    have : j = 0 ∨ j = 1 ∨ j = 2 ∨ j = 3 := by omega
    rcases this with rfl | rfl | rfl | rfl
    · simp [partAt]
    · simp [partAt]
    · simp [partAt]
    · simp [partAt]
  · intro hsp
    have e := Option.some.inj hg
    have := (osp _ hsp).2
    simp only at e
    omega
  · have h0 : i = 0 := by omega
    subst h0
    exact ht.keep fun q hq _ => Below.heap_alloc _ _ _ (by have := (osp _ hq).2; omega)
theorem ogather_two {w1 : World} {base lo0 hi0 lo1 hi1 : Nat} {a b c d a' b' c' d' : Value} {t u : Ot} (hb : base ≤ lo0) (hb1 : base ≤ lo1) (h01 : hi0 ≤ lo1) (hl : base ≤ w1.heap.size) (hs0 : hi0 ≤ w1.heap.size) (hs : hi1 ≤ w1.heap.size) (ht : OtIn w1 (Span lo0 hi0) (.agg #[a, b, c, d]) t) (hu : OtIn w1 (Span lo1 hi1) (.agg #[a', b', c', d']) u) :
    OGatherAt (w1.alloc (.cells #[a, b, c, d, a', b', c', d'] 26)) base (.slice (some ⟨w1.heap.size, 0, none⟩) 2 2) 2 [t, u] [a, b, c, d, a', b', c', d'] (fun i => if i = 0 then .agg #[a, b, c, d] else .agg #[a', b', c', d']) (fun i => if i = 0 then lo0 else lo1) (fun i => if i = 0 then hi0 else hi1) := by
  refine ⟨World.ownsRow_lit w1 #[a, b, c, d, a', b', c', d'] 2 (by omega) (by unfold maxLen; omega) rfl, fun i hi j hj => ?_, fun i hi => ?_, fun i j h1 h2 => ?_, fun i hi g hg => ?_, fun i hi hi1 => ?_⟩
  · have h0 : i = 0 ∨ i = 1 := by omega
    have : j = 0 ∨ j = 1 ∨ j = 2 ∨ j = 3 := by omega
    rcases h0 with rfl | rfl
    all_goals
      rcases this with rfl | rfl | rfl | rfl
      · simp [partAt]
      · simp [partAt]
      · simp [partAt]
      · simp [partAt]
  · rw [World.size_alloc]
    split <;> omega
  · rw [if_pos (by omega), if_neg (by omega)]
    exact h01
  · intro hsp
    have e := Option.some.inj hg
    simp only at e
    split at hsp
    · have := (osp _ hsp).2
      omega
    · have := (osp _ hsp).2
      omega
  · have h0 : i = 0 ∨ i = 1 := by omega
    rcases h0 with rfl | rfl
    · exact ht.keep fun q hq _ => Below.heap_alloc _ _ _ (by have := (osp _ hq).2; omega)
    · exact hu.keep fun q hq _ => Below.heap_alloc _ _ _ (by have := (osp _ hq).2; omega)
/-- A node over one tree. -/
theorem own_oone {w1 : World} {base lo0 hi0 : Nat} {a b c d : Value} {t : Ot} (k n : Int) (nm : ByteArray) (hnm : nm.size ≤ maxLen) (hb : base ≤ lo0) (hl : base ≤ w1.heap.size) (hs : hi0 ≤ w1.heap.size) (ht : OtIn w1 (Span lo0 hi0) (.agg #[a, b, c, d]) t) :
    OwnOt (w1.alloc (.cells #[a, b, c, d] 26)) base (.agg #[.int .i64 k, .string nm, .int .i64 n, .slice (some ⟨w1.heap.size, 0, none⟩) 1 1]) (.mk k n nm [t]) :=
  OwnOt.of (t := .mk k n nm [t]) (k := 1) hnm (by unfold maxLen; simp [Ot.args]) rfl (ogather_one hb hl hs ht)
/-- A node over two trees. -/
theorem own_otwo {w1 : World} {base lo0 hi0 lo1 hi1 : Nat} {a b c d a' b' c' d' : Value} {t u : Ot} (k n : Int) (nm : ByteArray) (hnm : nm.size ≤ maxLen) (hb : base ≤ lo0) (hb1 : base ≤ lo1) (h01 : hi0 ≤ lo1) (hl : base ≤ w1.heap.size) (hs0 : hi0 ≤ w1.heap.size) (hs : hi1 ≤ w1.heap.size) (ht : OtIn w1 (Span lo0 hi0) (.agg #[a, b, c, d]) t) (hu : OtIn w1 (Span lo1 hi1) (.agg #[a', b', c', d']) u) :
    OwnOt (w1.alloc (.cells #[a, b, c, d, a', b', c', d'] 26)) base (.agg #[.int .i64 k, .string nm, .int .i64 n, .slice (some ⟨w1.heap.size, 0, none⟩) 2 2]) (.mk k n nm [t, u]) :=
  OwnOt.of (t := .mk k n nm [t, u]) (k := 2) hnm (by unfold maxLen; simp [Ot.args]) rfl ⟨_, _, _, _, ogather_two hb hb1 h01 hl hs0 hs ht hu⟩
/-- The same, where a block between both is written then. -/
theorem own_otwo_set {w1 : World} {base lo0 hi0 lo1 hi1 z o : Nat} {v a b c d a' b' c' d' : Value} {t u : Ot} (k n : Int) (nm : ByteArray) (hnm : nm.size ≤ maxLen) (hb : base ≤ lo0) (hz0 : hi0 ≤ z) (hz1 : z < lo1) (hbz : base ≤ z) (hs0 : hi0 ≤ w1.heap.size) (hl1 : lo1 ≤ w1.heap.size) (hs : hi1 ≤ w1.heap.size) (ht : OtIn w1 (Span lo0 hi0) (.agg #[a, b, c, d]) t) (hu : OtIn w1 (Span lo1 hi1) (.agg #[a', b', c', d']) u) :
    OwnOt ((w1.alloc (.cells #[a, b, c, d, a', b', c', d'] 26)).setCell ⟨z, o, none⟩ v) base (.agg #[.int .i64 k, .string nm, .int .i64 n, .slice (some ⟨w1.heap.size, 0, none⟩) 2 2]) (.mk k n nm [t, u]) := by
  have hg := ogather_two (w1 := w1) (base := base) hb (by omega) (by omega) (by omega) hs0 hs ht hu
  have h1 : OwnOAt (w1.alloc (.cells #[a, b, c, d, a', b', c', d'] 26)) base (some ⟨w1.heap.size, 0, none⟩) 2 (.mk k n nm [t, u]) _ _ _ _ := ⟨hnm, by unfold maxLen; simp [Ot.args], hg⟩
  refine (OwnOAt.but h1 z (by simp [World.setCell]) (fun g _ _ hgz => Below.heap_setCell _ _ _ _ hgz) (fun e => ?_) (fun i hi hsp => ?_)).own
  · have hez : w1.heap.size = z := Option.some.inj e
    omega
  · have hi2 : i = 0 ∨ i = 1 := by
      simp only [Ot.args, List.length_cons, List.length_nil] at hi
      omega
    rcases hi2 with rfl | rfl
    · have := (osp _ hsp).2
      simp only [if_true] at this
      omega
    · have := (osp _ hsp).1
      rw [if_neg (by decide)] at this
      omega

end Go.Proofs.YtlmbnefoobameaaGreatDoor
end
