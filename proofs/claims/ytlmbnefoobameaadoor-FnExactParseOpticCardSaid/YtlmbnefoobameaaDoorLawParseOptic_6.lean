/- Lemmas: VTxt, VTxtLen, SpecOtForm. -/
import Derived.Test.YtlmbnefoobameaaDoorLawParseOptic_5
import Derived.Test.YtlmbnefoobameaaDoorLawParseOptic_3
import Derived.Deep.QuietTactic
import Derived.BigQuiet
import Derived.Test.YtlmbnefoobameaaDoorLawParseOptic_1

section
namespace Go.Proofs.YtlmbnefoobameaaDoor
open Go.RowKit

def labE : List ByteArray → List (List UInt8) → List (List UInt8)
  | l :: ls, x :: xs => (l.data.toList ++ 61 :: x) :: labE ls xs
  | _, _ => []
def nodeTxtV (k n : Int) (nm : ByteArray) (ls : List ByteArray) (xs : List (List UInt8)) : List UInt8 :=
  if k = 1 then Lib.itoa n
  else if k = 2 then [35, if n = 1 then 116 else 102]
  else if k = 3 then 123 :: (commas (labE ls xs) ++ [125])
  else if k = 4 then 60 :: (nm.data.toList ++ 32 :: (xs.headD [] ++ [62]))
  else 91 :: (commas xs ++ [93])
mutual
/-- The text of a value. -/
def txtV : Va → List UInt8 | .mk k n nm ls ts => nodeTxtV k n nm ls (txtVs ts)
def txtVs : List Va → List (List UInt8) | [] => [] | t :: r => txtV t :: txtVs r
end
theorem txtVs_map : ∀ (ts : List Va), txtVs ts = ts.map txtV
  | [] => by rw [txtVs]; rfl
  | t :: r => by rw [txtVs, txtVs_map r]; rfl
theorem labE_map : ∀ (ps : List (ByteArray × Va)), labE (ps.map (·.1)) (txtVs (ps.map (·.2))) = ps.map fun p => p.1.data.toList ++ 61 :: txtV p.2
  | [] => rfl
  | p :: r => by
    simp only [List.map_cons, txtVs, labE]
    rw [labE_map r]

/-- A digit; a digit or a minus. -/
def digC (c : UInt8) : Bool := decide (48 ≤ c.toNat) && decide (c.toNat ≤ 57)
def intC (c : UInt8) : Bool := c == 45 || digC c
theorem digC_intC {c : UInt8} (h : digC c = true) : intC c = true := by simp [intC, h]
/-- The number that the text spells. -/
def unItoa (l : List UInt8) : Option Int :=
  if l = Lib.itoa (sign l (valD (behind l))) ∧ -999999999999 ≤ sign l (valD (behind l)) ∧ sign l (valD (behind l)) ≤ 999999999999 then some (sign l (valD (behind l))) else none
theorem unItoa_some {l : List UInt8} {n : Int} (h : unItoa l = some n) : l = Lib.itoa n ∧ -999999999999 ≤ n ∧ n ≤ 999999999999 := by
  unfold unItoa at h
  split at h
  · injection h with h
    rw [← h]
    assumption
  · cases h
theorem unItoa_of {l : List UInt8} {n : Int} (h : l = Lib.itoa n) (h1 : -999999999999 ≤ n) (h2 : n ≤ 999999999999) : unItoa l = some n := by
  have e := the_number n h
  unfold unItoa
  rw [← e, if_pos ⟨h, h1, h2⟩]
theorem unItoa_none {l : List UInt8} (h : ∀ n : Int, -999999999999 ≤ n → n ≤ 999999999999 → l ≠ Lib.itoa n) : unItoa l = none := by
  cases e : unItoa l with
  | none => rfl
  | some n =>
    obtain ⟨h1, h2, h3⟩ := unItoa_some e
    exact (h n h2 h3 h1).elim

/-- The text begins with the one given: what comes behind it. -/
def eats (p l : List UInt8) : Option (List UInt8) := if p.isPrefixOf l then some (l.drop p.length) else none
theorem eats_some {p l r : List UInt8} (h : eats p l = some r) : l = p ++ r := by
  unfold eats at h
  split at h
  · rename_i hp
    injection h with h
    obtain ⟨q, rfl⟩ := List.isPrefixOf_iff_prefix.1 hp
    rw [← h]
    simp
  · cases h
theorem eats_append (p r : List UInt8) : eats p (p ++ r) = some r := by
  unfold eats
  rw [if_pos (List.isPrefixOf_iff_prefix.2 ⟨r, rfl⟩)]
  simp
theorem eats_one (c : UInt8) (l : List UInt8) : eats [c] l = eat c l := by
  cases l with
  | nil => rfl
  | cons x r =>
    by_cases h : x = c
    · subst h
      simp [List.isPrefixOf, eats, eat]
    · have hb : (c == x) = false := by
        rw [beq_eq_false_iff_ne]
        exact fun e => h e.symm
      rw [eat_other r h]
      simp [List.isPrefixOf, eats, hb]

section Parts
variable {α : Type}
/-- Parts, as far as commas stand between. -/
def rdSeq (f : List UInt8 → Option (α × List UInt8)) : Nat → List UInt8 → Option (List α × List UInt8)
  | 0, _ => none
  | n + 1, l =>
    match f l with
    | none => none
    | some (a, r) =>
      match eat 44 r with
      | none => some ([a], r)
      | some r2 =>
        match rdSeq f n r2 with
        | none => none
        | some (us, q) => some (a :: us, q)
/-- Parts up to a closing sign, or none of them. -/
def rdSeqE (f : List UInt8 → Option (α × List UInt8)) (e : UInt8) (l : List UInt8) : Option (List α × List UInt8) :=
  match eat e l with
  | some r => some ([], r)
  | none => match rdSeq f (l.length + 1) l with
    | none => none
    | some (us, q) => match eat e q with
      | none => none
      | some r => some (us, r)
theorem rdSeq_sound {f : List UInt8 → Option (α × List UInt8)} {g : α → List UInt8} (hf : ∀ l a r, f l = some (a, r) → l = g a ++ r) : ∀ (n : Nat) (l : List UInt8) (us : List α) (q : List UInt8), rdSeq f n l = some (us, q) → l = commas (us.map g) ++ q ∧ us ≠ [] := by
  intro n
  induction n with
  | zero =>
    intro l us q h
    cases h
  | succ n ih =>
    intro l us q h
    rw [rdSeq] at h
    split at h
    · cases h
    · rename_i a r ha
      have e1 := hf _ _ _ ha
      split at h
      · cases h
        exact ⟨by simpa [commas] using e1, by simp⟩
      · rename_i r2 hr2
        have e2 := eat_some hr2
        split at h
        · cases h
        · rename_i us' q' hq
          cases h
          obtain ⟨i1, i2⟩ := ih _ _ _ hq
          obtain ⟨b, bs, rfl⟩ : ∃ b bs, us' = b :: bs := by
            cases us' with
            | nil => exact absurd rfl i2
            | cons b bs => exact ⟨b, bs, rfl⟩
          refine ⟨?_, by simp⟩
          rw [e1, e2, i1]
          simp [commas]
theorem rdSeqE_sound {f : List UInt8 → Option (α × List UInt8)} {g : α → List UInt8} (hf : ∀ l a r, f l = some (a, r) → l = g a ++ r) (e : UInt8) (l : List UInt8) (us : List α) (r : List UInt8) (h : rdSeqE f e l = some (us, r)) : l = commas (us.map g) ++ e :: r := by
  unfold rdSeqE at h
  split at h
  · rename_i r' hr
    cases h
    simpa [commas] using eat_some hr
  · split at h
    · cases h
    · rename_i us' q hq
      split at h
      · cases h
      · rename_i r' hr
        cases h
        rw [(rdSeq_sound hf _ _ _ _ hq).1, eat_some hr]
/-- All parts that are read were read by f. -/
theorem rdSeq_all {f : List UInt8 → Option (α × List UInt8)} {P : α → Prop} (hf : ∀ l a r, f l = some (a, r) → P a) : ∀ (n : Nat) (l : List UInt8) (us : List α) (q : List UInt8), rdSeq f n l = some (us, q) → ∀ a ∈ us, P a := by
  intro n
  induction n with
  | zero =>
    intro l us q h
    cases h
  | succ n ih =>
    intro l us q h
    rw [rdSeq] at h
    split at h
    · cases h
    · rename_i a r ha
      split at h
      · cases h
        intro b hb
        rw [List.mem_singleton.1 hb]
        exact hf _ _ _ ha
      · rename_i r2 hr2
        split at h
        · cases h
        · rename_i us' q' hq
          cases h
          intro b hb
          rcases List.mem_cons.1 hb with rfl | hb
          · exact hf _ _ _ ha
          · exact ih _ _ _ hq b hb
theorem rdSeqE_all {f : List UInt8 → Option (α × List UInt8)} {P : α → Prop} (hf : ∀ l a r, f l = some (a, r) → P a) (e : UInt8) (l : List UInt8) (us : List α) (r : List UInt8) (h : rdSeqE f e l = some (us, r)) : ∀ a ∈ us, P a := by
  unfold rdSeqE at h
  split at h
  · cases h
    intro a ha
    cases ha
  · split at h
    · cases h
    · rename_i us' q hq
      split at h
      · cases h
      · cases h
        exact rdSeq_all hf _ _ _ _ hq
/-- What comes behind a text: no digit. -/
def Stop (r : List UInt8) : Prop := ∀ c, r.head? = some c → digC c = false
theorem stop_cons (c : UInt8) (r : List UInt8) (h : digC c = false) : Stop (c :: r) := fun x hx => by
  simp at hx
  rw [← hx]
  exact h
theorem rdSeq_full {f : List UInt8 → Option (α × List UInt8)} {g : α → List UInt8} : ∀ (us : List α), us ≠ [] → (∀ a ∈ us, ∀ r, Stop r → f (g a ++ r) = some (a, r)) → ∀ (n : Nat) (e : UInt8) (r : List UInt8), e ≠ 44 → digC e = false → us.length ≤ n →
    rdSeq f n (commas (us.map g) ++ e :: r) = some (us, e :: r) := by
  intro us
  induction us with
  | nil => intro h; exact absurd rfl h
  | cons a aq ih =>
    intro _ hr n e r he hd hlen
    cases n with
    | zero => simp at hlen
    | succ n =>
      have ha := hr a (by simp)
      cases aq with
      | nil =>
        have e1 : commas ([a].map g) ++ e :: r = g a ++ e :: r := by simp [commas]
        rw [e1, rdSeq, ha _ (stop_cons e r hd)]
        simp only [eat_other r he]
      | cons b bs =>
        have e1 : commas ((a :: b :: bs).map g) ++ e :: r = g a ++ 44 :: (commas ((b :: bs).map g) ++ e :: r) := by simp [commas]
        have h1 := ih (by simp) (fun x h => hr x (by simp [h])) n e r he hd (by simpa using hlen)
        rw [e1, rdSeq, ha _ (stop_cons 44 _ (by decide))]
        simp only [eat_cons, h1]
end Parts

/-- A field: its label, its value. -/
def rdField (f : List UInt8 → Option (Va × List UInt8)) (l : List UInt8) : Option ((ByteArray × Va) × List UInt8) :=
  match eat 61 (l.dropWhile wordC) with
  | none => none
  | some r => match f r with
    | none => none
    | some (t, q) => some ((⟨(l.takeWhile wordC).toArray⟩, t), q)
def rdIntV (l : List UInt8) : Option (Va × List UInt8) :=
  match eat 45 l with
  | some r => match unItoa (45 :: r.takeWhile digC) with
    | none => none
    | some n => some (.mk 1 n ⟨#[]⟩ [] [], r.dropWhile digC)
  | none => match unItoa (l.takeWhile digC) with
    | none => none
    | some n => some (.mk 1 n ⟨#[]⟩ [] [], l.dropWhile digC)
def rdTag (f : List UInt8 → Option (Va × List UInt8)) (l : List UInt8) : Option (Va × List UInt8) :=
  match eat 32 (l.dropWhile wordC) with
  | none => none
  | some r => match f r with
    | none => none
    | some (t, q) => match eat 62 q with
      | none => none
      | some q2 => some (.mk 4 0 ⟨(l.takeWhile wordC).toArray⟩ [] [t], q2)
def rdRec (f : List UInt8 → Option (Va × List UInt8)) (l : List UInt8) : Option (Va × List UInt8) :=
  match rdSeqE (rdField f) 125 l with
  | none => none
  | some (ps, r) => some (.mk 3 0 ⟨#[]⟩ (ps.map (·.1)) (ps.map (·.2)), r)
def rdList (f : List UInt8 → Option (Va × List UInt8)) (l : List UInt8) : Option (Va × List UInt8) :=
  match rdSeqE f 93 l with
  | none => none
  | some (ts, r) => some (.mk 5 0 ⟨#[]⟩ [] ts, r)
/-- A value of n levels at most is read. -/
def rdVa : Nat → List UInt8 → Option (Va × List UInt8)
  | 0, _ => none
  | n + 1, l =>
    match eats [35, 116] l with
    | some r => some (.mk 2 1 ⟨#[]⟩ [] [], r)
    | none => match eats [35, 102] l with
      | some r => some (.mk 2 0 ⟨#[]⟩ [] [], r)
      | none => match eat 123 l with
        | some r => rdRec (rdVa n) r
        | none => match eat 91 l with
          | some r => rdList (rdVa n) r
          | none => match eat 60 l with
            | some r => rdTag (rdVa n) r
            | none => rdIntV l

/-- What is read is the text of what it is read as. -/
def SoundV (f : List UInt8 → Option (Va × List UInt8)) : Prop := ∀ l t r, f l = some (t, r) → l = txtV t ++ r
theorem word_split (l : List UInt8) : l = (⟨(l.takeWhile wordC).toArray⟩ : ByteArray).data.toList ++ l.dropWhile wordC := (List.takeWhile_append_dropWhile).symm
theorem rdField_sound {f : List UInt8 → Option (Va × List UInt8)} (hf : SoundV f) (l : List UInt8) (a : ByteArray × Va) (r : List UInt8) (h : rdField f l = some (a, r)) : l = (a.1.data.toList ++ 61 :: txtV a.2) ++ r := by
  unfold rdField at h
  split at h
  · cases h
  · rename_i q hq
    split at h
    · cases h
    · rename_i t q2 ht
      cases h
      have e1 := word_split l
      rw [eat_some hq, hf _ _ _ ht] at e1
      simpa using e1
theorem dig_split (l : List UInt8) : l = l.takeWhile digC ++ l.dropWhile digC := (List.takeWhile_append_dropWhile).symm
theorem rdInt_sound : SoundV rdIntV := by
  intro l t r h
  unfold rdIntV at h
  split at h
  · rename_i q hq
    split at h
    · cases h
    · rename_i n hn
      cases h
      rw [eat_some hq, txtV, nodeTxtV, if_pos rfl, ← (unItoa_some hn).1, List.cons_append, ← dig_split]
  · split at h
    · cases h
    · rename_i n hn
      cases h
      rw [txtV, nodeTxtV, if_pos rfl, ← (unItoa_some hn).1, ← dig_split]
theorem rdVa_sound (n : Nat) : SoundV (rdVa n) := by
  induction n with
  | zero =>
    intro l t r h
    cases h
  | succ n ih =>
    intro l t r h
    rw [rdVa] at h
    split at h
    · rename_i r' hr
      cases h
      rw [eats_some hr]
      simp [txtV, nodeTxtV]
    · split at h
      · rename_i r' hr
        cases h
        rw [eats_some hr]
        simp [txtV, nodeTxtV]
      · split at h
        · rename_i r' hr
          unfold rdRec at h
          split at h
          · cases h
          · rename_i ps q hq
            cases h
            have e1 := rdSeqE_sound (rdField_sound ih) _ _ _ _ hq
            rw [eat_some hr, e1, txtV, nodeTxtV, if_neg (by decide), if_neg (by decide), if_pos rfl, labE_map]
            simp
        · split at h
          · rename_i r' hr
            unfold rdList at h
            split at h
            · cases h
            · rename_i ts q hq
              cases h
              have e1 := rdSeqE_sound ih _ _ _ _ hq
              rw [eat_some hr, e1, txtV, nodeTxtV, if_neg (by decide), if_neg (by decide), if_neg (by decide), if_neg (by decide), txtVs_map]
              simp
          · split at h
            · rename_i r' hr
              unfold rdTag at h
              split at h
              · cases h
              · rename_i q hq
                split at h
                · cases h
                · rename_i u q2 hu
                  split at h
                  · cases h
                  · rename_i q3 hq3
                    cases h
                    have e1 := word_split r'
                    rw [eat_some hq, ih _ _ _ hu, eat_some hq3] at e1
                    have e2 := eat_some hr
                    rw [e1] at e2
                    rw [e2, txtV, nodeTxtV, if_neg (by decide), if_neg (by decide), if_neg (by decide), if_pos rfl]
                    simp [txtVs]
            · exact rdInt_sound _ _ _ h

theorem formVas_mem : ∀ {ts : List Va}, formVas ts = true → ∀ t ∈ ts, formVa t = true
  | [], _, t, h => by cases h
  | a :: r, h, t, ht => by
    rw [formVas, Bool.and_eq_true] at h
    rcases List.mem_cons.1 ht with rfl | h2
    · exact h.1
    · exact formVas_mem h.2 t h2
theorem depthVas_mem : ∀ {ts : List Va} {n : Nat}, depthVas ts ≤ n → ∀ t ∈ ts, depthVa t ≤ n
  | [], _, _, t, h => by cases h
  | a :: r, n, h, t, ht => by
    rw [depthVas] at h
    rcases List.mem_cons.1 ht with rfl | h2
    · omega
    · exact depthVas_mem (by omega) t h2
theorem take_digs {l r : List UInt8} (h : ∀ c ∈ l, digC c = true) (hr : Stop r) : (l ++ r).takeWhile digC = l ∧ (l ++ r).dropWhile digC = r := by
  induction l with
  | nil =>
    cases r with
    | nil => exact ⟨rfl, rfl⟩
    | cons c q =>
      have h1 := hr c rfl
      simp [h1]
  | cons a q ih =>
    have h1 := ih fun c hc => h c (by simp [hc])
    have h2 := h a (by simp)
    simp [h2, h1]
theorem digs_all (u : Nat) : ∀ c ∈ Lib.decDigits u, digC c = true := fun c hc => by
  have h := dec_dig u c hc
  unfold IsDig at h
  simp [digC, h]
theorem int_reads (n : Int) (r : List UInt8) (h1 : -999999999999 ≤ n) (h2 : n ≤ 999999999999) (hr : Stop r) : rdIntV (Lib.itoa n ++ r) = some (.mk 1 n ⟨#[]⟩ [] [], r) := by
  unfold rdIntV
  by_cases h : n < 0
  · have e : Lib.itoa n = 45 :: Lib.decDigits n.natAbs := by rw [Lib.itoa, if_pos h]
    have hd := take_digs (digs_all n.natAbs) hr
    rw [e, List.cons_append, eat_cons]
    simp only [hd.1, hd.2]
    rw [← e, unItoa_of rfl h1 h2]
  · have e : Lib.itoa n = Lib.decDigits n.toNat := by rw [Lib.itoa, if_neg h]
    have hd := take_digs (digs_all n.toNat) hr
    have h45 : eat 45 (Lib.decDigits n.toNat ++ r) = none := by
      obtain ⟨c, q, hcq⟩ : ∃ c q, Lib.decDigits n.toNat = c :: q := by
        cases hl : Lib.decDigits n.toNat with
        | nil => exact absurd hl (dec_ne _)
        | cons c q => exact ⟨c, q, rfl⟩
      have hc := digs_all n.toNat c (by rw [hcq]; simp)
      rw [hcq, List.cons_append]
      refine eat_other _ fun e => ?_
      rw [e] at hc
      exact absurd hc (by decide)
    rw [e, h45]
    simp only [hd.1, hd.2]
    rw [← e, unItoa_of rfl h1 h2]
/-- What the text of a number begins with. -/
theorem itoa_head (n : Int) : ∃ c q, Lib.itoa n = c :: q ∧ intC c = true := by
  by_cases h : n < 0
  · exact ⟨45, _, by rw [Lib.itoa, if_pos h], rfl⟩
  · have e : Lib.itoa n = Lib.decDigits n.toNat := by rw [Lib.itoa, if_neg h]
    cases hl : Lib.decDigits n.toNat with
    | nil => exact absurd hl (dec_ne _)
    | cons c q => exact ⟨c, q, by rw [e, hl], digC_intC (digs_all n.toNat c (by rw [hl]; simp))⟩
theorem word_taken2 (s : ByteArray) (h : isNameB s = true) (e : UInt8) (he : wordC e = false) (r : List UInt8) : (s.data.toList ++ e :: r).takeWhile wordC = s.data.toList ∧ (s.data.toList ++ e :: r).dropWhile wordC = e :: r := by
  have hw := name_word s h
  generalize s.data.toList = l at *
  induction l with
  | nil => simp [he]
  | cons a q ih =>
    have h1 := ih fun c hc => hw c (by simp [hc])
    have h2 := hw a (by simp)
    simp [h2, h1]
def ReadsV (f : List UInt8 → Option (Va × List UInt8)) (t : Va) : Prop := ∀ r, Stop r → f (txtV t ++ r) = some (t, r)
theorem field_reads {f : List UInt8 → Option (Va × List UInt8)} (l : ByteArray) (t : Va) (hl : isNameB l = true) (ht : ReadsV f t) (r : List UInt8) (hr : Stop r) : rdField f ((l.data.toList ++ 61 :: txtV t) ++ r) = some ((l, t), r) := by
  have e1 : (l.data.toList ++ 61 :: txtV t) ++ r = l.data.toList ++ 61 :: (txtV t ++ r) := by simp
  have hw := word_taken2 l hl 61 (by decide) (txtV t ++ r)
  rw [e1, rdField, hw.1, hw.2, eat_cons]
  simp only [ht r hr]
theorem zip_maps : ∀ (ls : List ByteArray) (ts : List Va), ls.length = ts.length → (ls.zip ts).map (·.1) = ls ∧ (ls.zip ts).map (·.2) = ts
  | [], [], _ => ⟨rfl, rfl⟩
  | [], _ :: _, h => by simp at h
  | _ :: _, [], h => by simp at h
  | l :: ls, t :: ts, h => by
    obtain ⟨h1, h2⟩ := zip_maps ls ts (by simpa using h)
    constructor
    · rw [List.zip_cons_cons, List.map_cons, h1]
    · rw [List.zip_cons_cons, List.map_cons, h2]
theorem commas_pos : ∀ (xs : List (List UInt8)), (∀ x ∈ xs, 1 ≤ x.length) → xs.length ≤ (commas xs).length
  | [], _ => Nat.le_refl _
  | [a], h => by
    have := h a (by simp)
    simpa [commas] using this
  | a :: b :: r, h => by
    have h1 := commas_pos (b :: r) fun x hx => h x (by simp [hx])
    simp only [commas, List.length_append, List.length_cons] at h1 ⊢
    omega
theorem txtV_pos (t : Va) : 1 ≤ (txtV t).length := by
  cases t with
  | mk k n nm ls ts =>
    rw [txtV]
    unfold nodeTxtV
    split
    · obtain ⟨c, q, e, _⟩ := itoa_head n
      rw [e]
      simp
    · split
      · simp
      · split
        · simp
        · split
          · simp
          · simp
/-- What the text of no number begins with. -/
theorem txtV_head (t : Va) (hk : t.kind ≠ 1) : ∃ c q, txtV t = c :: q ∧ (c = 35 ∨ c = 123 ∨ c = 60 ∨ c = 91) := by
  cases t with
  | mk k n nm ls ts =>
    have hk' : k ≠ 1 := hk
    rw [txtV]
    unfold nodeTxtV
    rw [if_neg hk']
    split
    · exact ⟨_, _, rfl, Or.inl rfl⟩
    · split
      · exact ⟨_, _, rfl, Or.inr (Or.inl rfl)⟩
      · split
        · exact ⟨_, _, rfl, Or.inr (Or.inr (Or.inl rfl))⟩
        · exact ⟨_, _, rfl, Or.inr (Or.inr (Or.inr rfl))⟩
/-- No text of a value begins with a closing sign. -/
theorem txtV_noend (t : Va) (e : UInt8) (he : e = 125 ∨ e = 93) (r : List UInt8) : eat e (txtV t ++ r) = none := by
  by_cases hk : t.kind = 1
  · cases t with
    | mk k n nm ls ts =>
      have hk' : k = 1 := hk
      rw [txtV, nodeTxtV, if_pos hk']
      obtain ⟨c, q, e1, h1⟩ := itoa_head n
      rw [e1, List.cons_append]
      refine eat_other _ fun e2 => ?_
      rw [e2] at h1
      rcases he with rfl | rfl <;> exact absurd h1 (by decide)
  · obtain ⟨c, q, e1, h1⟩ := txtV_head t hk
    rw [e1, List.cons_append]
    refine eat_other _ fun e2 => ?_
    rw [e2] at h1
    rcases he with rfl | rfl <;> exact absurd h1 (by decide)
theorem rdVa_full (n : Nat) : ∀ (t : Va), formVa t = true → depthVa t ≤ n → smallB t = true → ReadsV (rdVa n) t := by
  induction n with
  | zero =>
    intro t _ h
    rw [depthVa_eq] at h
    omega
  | succ n ih =>
    intro t hf hd hs r hr
    cases t with
    | mk k n0 nm ls ts =>
      rw [formVa, Bool.and_eq_true] at hf
      rw [depthVa] at hd
      rw [smallB, Bool.and_eq_true] at hs
      have hts : ∀ t ∈ ts, ReadsV (rdVa n) t := fun t ht => ih t (formVas_mem hf.1 t ht) (depthVas_mem (by omega) t ht) (smallBs_mem hs.2 t ht)
      have hnode := hf.2
      unfold nodeVB at hnode
      by_cases h1 : k = 1
      · rw [if_pos h1] at hnode
        simp only [Bool.and_eq_true, decide_eq_true_eq] at hnode
        obtain ⟨⟨hnm, hls⟩, hm⟩ := hnode
        obtain rfl : nm = ⟨#[]⟩ := size_nil hnm
        obtain rfl : ls = [] := List.eq_nil_of_length_eq_zero hls
        obtain rfl : ts = [] := List.eq_nil_of_length_eq_zero hm
        subst h1
        have hsn := hs.1
        simp only [decide_eq_true_eq] at hsn
        have hI := int_reads n0 r hsn.1 hsn.2 hr
        rw [txtV, nodeTxtV, if_pos rfl]
        obtain ⟨c, q, e1, h1⟩ := itoa_head n0
        have hn1 : ∀ x : UInt8, intC x = false → c ≠ x := fun x hx e => by rw [e, hx] at h1; cases h1
        rw [rdVa]
        have g1 : eats [35, 116] (Lib.itoa n0 ++ r) = none := by
          rw [e1]
          simp only [eats, List.cons_append, List.isPrefixOf]
          have : ((35 : UInt8) == c) = false := by rw [beq_eq_false_iff_ne]; exact fun e => hn1 35 (by decide) e.symm
          rw [this]
          rfl
        have g2 : eats [35, 102] (Lib.itoa n0 ++ r) = none := by
          rw [e1]
          simp only [eats, List.cons_append, List.isPrefixOf]
          have : ((35 : UInt8) == c) = false := by rw [beq_eq_false_iff_ne]; exact fun e => hn1 35 (by decide) e.symm
          rw [this]
          rfl
        have g3 : eat 123 (Lib.itoa n0 ++ r) = none := by rw [e1]; exact eat_other _ (hn1 123 (by decide))
        have g4 : eat 91 (Lib.itoa n0 ++ r) = none := by rw [e1]; exact eat_other _ (hn1 91 (by decide))
        have g5 : eat 60 (Lib.itoa n0 ++ r) = none := by rw [e1]; exact eat_other _ (hn1 60 (by decide))
        simp only [g1, g2, g3, g4, g5]
        exact hI
      · rw [if_neg h1] at hnode
        by_cases h2 : k = 2
        · rw [if_pos h2] at hnode
          simp only [Bool.and_eq_true, decide_eq_true_eq] at hnode
          obtain ⟨⟨⟨hnm, hls⟩, hm⟩, hn⟩ := hnode
          obtain rfl : nm = ⟨#[]⟩ := size_nil hnm
          obtain rfl : ls = [] := List.eq_nil_of_length_eq_zero hls
          obtain rfl : ts = [] := List.eq_nil_of_length_eq_zero hm
          subst h2
          rw [txtV, nodeTxtV, if_neg (by decide), if_pos rfl]
          by_cases hn1 : n0 = 1
          · subst hn1
            have e1 : ([35, if (1 : Int) = 1 then 116 else 102] : List UInt8) ++ r = [35, 116] ++ r := rfl
            rw [e1, rdVa, eats_append]
          · obtain rfl : n0 = 0 := by omega
            have e1 : ([35, if (0 : Int) = 1 then 116 else 102] : List UInt8) ++ r = [35, 102] ++ r := rfl
            have e2 : eats [35, 116] (([35, 102] : List UInt8) ++ r) = none := by
              simp [eats, List.isPrefixOf]
            rw [e1, rdVa, e2]
            simp only [eats_append]
        · rw [if_neg h2] at hnode
          have nohash : ∀ (c : UInt8) (q : List UInt8) (x : UInt8), c ≠ 35 → eats [35, x] (c :: q) = none := fun c q x hc => by
            have : ((35 : UInt8) == c) = false := by rw [beq_eq_false_iff_ne]; exact fun e => hc e.symm
            simp [eats, List.isPrefixOf, this]
          by_cases h3 : k = 3
          · rw [if_pos h3] at hnode
            simp only [Bool.and_eq_true, decide_eq_true_eq] at hnode
            obtain ⟨⟨⟨hnm, hn⟩, hm⟩, hlab⟩ := hnode
            obtain rfl : nm = ⟨#[]⟩ := size_nil hnm
            subst h3 hn
            have hz := zip_maps ls ts hm.symm
            have hzl : (ls.zip ts).length = ls.length := by rw [List.length_zip]; omega
            have hne : ls.zip ts ≠ [] := fun e => by
              have h := congrArg List.length e
              rw [hzl] at h
              exact labelsB_some hlab (List.eq_nil_of_length_eq_zero h)
            have hpos : ls.length ≤ (commas (labE ls (txtVs ts))).length := by
              have h := commas_pos (labE ls (txtVs ts)) fun x hx => by
                have e2 := labE_map (ls.zip ts)
                rw [hz.1, hz.2] at e2
                rw [e2] at hx
                obtain ⟨p, _, rfl⟩ := List.mem_map.1 hx
                simp
                omega
              have e2 := labE_map (ls.zip ts)
              rw [hz.1, hz.2] at e2
              rw [e2, List.length_map, hzl] at h
              rw [e2]
              exact h
            rw [txtV, nodeTxtV, if_neg (by decide), if_neg (by decide), if_pos rfl]
            rw [List.cons_append, rdVa]
            simp only [nohash 123 _ _ (by decide), eat_cons]
            have hseq : rdSeq (rdField (rdVa n)) ((commas (labE ls (txtVs ts)) ++ [125] ++ r).length + 1) (commas (labE ls (txtVs ts)) ++ [125] ++ r) = some (ls.zip ts, 125 :: r) := by
              have e2 := labE_map (ls.zip ts)
              rw [hz.1, hz.2] at e2
              have h := rdSeq_full (f := rdField (rdVa n)) (g := fun p : ByteArray × Va => p.1.data.toList ++ 61 :: txtV p.2) (ls.zip ts) hne (fun p hp q hq => field_reads p.1 p.2 (labelsB_names hlab _ (List.of_mem_zip hp).1) (hts _ (List.of_mem_zip hp).2) q hq) ((commas (labE ls (txtVs ts)) ++ [125] ++ r).length + 1) 125 r (by decide) (by decide) (by rw [hzl]; rw [List.length_append, List.length_append]; omega)
              rw [← e2] at h
              rw [show commas (labE ls (txtVs ts)) ++ [125] ++ r = commas (labE ls (txtVs ts)) ++ 125 :: r by simp] at h ⊢
              exact h
            have hno : eat 125 (commas (labE ls (txtVs ts)) ++ [125] ++ r) = none := by
              obtain ⟨p, ps, hps⟩ : ∃ p ps, ls.zip ts = p :: ps := by
                cases hzz : ls.zip ts with
                | nil => exact absurd hzz hne
                | cons p ps => exact ⟨p, ps, rfl⟩
              have hp1 := labelsB_names hlab p.1 (List.of_mem_zip (show p ∈ ls.zip ts by rw [hps]; simp)).1
              have hw := name_word p.1 hp1
              have hsz := isNameB_size p.1 hp1
              obtain ⟨c, q, hc⟩ : ∃ c q, p.1.data.toList = c :: q := by
                cases hl : p.1.data.toList with
                | nil =>
                  have h2 : p.1.data.toList.length = p.1.size := by simp
                  rw [hl] at h2
                  simp at h2
                  omega
                | cons c q => exact ⟨c, q, rfl⟩
              have hwc := hw c (by rw [hc]; simp)
              have e2 := labE_map (ls.zip ts)
              rw [hz.1, hz.2, hps, List.map_cons, hc] at e2
              obtain ⟨q2, hq2⟩ : ∃ q2, commas (labE ls (txtVs ts)) = c :: q2 := by
                rw [e2]
                cases ps.map fun p : ByteArray × Va => p.1.data.toList ++ 61 :: txtV p.2 with
                | nil => exact ⟨_, rfl⟩
                | cons b bs => exact ⟨_, rfl⟩
              rw [hq2, List.cons_append, List.cons_append]
              refine eat_other _ fun e => ?_
              rw [e] at hwc
              exact absurd hwc (by decide)
            rw [rdRec, rdSeqE, hno, hseq]
            simp only [eat_cons, hz.1, hz.2]
          · rw [if_neg h3] at hnode
            by_cases h4 : k = 4
            · rw [if_pos h4] at hnode
              simp only [Bool.and_eq_true, decide_eq_true_eq] at hnode
              obtain ⟨⟨⟨hnm, hls⟩, hn⟩, hm⟩ := hnode
              obtain rfl : ls = [] := List.eq_nil_of_length_eq_zero hls
              obtain ⟨t, rfl⟩ := List.length_eq_one_iff.1 hm
              subst h4 hn
              have ht := hts t (by simp) (62 :: r) (stop_cons 62 r (by decide))
              have hw := word_taken2 nm hnm 32 (by decide) (txtV t ++ 62 :: r)
              have e1 : txtV (.mk 4 0 nm [] [t]) ++ r = 60 :: (nm.data.toList ++ 32 :: (txtV t ++ 62 :: r)) := by
                rw [txtV, nodeTxtV, if_neg (by decide), if_neg (by decide), if_neg (by decide), if_pos rfl]
                simp [txtVs]
              rw [e1, rdVa]
              simp only [nohash 60 _ _ (by decide), eat_cons, show eat 123 (60 :: (nm.data.toList ++ 32 :: (txtV t ++ 62 :: r))) = none from eat_other _ (by decide), show eat 91 (60 :: (nm.data.toList ++ 32 :: (txtV t ++ 62 :: r))) = none from eat_other _ (by decide)]
              rw [rdTag, hw.1, hw.2, eat_cons]
              simp only [ht, eat_cons]
            · rw [if_neg h4] at hnode
              by_cases h5 : k = 5
              · rw [if_pos h5] at hnode
                simp only [Bool.and_eq_true, decide_eq_true_eq] at hnode
                obtain ⟨⟨hnm, hls⟩, hn⟩ := hnode
                obtain rfl : nm = ⟨#[]⟩ := size_nil hnm
                obtain rfl : ls = [] := List.eq_nil_of_length_eq_zero hls
                subst h5 hn
                have e1 : txtV (.mk 5 0 ⟨#[]⟩ [] ts) ++ r = 91 :: (commas (ts.map txtV) ++ 93 :: r) := by
                  rw [txtV, nodeTxtV, if_neg (by decide), if_neg (by decide), if_neg (by decide), if_neg (by decide), txtVs_map]
                  simp
                rw [e1, rdVa]
                simp only [nohash 91 _ _ (by decide), eat_cons, show eat 123 (91 :: (commas (ts.map txtV) ++ 93 :: r)) = none from eat_other _ (by decide)]
                rw [rdList]
                cases ts with
                | nil => simp [rdSeqE, commas, eat]
                | cons a q =>
                  have hno : eat 93 (commas ((a :: q).map txtV) ++ 93 :: r) = none := by
                    cases hq : q.map txtV with
                    | nil =>
                      rw [List.map_cons, hq]
                      exact txtV_noend a 93 (Or.inr rfl) _
                    | cons b bs =>
                      rw [List.map_cons, hq, commas, List.append_assoc]
                      exact txtV_noend a 93 (Or.inr rfl) _
                  have hpos := commas_pos ((a :: q).map txtV) fun x hx => by
                    obtain ⟨u, _, rfl⟩ := List.mem_map.1 hx
                    exact txtV_pos u
                  rw [List.length_map] at hpos
                  have hseq := rdSeq_full (f := rdVa n) (g := txtV) (a :: q) (by simp) (fun t ht => hts t ht) ((commas ((a :: q).map txtV) ++ 93 :: r).length + 1) 93 r (by decide) (by decide) (by rw [List.length_append]; omega)
                  rw [rdSeqE, hno, hseq]
                  simp only [eat_cons]
              · rw [if_neg h5] at hnode
                cases hnode

/-- The value of a text: valid, with this text. -/
def parseVB (s : ByteArray) : Option Va :=
  match rdVa 300 s.data.toList with
  | some (t, []) => if valueB t then some t else none
  | _ => none
theorem parseVB_some {s : ByteArray} {t : Va} (h : parseVB s = some t) : valueB t = true ∧ txtV t = s.data.toList := by
  unfold parseVB at h
  split at h
  · rename_i t' e
    split at h
    · cases h
      have := rdVa_sound 300 _ _ _ e
      simp_all
    · cases h
  · cases h
/-- The text of a value; nothing of another tree. -/
def formatVB (t : Va) : ByteArray := if valueB t then ⟨(txtV t).toArray⟩ else ⟨#[]⟩

end Go.Proofs.YtlmbnefoobameaaDoor
end

section
namespace Go.Proofs.YtlmbnefoobameaaDoor
open Go.RowKit

theorem emptySize0 : (⟨#[]⟩ : ByteArray).size = 0 := rfl
theorem itoa_len (n : Int) (h : -9223372036854775808 ≤ n ∧ n ≤ 9223372036854775807) : (Lib.itoa n).length ≤ 20 := by
  by_cases h0 : n < 0
  · rw [Lib.itoa, if_pos h0]
    have := dec_len 18 n.natAbs (by omega)
    simp
    omega
  · rw [Lib.itoa, if_neg h0]
    have := dec_len 18 n.toNat (by omega)
    omega
theorem labE_sum : ∀ (ls : List ByteArray) (xs : List (List UInt8)), (∀ l ∈ ls, l.size ≤ 4) → sumLens (labE ls xs) ≤ sumLens xs + 5 * xs.length ∧ (labE ls xs).length ≤ xs.length
  | [], xs, _ => by simp [labE, sumLens]
  | _ :: _, [], _ => by simp [labE, sumLens]
  | l :: ls, x :: xs, h => by
    have h1 := labE_sum ls xs fun l hl => h l (by simp [hl])
    have h2 := h l (by simp)
    have h3 : l.data.toList.length = l.size := by simp
    simp only [labE, sumLens, List.map_cons, List.sum_cons, List.length_append, List.length_cons] at h1 ⊢
    omega
theorem labE_same : ∀ (ls : List ByteArray) (xs : List (List UInt8)), ls.length = xs.length → (labE ls xs).length = ls.length
  | [], _, _ => rfl
  | _ :: _, [], h => by simp at h
  | l :: ls, x :: xs, h => by simp [labE, labE_same ls xs (by simpa using h)]
theorem labE_get : ∀ (ls : List ByteArray) (xs : List (List UInt8)) (k : Nat) (h1 : k < ls.length) (h2 : k < xs.length) (h3 : k < (labE ls xs).length), (labE ls xs)[k] = ls[k].data.toList ++ 61 :: xs[k]
  | [], _, _, h, _, _ => by simp at h
  | _ :: _, [], _, _, h, _ => by simp at h
  | l :: ls, x :: xs, 0, _, _, _ => rfl
  | l :: ls, x :: xs, k + 1, h1, h2, h3 => labE_get ls xs k (by simpa using h1) (by simpa using h2) (by simpa [labE] using h3)
theorem txtVs_sum : ∀ (ts : List Va), (∀ i, (h : i < ts.length) → (txtV ts[i]).length + 6 ≤ 26 * sizeVa ts[i]) → sumLens (txtVs ts) + 6 * ts.length ≤ 26 * sizeVas ts ∧ (txtVs ts).length = ts.length
  | [], _ => by simp [txtVs, sumLens, sizeVas]
  | t :: r, h => by
    have h1 := txtVs_sum r fun i hi => h (i + 1) (by simpa using hi)
    have h2 := h 0 (by simp)
    simp only [txtVs, sumLens, sizeVas, List.map_cons, List.sum_cons, List.length_cons, List.getElem_cons_zero] at h1 h2 ⊢
    omega
theorem formVas_get {ts : List Va} (h : formVas ts = true) (i : Nat) (hi : i < ts.length) : formVa ts[i] = true := formVas_mem h _ (List.getElem_mem hi)
/-- The kinds of nodes. -/
theorem nodeVB_kind {k n : Int} {nm : ByteArray} {ls : List ByteArray} {m : Nat} (h : nodeVB k n nm ls m = true) :
    k = 1 ∧ m = 0 ∨ k = 2 ∧ m = 0 ∧ 0 ≤ n ∧ n ≤ 1 ∨ k = 3 ∧ ls.length = m ∧ labelsB ls = true ∨ k = 4 ∧ m = 1 ∧ isNameB nm = true ∨ k = 5 := by
  unfold nodeVB at h
  split at h
  · simp only [Bool.and_eq_true, decide_eq_true_eq] at h
    exact Or.inl ⟨by assumption, h.2⟩
  · split at h
    · simp only [Bool.and_eq_true, decide_eq_true_eq] at h
      exact Or.inr (Or.inl ⟨by assumption, h.1.2, h.2⟩)
    · split at h
      · simp only [Bool.and_eq_true, decide_eq_true_eq] at h
        exact Or.inr (Or.inr (Or.inl ⟨by assumption, h.1.2.symm, h.2⟩))
      · split at h
        · simp only [Bool.and_eq_true, decide_eq_true_eq] at h
          exact Or.inr (Or.inr (Or.inr (Or.inl ⟨by assumption, h.2, h.1.1.1⟩)))
        · split at h
          · exact Or.inr (Or.inr (Or.inr (Or.inr (by assumption))))
          · cases h
theorem txtV_len (t : Va) : formVa t = true → numsB t = true → (txtV t).length + 6 ≤ 26 * sizeVa t := by
  induction t using Va.ind with
  | h k n nm ls ts ih =>
    intro hf hq
    rw [formVa, Bool.and_eq_true] at hf
    have hq2 := numsB_of _ hq
    obtain ⟨h1, h2⟩ := txtVs_sum ts fun i hi => ih i hi (formVas_get hf.1 i hi) (hq2.2 i hi)
    have hn := nodeVB_kind hf.2
    have hi := itoa_len n hq2.1
    rw [txtV, sizeVa]
    unfold nodeTxtV
    rcases hn with ⟨rfl, hm⟩ | ⟨rfl, hm, _⟩ | ⟨rfl, hm, hl⟩ | ⟨rfl, hm, hl⟩ | rfl
    · rw [if_pos rfl]
      omega
    · rw [if_neg (by decide), if_pos rfl]
      simp
      omega
    · rw [if_neg (by decide), if_neg (by decide), if_pos rfl]
      have h3 := labE_sum ls (txtVs ts) fun l hl2 => name_len (labelsB_names hl l hl2)
      have h4 := commas_len (labE ls (txtVs ts))
      simp only [List.length_cons, List.length_append, List.length_nil]
      omega
    · rw [if_neg (by decide), if_neg (by decide), if_neg (by decide), if_pos rfl]
      have h3 := name_len hl
      have h4 : nm.data.toList.length = nm.size := by simp
      have hh : (txtVs ts).headD [] = [] ∨ ((txtVs ts).headD []).length ≤ sumLens (txtVs ts) := by
        cases txtVs ts with
        | nil => exact .inl rfl
        | cons a r => exact .inr (by simp [sumLens])
      simp only [List.length_cons, List.length_append, List.length_nil]
      rcases hh with hh | hh
      · rw [hh]
        simp
        omega
      · omega
    · rw [if_neg (by decide), if_neg (by decide), if_neg (by decide), if_neg (by decide)]
      have h4 := commas_len (txtVs ts)
      simp only [List.length_cons, List.length_append, List.length_nil]
      omega

/-- A value that is read is no larger than its text. -/
theorem commas_sum : ∀ (xs : List (List UInt8)), sumLens xs + xs.length ≤ (commas xs).length + 1
  | [] => by simp [sumLens, commas]
  | [a] => by simp [sumLens, commas]
  | a :: b :: r => by
    have := commas_sum (b :: r)
    simp only [commas, sumLens, List.map_cons, List.sum_cons, List.length_append, List.length_cons] at this ⊢
    omega
theorem szVas_le_sum : ∀ (ts : List Va), (∀ t ∈ ts, szVa t + 1 ≤ (txtV t).length) → szVas ts ≤ sumLens (ts.map txtV)
  | [], _ => by simp [szVas, sumLens]
  | t :: r, h => by
    have h1 := szVas_le_sum r fun u hu => h u (by simp [hu])
    have h2 := h t (by simp)
    simp only [szVas, sumLens, List.map_cons, List.sum_cons] at h1 ⊢
    omega
theorem szPairs_le_sum : ∀ (ps : List (ByteArray × Va)), (∀ p ∈ ps, szVa p.2 + 1 ≤ (txtV p.2).length) → (ps.map (·.1)).length + sumSizes (ps.map (·.1)) + szVas (ps.map (·.2)) ≤ sumLens (ps.map fun p => p.1.data.toList ++ 61 :: txtV p.2)
  | [], _ => by simp [szVas, sumLens, sumSizes]
  | p :: r, h => by
    have h1 := szPairs_le_sum r fun u hu => h u (by simp [hu])
    have h2 := h p (by simp)
    have h3 : p.1.data.toList.length = p.1.size := by simp
    simp only [szVas, sumLens, sumSizes, List.map_cons, List.sum_cons, List.length_append, List.length_cons] at h1 ⊢
    omega
theorem rdVa_sz (n : Nat) : ∀ (l : List UInt8) (t : Va) (r : List UInt8), rdVa n l = some (t, r) → szVa t + 1 ≤ (txtV t).length := by
  induction n with
  | zero =>
    intro l t r h
    cases h
  | succ n ih =>
    intro l t r h
    rw [rdVa] at h
    split at h
    · cases h
      simp [szVa, szVas, sumSizes, txtV, nodeTxtV, emptySize0]
    · split at h
      · cases h
        simp [szVa, szVas, sumSizes, txtV, nodeTxtV, emptySize0]
      · split at h
        · unfold rdRec at h
          split at h
          · cases h
          · rename_i ps q hq
            cases h
            have hall := rdSeqE_all (P := fun p : ByteArray × Va => szVa p.2 + 1 ≤ (txtV p.2).length) (fun l a r h => by
              unfold rdField at h
              split at h
              · cases h
              · split at h
                · cases h
                · rename_i t q ht
                  cases h
                  exact ih _ _ _ ht) _ _ _ _ hq
            have h1 := szPairs_le_sum ps hall
            rw [txtV, nodeTxtV, if_neg (by decide), if_neg (by decide), if_pos rfl, labE_map]
            have h2 := commas_sum (ps.map fun p : ByteArray × Va => p.1.data.toList ++ 61 :: txtV p.2)
            simp only [szVa, List.length_cons, List.length_append, List.length_nil, emptySize0] at h1 h2 ⊢
            simp
            simp at h1 h2
            omega
        · split at h
          · unfold rdList at h
            split at h
            · cases h
            · rename_i ts q hq
              cases h
              have hall := rdSeqE_all (P := fun t : Va => szVa t + 1 ≤ (txtV t).length) ih _ _ _ _ hq
              have h1 := szVas_le_sum ts hall
              rw [txtV, nodeTxtV, if_neg (by decide), if_neg (by decide), if_neg (by decide), if_neg (by decide), txtVs_map]
              have h2 := commas_sum (ts.map txtV)
              simp only [szVa, List.length_cons, List.length_append, List.length_nil, emptySize0] at h1 h2 ⊢
              simp [sumSizes]
              omega
          · split at h
            · unfold rdTag at h
              split at h
              · cases h
              · split at h
                · cases h
                · rename_i u q2 hu
                  split at h
                  · cases h
                  · cases h
                    have h1 := ih _ _ _ hu
                    rw [txtV, nodeTxtV, if_neg (by decide), if_neg (by decide), if_neg (by decide), if_pos rfl]
                    generalize (⟨(List.takeWhile wordC _).toArray⟩ : ByteArray) = nm
                    have h2 : nm.data.toList.length = nm.size := by simp
                    have h3 : szVa (.mk 4 0 nm [] [u]) = nm.size + (1 + szVa u) := by simp [szVa, szVas, sumSizes]
                    rw [h3]
                    simp only [txtVs, List.headD_cons, List.length_cons, List.length_append, List.length_nil]
                    omega
            · unfold rdIntV at h
              split at h
              · split at h
                · cases h
                · cases h
                  rw [szVa]
                  have := txtV_pos (.mk 1 (by assumption) ⟨#[]⟩ [] [])
                  simpa [szVas, sumSizes, emptySize0] using this
              · split at h
                · cases h
                · cases h
                  rw [szVa]
                  have := txtV_pos (.mk 1 (by assumption) ⟨#[]⟩ [] [])
                  simpa [szVas, sumSizes, emptySize0] using this

theorem parseVB_of {s : ByteArray} {t : Va} (hv : valueB t = true) (hs : smallB t = true) (ht : txtV t = s.data.toList) : parseVB s = some t := by
  have h := hv
  unfold valueB at h
  simp only [Bool.and_eq_true, decide_eq_true_eq] at h
  have h1 := rdVa_full 300 t h.2 (by have := depth_le_sizeV t; omega) hs [] (fun c hc => by cases hc)
  rw [List.append_nil, ht] at h1
  unfold parseVB
  rw [h1]
  simp [hv]
theorem rdVa_small (n : Nat) : ∀ (l : List UInt8) (t : Va) (r : List UInt8), rdVa n l = some (t, r) → smallB t = true := by
  induction n with
  | zero =>
    intro l t r h
    cases h
  | succ n ih =>
    intro l t r h
    rw [rdVa] at h
    split at h
    · cases h
      rfl
    · split at h
      · cases h
        rfl
      · split at h
        · unfold rdRec at h
          split at h
          · cases h
          · rename_i ps q hq
            cases h
            have hall := rdSeqE_all (P := fun p : ByteArray × Va => smallB p.2 = true) (fun l a r h => by
              unfold rdField at h
              split at h
              · cases h
              · split at h
                · cases h
                · rename_i t q ht
                  cases h
                  exact ih _ _ _ ht) _ _ _ _ hq
            rw [smallB, smallBs_of _ fun t ht => by
              obtain ⟨p, hp, rfl⟩ := List.mem_map.1 ht
              exact hall p hp]
            rfl
        · split at h
          · unfold rdList at h
            split at h
            · cases h
            · rename_i ts q hq
              cases h
              rw [smallB, smallBs_of _ (rdSeqE_all (P := fun t : Va => smallB t = true) ih _ _ _ _ hq)]
              rfl
          · split at h
            · unfold rdTag at h
              split at h
              · cases h
              · split at h
                · cases h
                · rename_i u q2 hu
                  split at h
                  · cases h
                  · cases h
                    rw [smallB, smallBs, smallBs, ih _ _ _ hu]
                    rfl
            · unfold rdIntV at h
              split at h
              · split at h
                · cases h
                · rename_i n hn
                  cases h
                  have := unItoa_some hn
                  simp [smallB, smallBs, this]
              · split at h
                · cases h
                · rename_i n hn
                  cases h
                  have := unItoa_some hn
                  simp [smallB, smallBs, this]
end Go.Proofs.YtlmbnefoobameaaDoor
end

section
namespace Go.Proofs.YtlmbnefoobameaaDoor
open Go.RowKit

theorem osize_nil {nm : ByteArray} (h : nm.size = 0) : nm = ⟨#[]⟩ := by
  obtain ⟨⟨l⟩⟩ := nm
  have : l = [] := List.length_eq_zero_iff.1 h
  rw [this]
theorem otoList_nil_no {nm : ByteArray} (h : nm.size ≠ 0) : (nm.toList == []) = false := by
  rw [ByteArray.toList_eq]
  obtain ⟨⟨l⟩⟩ := nm
  cases l with
  | nil => exact absurd rfl h
  | cons x r => rfl
theorem isNameB_pos (s : ByteArray) (h : isNameB s = true) : s.size ≠ 0 := by
  unfold isNameB at h
  simp only [Bool.and_eq_true, decide_eq_true_eq] at h
  omega
/-- How many parts a kind has; -1 for no kind. -/
def arityI (k : Int) : Int := if k = 11 then 1 else if k = 12 ∨ k = 13 then 2 else if 1 ≤ k ∧ k ≤ 10 then 0 else -1
/-- The number that fits a kind. -/
def numOB (k n : Int) : Bool := if k = 6 then decide (0 ≤ n ∧ n ≤ 1000) else if k = 7 then decide (-1000 ≤ n ∧ n ≤ 1000) else decide (n = 0)
/-- Has a node of this kind this name, this number and so many parts? -/
def nodeOB (k n : Int) (nm : ByteArray) (m : Nat) : Bool :=
  (if k = 2 ∨ k = 3 ∨ k = 10 then isNameB nm else decide (nm.size = 0)) && decide ((m : Int) = arityI k) && numOB k n
mutual
/-- Has every node one of the forms? -/
def formOt : Ot → Bool | .mk k n nm ts => formOts ts && nodeOB k n nm ts.length
def formOts : List Ot → Bool | [] => true | t :: r => formOt t && formOts r
end
theorem formOts_all : ∀ (ts : List Ot), (∀ i, (h : i < ts.length) → formOt ts[i] = true) → formOts ts = true
  | [], _ => by rw [formOts]
  | t :: r, h => by
    rw [formOts, show formOt t = true from h 0 (by simp), formOts_all r fun i hi => h (i + 1) (by simpa using hi)]
    rfl
theorem formOts_no : ∀ (ts : List Ot) (i : Nat) (h : i < ts.length), formOt ts[i] = false → formOts ts = false
  | [], i, h, _ => absurd h (by simp)
  | t :: r, 0, _, e => by
    rw [formOts]
    have : formOt t = false := e
    rw [this]
    rfl
  | t :: r, i + 1, h, e => by
    rw [formOts, formOts_no r i (by simpa using h) (by simpa using e), Bool.and_false]
theorem formOts_at : ∀ (ts : List Ot), formOts ts = true → ∀ i, (h : i < ts.length) → formOt ts[i] = true := by
  intro ts h i hi
  cases hf : formOt ts[i] with
  | true => rfl
  | false => rw [formOts_no ts i hi hf] at h; cases h
theorem formOt_eq (t : Ot) : formOt t = (formOts t.args && nodeOB t.kind t.num t.name t.args.length) := by
  cases t
  rw [formOt]
  rfl

theorem specArity_any (k : Int) (w : World) : Calls Tryd.prog 129 #[.int .i64 k] w fun e w' => e = .returned (.int .i64 (arityI k)) ∧ w = w' := by
  by_cases h1 : k = 11
  · subst h1
    go_enter Tryd.func129, Tryd.ntmps129
    go_wp2
    go_ret
    exact ⟨rfl, rfl⟩
  · have i1 : (k == 11) = false := by rw [beq_eq_false_iff_ne]; exact h1
    by_cases h2 : k = 12
    · subst h2
      go_enter Tryd.func129, Tryd.ntmps129
      go_wp2
      go_ret
      exact ⟨rfl, rfl⟩
    · have i2 : (k == 12) = false := by rw [beq_eq_false_iff_ne]; exact h2
      by_cases h3 : k = 13
      · subst h3
        go_enter Tryd.func129, Tryd.ntmps129
        go_wp2
        go_ret
        exact ⟨rfl, rfl⟩
      · have i3 : (k == 13) = false := by rw [beq_eq_false_iff_ne]; exact h3
        by_cases h4 : 1 ≤ k ∧ k ≤ 10
        · have hr := Lib.hid (show arityI k = 0 by unfold arityI; rw [if_neg h1, if_neg (by omega), if_pos h4])
          have HI := Lib.hid (fun W => l1In_yes k 1 10 W h4.1 h4.2)
          clear h1 h2 h3 h4
          go_enter Tryd.func129, Tryd.ntmps129
          go_wp2_with fail
          refine (HI.out _).mono ?_
          rintro e w1 ⟨rfl, rfl⟩
          go_wp2
          go_ret
          exact ⟨by rw [hr.out]; rfl, rfl⟩
        · have hr := Lib.hid (show arityI k = -1 by unfold arityI; rw [if_neg h1, if_neg (by omega), if_neg h4])
          have HI := Lib.hid (fun W => l1In_no k 1 10 W (by omega))
          clear h1 h2 h3 h4
          go_enter Tryd.func129, Tryd.ntmps129
          go_wp2_with fail
          refine (HI.out _).mono ?_
          rintro e w1 ⟨rfl, rfl⟩
          go_wp2
          go_ret
          exact ⟨by rw [hr.out]; rfl, rfl⟩

def FormOOne (f : Nat) (t : Ot) : Prop := ∀ (v : Value) (w : World), OtAt w w.heap.size v t → szOt t ≤ 1048576 → Calls Tryd.prog f #[v] w (BoolIs (formOt t) w)

set_option maxHeartbeats 8000000 in
theorem specFormO_of (k0 n0 : Int) (nm : ByteArray) (ts : List Ot) (hall : ∀ i, (h : i < ts.length) → FormOOne 95 ts[i]) : FormOOne 95 (.mk k0 n0 nm ts) := by
  intro v w hv hsz
  have hse := szOt_eq (.mk k0 n0 nm ts)
  have hfe : formOt (.mk k0 n0 nm ts) = (formOts ts && nodeOB k0 n0 nm ts.length) := by rw [formOt]
  obtain ⟨A, ac, rfl, hnm, ha⟩ := hv.open
  simp only [Ot.kind, Ot.num, Ot.name, Ot.args] at *
  have hm := ha.1
  unfold maxLen at hm
  have hsz2 : szOts ts ≤ 1048576 := by omega
  have HALL := Lib.hid hall
  have HFE := Lib.hid hfe
  have HNM0 := Lib.hid hnm
  clear hall hv hfe hse hnm
  obtain ⟨hb0, p0, hs0⟩ := boxes1 w 50 #[.int .i64 k0, .string nm, .int .i64 n0, .slice A ts.length ac]
  have ha0 := ha.up hb0
  have HZ := Lib.hid hs0
  clear ha hs0
  go_enter Tryd.func95, Tryd.ntmps95
  go_wp2
  generalize w.alloc (.cells #[.int .i64 k0, .string nm, .int .i64 n0, .slice A ts.length ac] 50) = w0 at *
  have hpl := p0.lt
  go_loopw [3] (fun i wr => ∃ k : Nat, k ≤ ts.length ∧ i = .int .i64 k ∧ (∀ j, (hj : j < ts.length) → j < k → formOt ts[j] = true) ∧ Below w0.heap.size w0 wr) (fun i _ => ts.length - (intOf i).toNat)
  case atStart => exact ⟨0, Nat.zero_le _, rfl, fun j _ h => absurd h (by omega), Below.refl _ _⟩
  case round =>
    obtain ⟨k, hk, rfl, hall, hb⟩ := hrel
    have HA := Lib.hid hall
    clear hall
    have p1 := p0.below hb hpl
    have c4 : wr.cell? ⟨w.heap.size, 3, none⟩ = some (.slice A ts.length ac) := p1.cell 3
    by_cases hlt : k < ts.length
    · obtain ⟨b, off, A1, ac1, rfl, hbl, q0, q1, q2, q3, ht⟩ := (ha0.below hb).elem k hlt
      have hpt := szOt_part ts k hlt
      have HT := HALL.out k hlt _ wr (ht.more hb.size) (by omega)
      cases hfk : formOt ts[k]
      · rw [hfk] at HT
        have HT' := Lib.hid HT
        have hr := Lib.hid (show formOt (.mk k0 n0 nm ts) = false by rw [HFE.out, formOts_no ts k hlt hfk]; rfl)
        clear ht p1 HT hfk
        go_wp2_with fail
        refine HT'.out.mono ?_
        rintro e w1 ⟨rfl, hb1⟩
        go_wp2
        go_ret
        exact ⟨by rw [hr.out]; rfl, hb0.trans ((hb.trans (hb1.mono hb.size)).mono hb0.size)⟩
      · rw [hfk] at HT
        have HT' := Lib.hid HT
        have HK := Lib.hid hfk
        clear ht p1 HT hfk
        go_wp2_with fail
        refine HT'.out.mono ?_
        rintro e w1 ⟨rfl, hb1⟩
        go_wp2
        go_roundw
        case rel =>
          refine ⟨k + 1, by omega, by go_num, fun j hj h => ?_, hb.trans (hb1.mono hb.size)⟩
          by_cases e : j = k
          · subst e
            exact HK.out
          · exact HA.out j hj (by omega)
        case measure => simp [intOf]; omega
    · have hke : k = ts.length := by omega
      subst hke
      have hft := Lib.hid (formOts_all ts fun i hi => HA.out i hi hi)
      have c0 : wr.cell? ⟨w.heap.size, 0, none⟩ = some (.int .i64 k0) := p1.cell 0
      have c1 : wr.cell? ⟨w.heap.size, 1, none⟩ = some (.string nm) := p1.cell 1
      have c2 : wr.cell? ⟨w.heap.size, 2, none⟩ = some (.int .i64 n0) := p1.cell 2
      have hb' := hb0.trans (hb.mono hb0.size)
      have hres : Hid (formOt (.mk k0 n0 nm ts) = nodeOB k0 n0 nm ts.length) := Lib.hid (by rw [HFE.out, hft.out]; rfl)
      have HNB : ∀ W, Calls Tryd.prog 87 #[.string nm] W fun e w' => e = .returned (.bool (isNameB nm)) ∧ w' = W := fun W => (specIsName_any nm W HNM0.out).mono fun _ _ h => ⟨h.1, h.2.symm⟩
      have HAR : Hid (∀ W, Calls Tryd.prog 129 #[.int .i64 k0] W fun e w' => e = .returned (.int .i64 (arityI k0)) ∧ w' = W) := Lib.hid (fun W => (specArity_any k0 W).mono fun _ _ h => ⟨h.1, h.2.symm⟩)
      have hz := isNameB_pos nm
      have hpl2 : w.heap.size < wr.heap.size := p1.lt
      clear p1
      by_cases hk2 : k0 = 2
      · subst hk2
        cases hin : isNameB nm
        · rw [hin] at HNB
          have HNB' := Lib.hid HNB
          have hr := Lib.hid (show nodeOB 2 n0 nm ts.length = false by unfold nodeOB; simp [hin])
          clear hin HNB hz
          go_wp2
          go_quiet ((first | (go_at_call 87; exact Calls.quiet_of_same (HNB'.out _)) | (go_at_call 129; exact Calls.quiet_of_same (HAR.out _))))
          have x0 : (wr.drewN nq).cell? ⟨w.heap.size, 0, none⟩ = some (.int .i64 2) := c0
          have x1 : (wr.drewN nq).cell? ⟨w.heap.size, 1, none⟩ = some (.string nm) := c1
          have x2 : (wr.drewN nq).cell? ⟨w.heap.size, 2, none⟩ = some (.int .i64 n0) := c2
          have x3 : (wr.drewN nq).cell? ⟨w.heap.size, 3, none⟩ = some (.slice A ts.length ac) := c4
          have xb := drewN_below wr nq
          clear c0 c1 c2 c4
          generalize wr.drewN nq = wx at *
          go_wp2
          go_ret
          exact ⟨by rw [hres.out, hr.out]; rfl, hb'.trans (xb.mono hb'.size)⟩
        · rw [hin] at HNB
          have HNB' := Lib.hid HNB
          have HIN := Lib.hid hin
          rw [show arityI 2 = 0 from rfl] at HAR
          clear hin HNB hz
          by_cases hm1 : (ts.length : Int) = 0
          · have i3 : ((ts.length : Int) != 0) = false := by rw [bne_eq_false_iff_eq]; exact hm1
            by_cases hn0 : n0 = 0
            · have i4 : (n0 == 0) = true := by rw [beq_iff_eq]; exact hn0
              have hr := Lib.hid (show nodeOB 2 n0 nm ts.length = true by unfold nodeOB numOB; simp [HIN.out, hn0, hm1, arityI])
              clear  hm1 hn0
              go_wp2
              go_quiet ((first | (go_at_call 87; exact Calls.quiet_of_same (HNB'.out _)) | (go_at_call 129; exact Calls.quiet_of_same (HAR.out _))))
              have x0 : (wr.drewN nq).cell? ⟨w.heap.size, 0, none⟩ = some (.int .i64 2) := c0
              have x1 : (wr.drewN nq).cell? ⟨w.heap.size, 1, none⟩ = some (.string nm) := c1
              have x2 : (wr.drewN nq).cell? ⟨w.heap.size, 2, none⟩ = some (.int .i64 n0) := c2
              have x3 : (wr.drewN nq).cell? ⟨w.heap.size, 3, none⟩ = some (.slice A ts.length ac) := c4
              have xb := drewN_below wr nq
              clear c0 c1 c2 c4
              generalize wr.drewN nq = wx at *
              go_wp2
              go_ret
              exact ⟨by rw [hres.out, hr.out]; rfl, hb'.trans (xb.mono hb'.size)⟩
            · have i4 : (n0 == 0) = false := by rw [beq_eq_false_iff_ne]; exact hn0
              have hr := Lib.hid (show nodeOB 2 n0 nm ts.length = false by unfold nodeOB numOB; simp [hn0])
              clear  hm1 hn0
              go_wp2
              go_quiet ((first | (go_at_call 87; exact Calls.quiet_of_same (HNB'.out _)) | (go_at_call 129; exact Calls.quiet_of_same (HAR.out _))))
              have x0 : (wr.drewN nq).cell? ⟨w.heap.size, 0, none⟩ = some (.int .i64 2) := c0
              have x1 : (wr.drewN nq).cell? ⟨w.heap.size, 1, none⟩ = some (.string nm) := c1
              have x2 : (wr.drewN nq).cell? ⟨w.heap.size, 2, none⟩ = some (.int .i64 n0) := c2
              have x3 : (wr.drewN nq).cell? ⟨w.heap.size, 3, none⟩ = some (.slice A ts.length ac) := c4
              have xb := drewN_below wr nq
              clear c0 c1 c2 c4
              generalize wr.drewN nq = wx at *
              go_wp2
              go_ret
              exact ⟨by rw [hres.out, hr.out]; rfl, hb'.trans (xb.mono hb'.size)⟩
          · have i3 : ((ts.length : Int) != 0) = true := by rw [bne_iff_ne]; exact hm1
            have hr := Lib.hid (show nodeOB 2 n0 nm ts.length = false by unfold nodeOB; rw [show decide ((ts.length : Int) = arityI 2) = false from decide_eq_false (by first | exact hm1 | (simp [arityI]; omega)), Bool.and_false, Bool.false_and])
            clear  hm1
            go_wp2
            go_quiet ((first | (go_at_call 87; exact Calls.quiet_of_same (HNB'.out _)) | (go_at_call 129; exact Calls.quiet_of_same (HAR.out _))))
            have x0 : (wr.drewN nq).cell? ⟨w.heap.size, 0, none⟩ = some (.int .i64 2) := c0
            have x1 : (wr.drewN nq).cell? ⟨w.heap.size, 1, none⟩ = some (.string nm) := c1
            have x2 : (wr.drewN nq).cell? ⟨w.heap.size, 2, none⟩ = some (.int .i64 n0) := c2
            have x3 : (wr.drewN nq).cell? ⟨w.heap.size, 3, none⟩ = some (.slice A ts.length ac) := c4
            have xb := drewN_below wr nq
            clear c0 c1 c2 c4
            generalize wr.drewN nq = wx at *
            go_wp2
            go_ret
            exact ⟨by rw [hres.out, hr.out]; rfl, hb'.trans (xb.mono hb'.size)⟩
      · have e2 : (k0 == 2) = false := by rw [beq_eq_false_iff_ne]; exact hk2
        by_cases hk3 : k0 = 3
        · subst hk3
          cases hin : isNameB nm
          · rw [hin] at HNB
            have HNB' := Lib.hid HNB
            have hr := Lib.hid (show nodeOB 3 n0 nm ts.length = false by unfold nodeOB; simp [hin])
            clear hin HNB hz
            go_wp2
            go_quiet ((first | (go_at_call 87; exact Calls.quiet_of_same (HNB'.out _)) | (go_at_call 129; exact Calls.quiet_of_same (HAR.out _))))
            have x0 : (wr.drewN nq).cell? ⟨w.heap.size, 0, none⟩ = some (.int .i64 3) := c0
            have x1 : (wr.drewN nq).cell? ⟨w.heap.size, 1, none⟩ = some (.string nm) := c1
            have x2 : (wr.drewN nq).cell? ⟨w.heap.size, 2, none⟩ = some (.int .i64 n0) := c2
            have x3 : (wr.drewN nq).cell? ⟨w.heap.size, 3, none⟩ = some (.slice A ts.length ac) := c4
            have xb := drewN_below wr nq
            clear c0 c1 c2 c4
            generalize wr.drewN nq = wx at *
            go_wp2
            go_ret
            exact ⟨by rw [hres.out, hr.out]; rfl, hb'.trans (xb.mono hb'.size)⟩
          · rw [hin] at HNB
            have HNB' := Lib.hid HNB
            have HIN := Lib.hid hin
            rw [show arityI 3 = 0 from rfl] at HAR
            clear hin HNB hz
            by_cases hm1 : (ts.length : Int) = 0
            · have i3 : ((ts.length : Int) != 0) = false := by rw [bne_eq_false_iff_eq]; exact hm1
              by_cases hn0 : n0 = 0
              · have i4 : (n0 == 0) = true := by rw [beq_iff_eq]; exact hn0
                have hr := Lib.hid (show nodeOB 3 n0 nm ts.length = true by unfold nodeOB numOB; simp [HIN.out, hn0, hm1, arityI])
                clear  hm1 hn0
                go_wp2
                go_quiet ((first | (go_at_call 87; exact Calls.quiet_of_same (HNB'.out _)) | (go_at_call 129; exact Calls.quiet_of_same (HAR.out _))))
                have x0 : (wr.drewN nq).cell? ⟨w.heap.size, 0, none⟩ = some (.int .i64 3) := c0
                have x1 : (wr.drewN nq).cell? ⟨w.heap.size, 1, none⟩ = some (.string nm) := c1
                have x2 : (wr.drewN nq).cell? ⟨w.heap.size, 2, none⟩ = some (.int .i64 n0) := c2
                have x3 : (wr.drewN nq).cell? ⟨w.heap.size, 3, none⟩ = some (.slice A ts.length ac) := c4
                have xb := drewN_below wr nq
                clear c0 c1 c2 c4
                generalize wr.drewN nq = wx at *
                go_wp2
                go_ret
                exact ⟨by rw [hres.out, hr.out]; rfl, hb'.trans (xb.mono hb'.size)⟩
              · have i4 : (n0 == 0) = false := by rw [beq_eq_false_iff_ne]; exact hn0
                have hr := Lib.hid (show nodeOB 3 n0 nm ts.length = false by unfold nodeOB numOB; simp [hn0])
                clear  hm1 hn0
                go_wp2
                go_quiet ((first | (go_at_call 87; exact Calls.quiet_of_same (HNB'.out _)) | (go_at_call 129; exact Calls.quiet_of_same (HAR.out _))))
                have x0 : (wr.drewN nq).cell? ⟨w.heap.size, 0, none⟩ = some (.int .i64 3) := c0
                have x1 : (wr.drewN nq).cell? ⟨w.heap.size, 1, none⟩ = some (.string nm) := c1
                have x2 : (wr.drewN nq).cell? ⟨w.heap.size, 2, none⟩ = some (.int .i64 n0) := c2
                have x3 : (wr.drewN nq).cell? ⟨w.heap.size, 3, none⟩ = some (.slice A ts.length ac) := c4
                have xb := drewN_below wr nq
                clear c0 c1 c2 c4
                generalize wr.drewN nq = wx at *
                go_wp2
                go_ret
                exact ⟨by rw [hres.out, hr.out]; rfl, hb'.trans (xb.mono hb'.size)⟩
            · have i3 : ((ts.length : Int) != 0) = true := by rw [bne_iff_ne]; exact hm1
              have hr := Lib.hid (show nodeOB 3 n0 nm ts.length = false by unfold nodeOB; rw [show decide ((ts.length : Int) = arityI 3) = false from decide_eq_false (by first | exact hm1 | (simp [arityI]; omega)), Bool.and_false, Bool.false_and])
              clear  hm1
              go_wp2
              go_quiet ((first | (go_at_call 87; exact Calls.quiet_of_same (HNB'.out _)) | (go_at_call 129; exact Calls.quiet_of_same (HAR.out _))))
              have x0 : (wr.drewN nq).cell? ⟨w.heap.size, 0, none⟩ = some (.int .i64 3) := c0
              have x1 : (wr.drewN nq).cell? ⟨w.heap.size, 1, none⟩ = some (.string nm) := c1
              have x2 : (wr.drewN nq).cell? ⟨w.heap.size, 2, none⟩ = some (.int .i64 n0) := c2
              have x3 : (wr.drewN nq).cell? ⟨w.heap.size, 3, none⟩ = some (.slice A ts.length ac) := c4
              have xb := drewN_below wr nq
              clear c0 c1 c2 c4
              generalize wr.drewN nq = wx at *
              go_wp2
              go_ret
              exact ⟨by rw [hres.out, hr.out]; rfl, hb'.trans (xb.mono hb'.size)⟩
        · have e3 : (k0 == 3) = false := by rw [beq_eq_false_iff_ne]; exact hk3
          by_cases hk10 : k0 = 10
          · subst hk10
            cases hin : isNameB nm
            · rw [hin] at HNB
              have HNB' := Lib.hid HNB
              have hr := Lib.hid (show nodeOB 10 n0 nm ts.length = false by unfold nodeOB; simp [hin])
              clear hin HNB hz
              go_wp2
              go_quiet ((first | (go_at_call 87; exact Calls.quiet_of_same (HNB'.out _)) | (go_at_call 129; exact Calls.quiet_of_same (HAR.out _))))
              have x0 : (wr.drewN nq).cell? ⟨w.heap.size, 0, none⟩ = some (.int .i64 10) := c0
              have x1 : (wr.drewN nq).cell? ⟨w.heap.size, 1, none⟩ = some (.string nm) := c1
              have x2 : (wr.drewN nq).cell? ⟨w.heap.size, 2, none⟩ = some (.int .i64 n0) := c2
              have x3 : (wr.drewN nq).cell? ⟨w.heap.size, 3, none⟩ = some (.slice A ts.length ac) := c4
              have xb := drewN_below wr nq
              clear c0 c1 c2 c4
              generalize wr.drewN nq = wx at *
              go_wp2
              go_ret
              exact ⟨by rw [hres.out, hr.out]; rfl, hb'.trans (xb.mono hb'.size)⟩
            · rw [hin] at HNB
              have HNB' := Lib.hid HNB
              have HIN := Lib.hid hin
              rw [show arityI 10 = 0 from rfl] at HAR
              clear hin HNB hz
              by_cases hm1 : (ts.length : Int) = 0
              · have i3 : ((ts.length : Int) != 0) = false := by rw [bne_eq_false_iff_eq]; exact hm1
                by_cases hn0 : n0 = 0
                · have i4 : (n0 == 0) = true := by rw [beq_iff_eq]; exact hn0
                  have hr := Lib.hid (show nodeOB 10 n0 nm ts.length = true by unfold nodeOB numOB; simp [HIN.out, hn0, hm1, arityI])
                  clear  hm1 hn0
                  go_wp2
                  go_quiet ((first | (go_at_call 87; exact Calls.quiet_of_same (HNB'.out _)) | (go_at_call 129; exact Calls.quiet_of_same (HAR.out _))))
                  have x0 : (wr.drewN nq).cell? ⟨w.heap.size, 0, none⟩ = some (.int .i64 10) := c0
                  have x1 : (wr.drewN nq).cell? ⟨w.heap.size, 1, none⟩ = some (.string nm) := c1
                  have x2 : (wr.drewN nq).cell? ⟨w.heap.size, 2, none⟩ = some (.int .i64 n0) := c2
                  have x3 : (wr.drewN nq).cell? ⟨w.heap.size, 3, none⟩ = some (.slice A ts.length ac) := c4
                  have xb := drewN_below wr nq
                  clear c0 c1 c2 c4
                  generalize wr.drewN nq = wx at *
                  go_wp2
                  go_ret
                  exact ⟨by rw [hres.out, hr.out]; rfl, hb'.trans (xb.mono hb'.size)⟩
                · have i4 : (n0 == 0) = false := by rw [beq_eq_false_iff_ne]; exact hn0
                  have hr := Lib.hid (show nodeOB 10 n0 nm ts.length = false by unfold nodeOB numOB; simp [hn0])
                  clear  hm1 hn0
                  go_wp2
                  go_quiet ((first | (go_at_call 87; exact Calls.quiet_of_same (HNB'.out _)) | (go_at_call 129; exact Calls.quiet_of_same (HAR.out _))))
                  have x0 : (wr.drewN nq).cell? ⟨w.heap.size, 0, none⟩ = some (.int .i64 10) := c0
                  have x1 : (wr.drewN nq).cell? ⟨w.heap.size, 1, none⟩ = some (.string nm) := c1
                  have x2 : (wr.drewN nq).cell? ⟨w.heap.size, 2, none⟩ = some (.int .i64 n0) := c2
                  have x3 : (wr.drewN nq).cell? ⟨w.heap.size, 3, none⟩ = some (.slice A ts.length ac) := c4
                  have xb := drewN_below wr nq
                  clear c0 c1 c2 c4
                  generalize wr.drewN nq = wx at *
                  go_wp2
                  go_ret
                  exact ⟨by rw [hres.out, hr.out]; rfl, hb'.trans (xb.mono hb'.size)⟩
              · have i3 : ((ts.length : Int) != 0) = true := by rw [bne_iff_ne]; exact hm1
                have hr := Lib.hid (show nodeOB 10 n0 nm ts.length = false by unfold nodeOB; rw [show decide ((ts.length : Int) = arityI 10) = false from decide_eq_false (by first | exact hm1 | (simp [arityI]; omega)), Bool.and_false, Bool.false_and])
                clear  hm1
                go_wp2
                go_quiet ((first | (go_at_call 87; exact Calls.quiet_of_same (HNB'.out _)) | (go_at_call 129; exact Calls.quiet_of_same (HAR.out _))))
                have x0 : (wr.drewN nq).cell? ⟨w.heap.size, 0, none⟩ = some (.int .i64 10) := c0
                have x1 : (wr.drewN nq).cell? ⟨w.heap.size, 1, none⟩ = some (.string nm) := c1
                have x2 : (wr.drewN nq).cell? ⟨w.heap.size, 2, none⟩ = some (.int .i64 n0) := c2
                have x3 : (wr.drewN nq).cell? ⟨w.heap.size, 3, none⟩ = some (.slice A ts.length ac) := c4
                have xb := drewN_below wr nq
                clear c0 c1 c2 c4
                generalize wr.drewN nq = wx at *
                go_wp2
                go_ret
                exact ⟨by rw [hres.out, hr.out]; rfl, hb'.trans (xb.mono hb'.size)⟩
          · have e10 : (k0 == 10) = false := by rw [beq_eq_false_iff_ne]; exact hk10
            by_cases hk6 : k0 = 6
            · subst hk6
              cases hin : isNameB nm
              · rw [hin] at HNB
                have HNB' := Lib.hid HNB
                clear hin HNB hz
                rw [show arityI 6 = 0 from rfl] at HAR
                by_cases hs0 : nm.size = 0
                · have hnil : nm = ⟨#[]⟩ := osize_nil hs0
                  subst hnil
                  by_cases hm1 : (ts.length : Int) = 0
                  · have i3 : ((ts.length : Int) != 0) = false := by rw [bne_eq_false_iff_eq]; exact hm1
                    by_cases hn0 : 0 ≤ n0 ∧ n0 ≤ 1000
                    · have HIN := Lib.hid (fun W => l1In_yes n0 (0) (1000) W hn0.1 hn0.2)
                      have hr := Lib.hid (show nodeOB 6 n0 ⟨#[]⟩ ts.length = true by unfold nodeOB numOB; simp [hn0, hm1, arityI, ByteArray.size])
                      clear hm1 hn0 hs0
                      go_wp2
                      go_quiet ((first | (go_at_call 87; exact Calls.quiet_of_same (HNB'.out _)) | (go_at_call 129; exact Calls.quiet_of_same (HAR.out _))))
                      have x0 : (wr.drewN nq).cell? ⟨w.heap.size, 0, none⟩ = some (.int .i64 6) := c0
                      have x1 : (wr.drewN nq).cell? ⟨w.heap.size, 1, none⟩ = some (.string ⟨#[]⟩) := c1
                      have x2 : (wr.drewN nq).cell? ⟨w.heap.size, 2, none⟩ = some (.int .i64 n0) := c2
                      have x3 : (wr.drewN nq).cell? ⟨w.heap.size, 3, none⟩ = some (.slice A ts.length ac) := c4
                      have xb := drewN_below wr nq
                      clear c0 c1 c2 c4
                      generalize wr.drewN nq = wx at *
                      go_wp2_with fail
                      refine (HIN.out _).mono ?_
                      rintro e w3 ⟨rfl, rfl⟩
                      go_wp2
                      go_ret
                      exact ⟨by rw [hres.out, hr.out]; rfl, hb'.trans (xb.mono hb'.size)⟩
                    · have HIN := Lib.hid (fun W => l1In_no n0 (0) (1000) W (by omega))
                      have hr := Lib.hid (show nodeOB 6 n0 ⟨#[]⟩ ts.length = false by unfold nodeOB numOB; rw [show decide (0 ≤ n0 ∧ n0 ≤ 1000) = false from decide_eq_false hn0]; simp)
                      clear hm1 hn0 hs0
                      go_wp2
                      go_quiet ((first | (go_at_call 87; exact Calls.quiet_of_same (HNB'.out _)) | (go_at_call 129; exact Calls.quiet_of_same (HAR.out _))))
                      have x0 : (wr.drewN nq).cell? ⟨w.heap.size, 0, none⟩ = some (.int .i64 6) := c0
                      have x1 : (wr.drewN nq).cell? ⟨w.heap.size, 1, none⟩ = some (.string ⟨#[]⟩) := c1
                      have x2 : (wr.drewN nq).cell? ⟨w.heap.size, 2, none⟩ = some (.int .i64 n0) := c2
                      have x3 : (wr.drewN nq).cell? ⟨w.heap.size, 3, none⟩ = some (.slice A ts.length ac) := c4
                      have xb := drewN_below wr nq
                      clear c0 c1 c2 c4
                      generalize wr.drewN nq = wx at *
                      go_wp2_with fail
                      refine (HIN.out _).mono ?_
                      rintro e w3 ⟨rfl, rfl⟩
                      go_wp2
                      go_ret
                      exact ⟨by rw [hres.out, hr.out]; rfl, hb'.trans (xb.mono hb'.size)⟩
                  · have i3 : ((ts.length : Int) != 0) = true := by rw [bne_iff_ne]; exact hm1
                    have hr := Lib.hid (show nodeOB 6 n0 ⟨#[]⟩ ts.length = false by unfold nodeOB; rw [show decide ((ts.length : Int) = arityI 6) = false from decide_eq_false (by first | exact hm1 | (simp [arityI]; omega)), Bool.and_false, Bool.false_and])
                    clear hs0 hm1
                    go_wp2
                    go_quiet ((first | (go_at_call 87; exact Calls.quiet_of_same (HNB'.out _)) | (go_at_call 129; exact Calls.quiet_of_same (HAR.out _))))
                    have x0 : (wr.drewN nq).cell? ⟨w.heap.size, 0, none⟩ = some (.int .i64 6) := c0
                    have x1 : (wr.drewN nq).cell? ⟨w.heap.size, 1, none⟩ = some (.string ⟨#[]⟩) := c1
                    have x2 : (wr.drewN nq).cell? ⟨w.heap.size, 2, none⟩ = some (.int .i64 n0) := c2
                    have x3 : (wr.drewN nq).cell? ⟨w.heap.size, 3, none⟩ = some (.slice A ts.length ac) := c4
                    have xb := drewN_below wr nq
                    clear c0 c1 c2 c4
                    generalize wr.drewN nq = wx at *
                    go_wp2
                    go_ret
                    exact ⟨by rw [hres.out, hr.out]; rfl, hb'.trans (xb.mono hb'.size)⟩
                · have i2 := otoList_nil_no hs0
                  have hr := Lib.hid (show nodeOB 6 n0 nm ts.length = false by unfold nodeOB; simp [hs0])
                  clear hs0
                  go_wp2
                  go_quiet ((first | (go_at_call 87; exact Calls.quiet_of_same (HNB'.out _)) | (go_at_call 129; exact Calls.quiet_of_same (HAR.out _))))
                  have x0 : (wr.drewN nq).cell? ⟨w.heap.size, 0, none⟩ = some (.int .i64 6) := c0
                  have x1 : (wr.drewN nq).cell? ⟨w.heap.size, 1, none⟩ = some (.string nm) := c1
                  have x2 : (wr.drewN nq).cell? ⟨w.heap.size, 2, none⟩ = some (.int .i64 n0) := c2
                  have x3 : (wr.drewN nq).cell? ⟨w.heap.size, 3, none⟩ = some (.slice A ts.length ac) := c4
                  have xb := drewN_below wr nq
                  clear c0 c1 c2 c4
                  generalize wr.drewN nq = wx at *
                  go_wp2
                  go_ret
                  exact ⟨by rw [hres.out, hr.out]; rfl, hb'.trans (xb.mono hb'.size)⟩
              · rw [hin] at HNB
                have HNB' := Lib.hid HNB
                have hz0 := hz hin
                have hr := Lib.hid (show nodeOB 6 n0 nm ts.length = false by unfold nodeOB; simp [hz0])
                clear hin HNB hz hz0
                go_wp2
                go_quiet ((first | (go_at_call 87; exact Calls.quiet_of_same (HNB'.out _)) | (go_at_call 129; exact Calls.quiet_of_same (HAR.out _))))
                have x0 : (wr.drewN nq).cell? ⟨w.heap.size, 0, none⟩ = some (.int .i64 6) := c0
                have x1 : (wr.drewN nq).cell? ⟨w.heap.size, 1, none⟩ = some (.string nm) := c1
                have x2 : (wr.drewN nq).cell? ⟨w.heap.size, 2, none⟩ = some (.int .i64 n0) := c2
                have x3 : (wr.drewN nq).cell? ⟨w.heap.size, 3, none⟩ = some (.slice A ts.length ac) := c4
                have xb := drewN_below wr nq
                clear c0 c1 c2 c4
                generalize wr.drewN nq = wx at *
                go_wp2
                go_ret
                exact ⟨by rw [hres.out, hr.out]; rfl, hb'.trans (xb.mono hb'.size)⟩
            · have e6 : (k0 == 6) = false := by rw [beq_eq_false_iff_ne]; exact hk6
              by_cases hk7 : k0 = 7
              · subst hk7
                cases hin : isNameB nm
                · rw [hin] at HNB
                  have HNB' := Lib.hid HNB
                  clear hin HNB hz
                  rw [show arityI 7 = 0 from rfl] at HAR
                  by_cases hs0 : nm.size = 0
                  · have hnil : nm = ⟨#[]⟩ := osize_nil hs0
                    subst hnil
                    by_cases hm1 : (ts.length : Int) = 0
                    · have i3 : ((ts.length : Int) != 0) = false := by rw [bne_eq_false_iff_eq]; exact hm1
                      by_cases hn0 : -1000 ≤ n0 ∧ n0 ≤ 1000
                      · have HIN := Lib.hid (fun W => l1In_yes n0 (-1000) (1000) W hn0.1 hn0.2)
                        have hr := Lib.hid (show nodeOB 7 n0 ⟨#[]⟩ ts.length = true by unfold nodeOB numOB; simp [hn0, hm1, arityI, ByteArray.size])
                        clear hm1 hn0 hs0
                        go_wp2
                        go_quiet ((first | (go_at_call 87; exact Calls.quiet_of_same (HNB'.out _)) | (go_at_call 129; exact Calls.quiet_of_same (HAR.out _))))
                        have x0 : (wr.drewN nq).cell? ⟨w.heap.size, 0, none⟩ = some (.int .i64 7) := c0
                        have x1 : (wr.drewN nq).cell? ⟨w.heap.size, 1, none⟩ = some (.string ⟨#[]⟩) := c1
                        have x2 : (wr.drewN nq).cell? ⟨w.heap.size, 2, none⟩ = some (.int .i64 n0) := c2
                        have x3 : (wr.drewN nq).cell? ⟨w.heap.size, 3, none⟩ = some (.slice A ts.length ac) := c4
                        have xb := drewN_below wr nq
                        clear c0 c1 c2 c4
                        generalize wr.drewN nq = wx at *
                        go_wp2_with fail
                        refine (HIN.out _).mono ?_
                        rintro e w3 ⟨rfl, rfl⟩
                        go_wp2
                        go_ret
                        exact ⟨by rw [hres.out, hr.out]; rfl, hb'.trans (xb.mono hb'.size)⟩
                      · have HIN := Lib.hid (fun W => l1In_no n0 (-1000) (1000) W (by omega))
                        have hr := Lib.hid (show nodeOB 7 n0 ⟨#[]⟩ ts.length = false by unfold nodeOB numOB; rw [show decide (-1000 ≤ n0 ∧ n0 ≤ 1000) = false from decide_eq_false hn0]; simp)
                        clear hm1 hn0 hs0
                        go_wp2
                        go_quiet ((first | (go_at_call 87; exact Calls.quiet_of_same (HNB'.out _)) | (go_at_call 129; exact Calls.quiet_of_same (HAR.out _))))
                        have x0 : (wr.drewN nq).cell? ⟨w.heap.size, 0, none⟩ = some (.int .i64 7) := c0
                        have x1 : (wr.drewN nq).cell? ⟨w.heap.size, 1, none⟩ = some (.string ⟨#[]⟩) := c1
                        have x2 : (wr.drewN nq).cell? ⟨w.heap.size, 2, none⟩ = some (.int .i64 n0) := c2
                        have x3 : (wr.drewN nq).cell? ⟨w.heap.size, 3, none⟩ = some (.slice A ts.length ac) := c4
                        have xb := drewN_below wr nq
                        clear c0 c1 c2 c4
                        generalize wr.drewN nq = wx at *
                        go_wp2_with fail
                        refine (HIN.out _).mono ?_
                        rintro e w3 ⟨rfl, rfl⟩
                        go_wp2
                        go_ret
                        exact ⟨by rw [hres.out, hr.out]; rfl, hb'.trans (xb.mono hb'.size)⟩
                    · have i3 : ((ts.length : Int) != 0) = true := by rw [bne_iff_ne]; exact hm1
                      have hr := Lib.hid (show nodeOB 7 n0 ⟨#[]⟩ ts.length = false by unfold nodeOB; rw [show decide ((ts.length : Int) = arityI 7) = false from decide_eq_false (by first | exact hm1 | (simp [arityI]; omega)), Bool.and_false, Bool.false_and])
                      clear hs0 hm1
                      go_wp2
                      go_quiet ((first | (go_at_call 87; exact Calls.quiet_of_same (HNB'.out _)) | (go_at_call 129; exact Calls.quiet_of_same (HAR.out _))))
                      have x0 : (wr.drewN nq).cell? ⟨w.heap.size, 0, none⟩ = some (.int .i64 7) := c0
                      have x1 : (wr.drewN nq).cell? ⟨w.heap.size, 1, none⟩ = some (.string ⟨#[]⟩) := c1
                      have x2 : (wr.drewN nq).cell? ⟨w.heap.size, 2, none⟩ = some (.int .i64 n0) := c2
                      have x3 : (wr.drewN nq).cell? ⟨w.heap.size, 3, none⟩ = some (.slice A ts.length ac) := c4
                      have xb := drewN_below wr nq
                      clear c0 c1 c2 c4
                      generalize wr.drewN nq = wx at *
                      go_wp2
                      go_ret
                      exact ⟨by rw [hres.out, hr.out]; rfl, hb'.trans (xb.mono hb'.size)⟩
                  · have i2 := otoList_nil_no hs0
                    have hr := Lib.hid (show nodeOB 7 n0 nm ts.length = false by unfold nodeOB; simp [hs0])
                    clear hs0
                    go_wp2
                    go_quiet ((first | (go_at_call 87; exact Calls.quiet_of_same (HNB'.out _)) | (go_at_call 129; exact Calls.quiet_of_same (HAR.out _))))
                    have x0 : (wr.drewN nq).cell? ⟨w.heap.size, 0, none⟩ = some (.int .i64 7) := c0
                    have x1 : (wr.drewN nq).cell? ⟨w.heap.size, 1, none⟩ = some (.string nm) := c1
                    have x2 : (wr.drewN nq).cell? ⟨w.heap.size, 2, none⟩ = some (.int .i64 n0) := c2
                    have x3 : (wr.drewN nq).cell? ⟨w.heap.size, 3, none⟩ = some (.slice A ts.length ac) := c4
                    have xb := drewN_below wr nq
                    clear c0 c1 c2 c4
                    generalize wr.drewN nq = wx at *
                    go_wp2
                    go_ret
                    exact ⟨by rw [hres.out, hr.out]; rfl, hb'.trans (xb.mono hb'.size)⟩
                · rw [hin] at HNB
                  have HNB' := Lib.hid HNB
                  have hz0 := hz hin
                  have hr := Lib.hid (show nodeOB 7 n0 nm ts.length = false by unfold nodeOB; simp [hz0])
                  clear hin HNB hz hz0
                  go_wp2
                  go_quiet ((first | (go_at_call 87; exact Calls.quiet_of_same (HNB'.out _)) | (go_at_call 129; exact Calls.quiet_of_same (HAR.out _))))
                  have x0 : (wr.drewN nq).cell? ⟨w.heap.size, 0, none⟩ = some (.int .i64 7) := c0
                  have x1 : (wr.drewN nq).cell? ⟨w.heap.size, 1, none⟩ = some (.string nm) := c1
                  have x2 : (wr.drewN nq).cell? ⟨w.heap.size, 2, none⟩ = some (.int .i64 n0) := c2
                  have x3 : (wr.drewN nq).cell? ⟨w.heap.size, 3, none⟩ = some (.slice A ts.length ac) := c4
                  have xb := drewN_below wr nq
                  clear c0 c1 c2 c4
                  generalize wr.drewN nq = wx at *
                  go_wp2
                  go_ret
                  exact ⟨by rw [hres.out, hr.out]; rfl, hb'.trans (xb.mono hb'.size)⟩
              · have e7 : (k0 == 7) = false := by rw [beq_eq_false_iff_ne]; exact hk7
                have hnn := Lib.hid (show ¬ (k0 = 2 ∨ k0 = 3 ∨ k0 = 10) by omega)
                have hn67 := Lib.hid (And.intro hk6 hk7)
                cases hin : isNameB nm
                · rw [hin] at HNB
                  have HNB' := Lib.hid HNB
                  clear hin HNB hz
                  generalize hai : arityI k0 = ai at HAR
                  have HAI := Lib.hid hai
                  clear hai
                  by_cases hs0 : nm.size = 0
                  · have hnil : nm = ⟨#[]⟩ := osize_nil hs0
                    subst hnil
                    by_cases hm1 : (ts.length : Int) = ai
                    · have i3 : ((ts.length : Int) != ai) = false := by rw [bne_eq_false_iff_eq]; exact hm1
                      by_cases hn0 : n0 = 0
                      · have i4 : (n0 == 0) = true := by rw [beq_iff_eq]; exact hn0
                        have hr := Lib.hid (show nodeOB k0 n0 ⟨#[]⟩ ts.length = true by unfold nodeOB numOB; rw [if_neg hnn.out, if_neg hn67.out.1, if_neg hn67.out.2, HAI.out]; simp [hm1, hn0, ByteArray.size])
                        clear hm1 hn0 hs0 hk2 hk3 hk10 hk6 hk7
                        go_wp2
                        go_quiet ((first | (go_at_call 87; exact Calls.quiet_of_same (HNB'.out _)) | (go_at_call 129; exact Calls.quiet_of_same (HAR.out _))))
                        have x0 : (wr.drewN nq).cell? ⟨w.heap.size, 0, none⟩ = some (.int .i64 k0) := c0
                        have x1 : (wr.drewN nq).cell? ⟨w.heap.size, 1, none⟩ = some (.string ⟨#[]⟩) := c1
                        have x2 : (wr.drewN nq).cell? ⟨w.heap.size, 2, none⟩ = some (.int .i64 n0) := c2
                        have x3 : (wr.drewN nq).cell? ⟨w.heap.size, 3, none⟩ = some (.slice A ts.length ac) := c4
                        have xb := drewN_below wr nq
                        clear c0 c1 c2 c4
                        generalize wr.drewN nq = wx at *
                        go_wp2
                        go_ret
                        exact ⟨by rw [hres.out, hr.out]; rfl, hb'.trans (xb.mono hb'.size)⟩
                      · have i4 : (n0 == 0) = false := by rw [beq_eq_false_iff_ne]; exact hn0
                        have hr := Lib.hid (show nodeOB k0 n0 ⟨#[]⟩ ts.length = false by unfold nodeOB numOB; rw [if_neg hn67.out.1, if_neg hn67.out.2]; simp [hn0])
                        clear hm1 hn0 hs0 hk2 hk3 hk10 hk6 hk7
                        go_wp2
                        go_quiet ((first | (go_at_call 87; exact Calls.quiet_of_same (HNB'.out _)) | (go_at_call 129; exact Calls.quiet_of_same (HAR.out _))))
                        have x0 : (wr.drewN nq).cell? ⟨w.heap.size, 0, none⟩ = some (.int .i64 k0) := c0
                        have x1 : (wr.drewN nq).cell? ⟨w.heap.size, 1, none⟩ = some (.string ⟨#[]⟩) := c1
                        have x2 : (wr.drewN nq).cell? ⟨w.heap.size, 2, none⟩ = some (.int .i64 n0) := c2
                        have x3 : (wr.drewN nq).cell? ⟨w.heap.size, 3, none⟩ = some (.slice A ts.length ac) := c4
                        have xb := drewN_below wr nq
                        clear c0 c1 c2 c4
                        generalize wr.drewN nq = wx at *
                        go_wp2
                        go_ret
                        exact ⟨by rw [hres.out, hr.out]; rfl, hb'.trans (xb.mono hb'.size)⟩
                    · have i3 : ((ts.length : Int) != ai) = true := by rw [bne_iff_ne]; exact hm1
                      have hr := Lib.hid (show nodeOB k0 n0 ⟨#[]⟩ ts.length = false by unfold nodeOB; rw [HAI.out, show decide ((ts.length : Int) = ai) = false from decide_eq_false hm1, Bool.and_false, Bool.false_and])
                      clear hm1 hs0 hk2 hk3 hk10 hk6 hk7
                      go_wp2
                      go_quiet ((first | (go_at_call 87; exact Calls.quiet_of_same (HNB'.out _)) | (go_at_call 129; exact Calls.quiet_of_same (HAR.out _))))
                      have x0 : (wr.drewN nq).cell? ⟨w.heap.size, 0, none⟩ = some (.int .i64 k0) := c0
                      have x1 : (wr.drewN nq).cell? ⟨w.heap.size, 1, none⟩ = some (.string ⟨#[]⟩) := c1
                      have x2 : (wr.drewN nq).cell? ⟨w.heap.size, 2, none⟩ = some (.int .i64 n0) := c2
                      have x3 : (wr.drewN nq).cell? ⟨w.heap.size, 3, none⟩ = some (.slice A ts.length ac) := c4
                      have xb := drewN_below wr nq
                      clear c0 c1 c2 c4
                      generalize wr.drewN nq = wx at *
                      go_wp2
                      go_ret
                      exact ⟨by rw [hres.out, hr.out]; rfl, hb'.trans (xb.mono hb'.size)⟩
                  · have i2 := otoList_nil_no hs0
                    have hr := Lib.hid (show nodeOB k0 n0 nm ts.length = false by unfold nodeOB; rw [if_neg hnn.out]; simp [hs0])
                    clear hs0 hk2 hk3 hk10 hk6 hk7
                    go_wp2
                    go_quiet ((first | (go_at_call 87; exact Calls.quiet_of_same (HNB'.out _)) | (go_at_call 129; exact Calls.quiet_of_same (HAR.out _))))
                    have x0 : (wr.drewN nq).cell? ⟨w.heap.size, 0, none⟩ = some (.int .i64 k0) := c0
                    have x1 : (wr.drewN nq).cell? ⟨w.heap.size, 1, none⟩ = some (.string nm) := c1
                    have x2 : (wr.drewN nq).cell? ⟨w.heap.size, 2, none⟩ = some (.int .i64 n0) := c2
                    have x3 : (wr.drewN nq).cell? ⟨w.heap.size, 3, none⟩ = some (.slice A ts.length ac) := c4
                    have xb := drewN_below wr nq
                    clear c0 c1 c2 c4
                    generalize wr.drewN nq = wx at *
                    go_wp2
                    go_ret
                    exact ⟨by rw [hres.out, hr.out]; rfl, hb'.trans (xb.mono hb'.size)⟩
                · rw [hin] at HNB
                  have HNB' := Lib.hid HNB
                  have hz0 := hz hin
                  have hr := Lib.hid (show nodeOB k0 n0 nm ts.length = false by unfold nodeOB; rw [if_neg hnn.out]; simp [hz0])
                  clear hin HNB hz hz0 hk2 hk3 hk10 hk6 hk7
                  go_wp2
                  go_quiet ((first | (go_at_call 87; exact Calls.quiet_of_same (HNB'.out _)) | (go_at_call 129; exact Calls.quiet_of_same (HAR.out _))))
                  have x0 : (wr.drewN nq).cell? ⟨w.heap.size, 0, none⟩ = some (.int .i64 k0) := c0
                  have x1 : (wr.drewN nq).cell? ⟨w.heap.size, 1, none⟩ = some (.string nm) := c1
                  have x2 : (wr.drewN nq).cell? ⟨w.heap.size, 2, none⟩ = some (.int .i64 n0) := c2
                  have x3 : (wr.drewN nq).cell? ⟨w.heap.size, 3, none⟩ = some (.slice A ts.length ac) := c4
                  have xb := drewN_below wr nq
                  clear c0 c1 c2 c4
                  generalize wr.drewN nq = wx at *
                  go_wp2
                  go_ret
                  exact ⟨by rw [hres.out, hr.out]; rfl, hb'.trans (xb.mono hb'.size)⟩

theorem specFormO_any (t : Ot) : FormOOne 95 t := by
  induction t using Ot.ind with
  | h k n nm ts ih => exact specFormO_of k n nm ts ih

/-- Is it an optic? -/
def opticB (t : Ot) : Bool := decide (sizeOt t ≤ 20) && decide (depthOt t ≤ 10) && formOt t

set_option maxHeartbeats 1000000 in
theorem specIsOptic_any (t : Ot) (v : Value) (w : World) (hv : OtAt w w.heap.size v t) (hsz : szOt t ≤ 1048576) :
    Calls Tryd.prog 56 #[v] w (BoolIs (opticB t) w) := by
  have hv0 := hv
  have hss := size_le_szO t
  have HL := Lib.hid (fun W h => specLeftO_any t v 20 W h (by omega) (by omega))
  have HD := Lib.hid (fun W h => specDepthO_any t v W h (by omega))
  have HF := Lib.hid (fun W h => specFormO_any t v W h hsz)
  obtain ⟨A, ac, rfl, _, _⟩ := hv.open
  obtain ⟨hb0, p0, hs0⟩ := boxes1 w 50 #[.int .i64 t.kind, .string t.name, .int .i64 t.num, .slice A t.args.length ac]
  have hv1 := hv0.up hb0
  have hpl := p0.lt
  have HZ := Lib.hid hs0
  clear hs0 hv hv0
  go_enter Tryd.func56, Tryd.ntmps56
  go_wp2_with fail
  generalize w.alloc (.cells #[.int .i64 t.kind, .string t.name, .int .i64 t.num, .slice A t.args.length ac] 50) = w0 at *
  refine (HL.out w0 hv1).mono ?_
  rintro e w1 ⟨rfl, hb1⟩
  have hb1' := hb0.trans (hb1.mono hb0.size)
  by_cases h30 : sizeOt t ≤ 20
  · rw [show leftOf 20 (sizeOt t) = 20 - sizeOt t by unfold leftOf; rw [if_neg (by omega)]]
    have i1 : (0 : Int) ≤ 20 - sizeOt t := by omega
    have p1 := p0.below hb1 hpl
    have hv2 := hv1.up hb1
    have c0 : w1.cell? ⟨w.heap.size, 0, none⟩ = some (.int .i64 t.kind) := p1.cell 0
    have c1 : w1.cell? ⟨w.heap.size, 1, none⟩ = some (.string t.name) := p1.cell 1
    have c2 : w1.cell? ⟨w.heap.size, 2, none⟩ = some (.int .i64 t.num) := p1.cell 2
    have c3 : w1.cell? ⟨w.heap.size, 3, none⟩ = some (.slice A t.args.length ac) := p1.cell 3
    have H30 := Lib.hid h30
    clear h30
    go_wp2_with fail
    refine (HD.out w1 hv2).mono ?_
    rintro e w2 ⟨rfl, hb2⟩
    have hb2' := hb1'.trans (hb2.mono hb1'.size)
    by_cases h10 : depthOt t ≤ 10
    · have i2 : (depthOt t : Int) ≤ 10 := by omega
      have p2 := p1.below hb2 p1.lt
      have hv3 := hv2.up hb2
      have d0 : w2.cell? ⟨w.heap.size, 0, none⟩ = some (.int .i64 t.kind) := p2.cell 0
      have d1 : w2.cell? ⟨w.heap.size, 1, none⟩ = some (.string t.name) := p2.cell 1
      have d2 : w2.cell? ⟨w.heap.size, 2, none⟩ = some (.int .i64 t.num) := p2.cell 2
      have d3 : w2.cell? ⟨w.heap.size, 3, none⟩ = some (.slice A t.args.length ac) := p2.cell 3
      have hr := Lib.hid (show opticB t = formOt t by unfold opticB; simp [H30.out, h10])
      clear h10
      go_wp2_with fail
      refine (HF.out w2 hv3).mono ?_
      rintro e w3 ⟨rfl, hb3⟩
      go_wp2
      go_ret
      exact ⟨by rw [hr.out]; rfl, hb2'.trans (hb3.mono hb2'.size)⟩
    · have i2 : ¬ (depthOt t : Int) ≤ 10 := by omega
      have hr := Lib.hid (show opticB t = false by unfold opticB; simp [h10])
      clear h10
      go_wp2
      go_ret
      exact ⟨by rw [hr.out]; rfl, hb2'⟩
  · rw [show leftOf 20 (sizeOt t) = -1 by unfold leftOf; rw [if_pos (by omega)]]
    have hr := Lib.hid (show opticB t = false by unfold opticB; simp [h30])
    clear h30
    go_wp2
    go_ret
    exact ⟨by rw [hr.out]; rfl, hb1'⟩

end Go.Proofs.YtlmbnefoobameaaDoor
end
