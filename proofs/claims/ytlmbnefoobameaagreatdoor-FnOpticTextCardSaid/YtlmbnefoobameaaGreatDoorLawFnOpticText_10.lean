/- Lemmas: VTxtS, VGather, VCopyLib, VGrow, ReadVStep, DefVa, SpecDef3, Read, SpecParseInt, ReadVInt, ImplIsName. -/
import Derived.Test.YtlmbnefoobameaaGreatDoorLawFnOpticText_8
import Derived.Test.YtlmbnefoobameaaGreatDoorLawFnOpticText_7
import Derived.Test.YtlmbnefoobameaaGreatDoorLawFnOpticText_9
import Derived.Deep.DeepCutAuto
import Derived.WalkKit
import Derived.BigGuard
import Derived.Laws.Strings
import Derived.Deep.RegionHeldLaw
import Derived.Shelf.LaysM
import Derived.Shelf.Strconv.Clone
import Derived.Test.YtlmbnefoobameaaGreatDoorProg
import Derived.Test.YtlmbnefoobameaaGreatDoorLawFnOpticText_5
import Derived.Test.YtlmbnefoobameaaGreatDoorLawFnOpticText_1
import Derived.Laws.RangeAny

section
namespace Go.Proofs.YtlmbnefoobameaaGreatDoor
open Go.RowKit

/-- Labels with parts, as far as commas stand between. -/
def rdLabE (f : List UInt8 → Option (Va × List UInt8)) : Nat → List UInt8 → Option (List ByteArray × List Va × List UInt8)
  | 0, _ => none
  | n + 1, l =>
    match eat 61 (l.dropWhile wordC) with
    | none => none
    | some r =>
      match f r with
      | none => none
      | some (t, r1) =>
        match eat 44 r1 with
        | none => some ([⟨(l.takeWhile wordC).toArray⟩], [t], r1)
        | some r2 =>
          match rdLabE f n r2 with
          | none => none
          | some (ls, ts, q) => some (⟨(l.takeWhile wordC).toArray⟩ :: ls, t :: ts, q)
def rdBoxE (f : List UInt8 → Option (Va × List UInt8)) (l : List UInt8) : Option (Va × List UInt8) :=
  match rdLabE f (l.length + 1) l with
  | none => none
  | some (ls, ts, q) => match eat 125 q with
    | none => none
    | some r => some (.mk 3 0 ⟨#[]⟩ ls ts, r)
/-- A value of n levels at most is read. -/
def rdVaS : Nat → List UInt8 → Option (Va × List UInt8)
  | 0, _ => none
  | n + 1, l =>
    match eats [35, 116] l with
    | some r => some (.mk 2 1 ⟨#[]⟩ [] [], r)
    | none => match eats [35, 102] l with
      | some r => some (.mk 2 0 ⟨#[]⟩ [] [], r)
      | none => match eat 123 l with
        | some r => rdBoxE (rdVaS n) r
        | none => match eat 91 l with
          | some r => rdList (rdVaS n) r
          | none => match eat 60 l with
            | some r => rdTag (rdVaS n) r
            | none => rdIntV l

theorem rdLabE_seq (f : List UInt8 → Option (Va × List UInt8)) : ∀ (n : Nat) (l : List UInt8), rdLabE f n l = (rdSeq (rdField f) n l).map fun x => (x.1.map (·.1), x.1.map (·.2), x.2) := by
  intro n
  induction n with
  | zero =>
    intro l
    rfl
  | succ n ih =>
    intro l
    rw [rdLabE, rdSeq, rdField]
    cases eat 61 (l.dropWhile wordC) with
    | none => rfl
    | some r =>
      simp only []
      cases f r with
      | none => rfl
      | some x =>
        obtain ⟨t, r1⟩ := x
        simp only []
        cases eat 44 r1 with
        | none => rfl
        | some r2 =>
          simp only []
          rw [ih r2]
          cases rdSeq (rdField f) n r2 with
          | none => rfl
          | some y => rfl
section Mono
variable {α : Type}
theorem rdSeq_mono {f g : List UInt8 → Option (α × List UInt8)} {P : α → Prop} (h : ∀ l a r, f l = some (a, r) → P a → g l = some (a, r)) : ∀ (n : Nat) (l : List UInt8) (us : List α) (q : List UInt8), rdSeq f n l = some (us, q) → (∀ a ∈ us, P a) → rdSeq g n l = some (us, q) := by
  intro n
  induction n with
  | zero =>
    intro l us q e
    cases e
  | succ n ih =>
    intro l us q e hP
    rw [rdSeq] at e ⊢
    split at e
    · cases e
    · rename_i a r ha
      split at e
      · rename_i h44
        cases e
        rw [h _ _ _ ha (hP a (by simp))]
        simp only [h44]
      · rename_i r2 h44
        split at e
        · cases e
        · rename_i us' q' hq
          cases e
          rw [h _ _ _ ha (hP a (by simp))]
          simp only [h44]
          rw [ih _ _ _ hq fun b hb => hP b (by simp [hb])]
theorem rdSeqE_mono {f g : List UInt8 → Option (α × List UInt8)} {P : α → Prop} (h : ∀ l a r, f l = some (a, r) → P a → g l = some (a, r)) (e : UInt8) (l : List UInt8) (us : List α) (r : List UInt8) (hx : rdSeqE f e l = some (us, r)) (hP : ∀ a ∈ us, P a) : rdSeqE g e l = some (us, r) := by
  unfold rdSeqE at hx ⊢
  split at hx
  · exact hx
  · rename_i hn
    split at hx
    · cases hx
    · rename_i us' q hq
      split at hx
      · cases hx
      · rename_i r' hr
        cases hx
        rw [rdSeq_mono h _ _ _ _ hq hP]
        simp only [hr]
end Mono
theorem rdField_mono {f g : List UInt8 → Option (Va × List UInt8)} {P : Va → Prop} (h : ∀ l a r, f l = some (a, r) → P a → g l = some (a, r)) (l : List UInt8) (a : ByteArray × Va) (r : List UInt8) (hx : rdField f l = some (a, r)) (hP : P a.2) : rdField g l = some (a, r) := by
  unfold rdField at hx ⊢
  split at hx
  · cases hx
  · rename_i r' hr
    split at hx
    · cases hx
    · rename_i t q ht
      cases hx
      rw [h _ _ _ ht hP]
theorem rdTag_mono {f g : List UInt8 → Option (Va × List UInt8)} {P : Va → Prop} (h : ∀ l a r, f l = some (a, r) → P a → g l = some (a, r)) (l : List UInt8) (t : Va) (r : List UInt8) (hx : rdTag f l = some (t, r)) (hP : ∀ u ∈ t.args, P u) : rdTag g l = some (t, r) := by
  unfold rdTag at hx ⊢
  split at hx
  · cases hx
  · rename_i r' hr
    split at hx
    · cases hx
    · rename_i u q hu
      split at hx
      · cases hx
      · rename_i q2 hq2
        cases hx
        rw [h _ _ _ hu (hP u (by simp [Va.args]))]
        simp only [hq2]
theorem rdList_mono {f g : List UInt8 → Option (Va × List UInt8)} {P : Va → Prop} (h : ∀ l a r, f l = some (a, r) → P a → g l = some (a, r)) (l : List UInt8) (t : Va) (r : List UInt8) (hx : rdList f l = some (t, r)) (hP : ∀ u ∈ t.args, P u) : rdList g l = some (t, r) := by
  unfold rdList at hx ⊢
  split at hx
  · cases hx
  · rename_i ts q hq
    cases hx
    rw [rdSeqE_mono h _ _ _ _ hq hP]
theorem rdSeq_brace (f : List UInt8 → Option (Va × List UInt8)) (n : Nat) (q : List UInt8) : rdSeq (rdField f) n (125 :: q) = none := by
  cases n with
  | zero => rfl
  | succ n =>
    rw [rdSeq, rdField, List.dropWhile_cons_of_neg (by decide)]
    simp only [show eat 61 (125 :: q) = none from eat_other _ (by decide)]
/-- What it reads the other reader reads. -/
theorem rdVaS_to (n : Nat) : ∀ (l : List UInt8) (t : Va) (r : List UInt8), rdVaS n l = some (t, r) → rdVa n l = some (t, r) := by
  induction n with
  | zero =>
    intro l t r h
    cases h
  | succ n ih =>
    intro l t r h
    have ih' : ∀ l a r, rdVaS n l = some (a, r) → True → rdVa n l = some (a, r) := fun l a r h _ => ih l a r h
    rw [rdVaS] at h
    rw [rdVa]
    split at h
    · rename_i h1
      simp only [h1]
      exact h
    · rename_i h1
      simp only [h1]
      split at h
      · rename_i h2
        simp only [h2]
        exact h
      · rename_i h2
        simp only [h2]
        split at h
        · rename_i r' h3
          simp only [h3]
          unfold rdBoxE at h
          rw [rdLabE_seq] at h
          unfold rdRec rdSeqE
          cases hb : eat 125 r' with
          | some q =>
            rw [eat_some hb, rdSeq_brace] at h
            cases h
          | none =>
            simp only []
            cases hs : rdSeq (rdField (rdVaS n)) (r'.length + 1) r' with
            | none => rw [hs] at h; cases h
            | some x =>
              obtain ⟨ps, q⟩ := x
              rw [hs] at h
              simp only [Option.map_some] at h
              rw [rdSeq_mono (P := fun _ => True) (fun l a r h _ => rdField_mono (P := fun _ => True) ih' l a r h trivial) _ _ _ _ hs (fun _ _ => trivial)]
              simp only []
              split at h
              · cases h
              · rename_i q2 hq2
                cases h
                simp only [hq2]
        · rename_i h3
          simp only [h3]
          split at h
          · rename_i h4
            simp only [h4]
            exact rdList_mono ih' _ _ _ h (fun _ _ => trivial)
          · rename_i h4
            simp only [h4]
            split at h
            · rename_i h5
              simp only [h5]
              exact rdTag_mono ih' _ _ _ h (fun _ _ => trivial)
            · rename_i h5
              simp only [h5]
              exact h
/-- What the other reader reads, and has forms, it reads. -/
theorem rdVaS_of (n : Nat) : ∀ (l : List UInt8) (t : Va) (r : List UInt8), rdVa n l = some (t, r) → formVa t = true → rdVaS n l = some (t, r) := by
  induction n with
  | zero =>
    intro l t r h
    cases h
  | succ n ih =>
    intro l t r h hf
    rw [rdVa] at h
    rw [rdVaS]
    split at h
    · rename_i h1
      simp only [h1]
      exact h
    · rename_i h1
      simp only [h1]
      split at h
      · rename_i h2
        simp only [h2]
        exact h
      · rename_i h2
        simp only [h2]
        split at h
        · rename_i r' h3
          simp only [h3]
          unfold rdRec rdSeqE at h
          unfold rdBoxE
          rw [rdLabE_seq]
          cases hb : eat 125 r' with
          | some q =>
            rw [hb] at h
            cases h
            rw [formVa, Bool.and_eq_true] at hf
            have hk := nodeVB_kind hf.2
            rcases hk with ⟨h1, _⟩ | ⟨h1, _⟩ | ⟨_, _, h1⟩ | ⟨h1, _⟩ | h1
            · exact absurd h1 (by decide)
            · exact absurd h1 (by decide)
            · exact absurd rfl (labelsB_some h1)
            · exact absurd h1 (by decide)
            · exact absurd h1 (by decide)
          | none =>
            rw [hb] at h
            simp only [] at h
            cases hs : rdSeq (rdField (rdVa n)) (r'.length + 1) r' with
            | none => rw [hs] at h; cases h
            | some x =>
              obtain ⟨ps, q⟩ := x
              rw [hs] at h
              simp only [] at h
              cases hq2 : eat 125 q with
              | none => rw [hq2] at h; cases h
              | some q2 =>
                rw [hq2] at h
                cases h
                rw [formVa, Bool.and_eq_true] at hf
                rw [rdSeq_mono (P := fun p : ByteArray × Va => formVa p.2 = true) (fun l a r h hp => rdField_mono (P := fun t => formVa t = true) ih l a r h hp) _ _ _ _ hs (fun a ha => formVas_mem hf.1 _ (List.mem_map.2 ⟨a, ha, rfl⟩))]
                simp only [Option.map_some, hq2]
        · rename_i h3
          simp only [h3]
          have hargs : ∀ u ∈ t.args, formVa u = true := by
            cases t with
            | mk k n0 nm ls ts =>
              rw [formVa, Bool.and_eq_true] at hf
              exact formVas_mem hf.1
          split at h
          · rename_i h4
            simp only [h4]
            exact rdList_mono ih _ _ _ h hargs
          · rename_i h4
            simp only [h4]
            split at h
            · rename_i h5
              simp only [h5]
              exact rdTag_mono ih _ _ _ h hargs
            · rename_i h5
              simp only [h5]
              exact h
/-- The value of a text, by the model's reader. -/
theorem parseVB_S (s : ByteArray) : parseVB s = match rdVaS 300 s.data.toList with | some (t, []) => if valueB t then some t else none | _ => none := by
  unfold parseVB
  cases h : rdVaS 300 s.data.toList with
  | some x =>
    obtain ⟨t, r⟩ := x
    rw [rdVaS_to _ _ _ _ h]
    cases r with
    | nil => rfl
    | cons c q => rfl
  | none =>
    cases h2 : rdVa 300 s.data.toList with
    | none => rfl
    | some x =>
      obtain ⟨t, r⟩ := x
      have hf : formVa t = false := by
        cases hf : formVa t with
        | false => rfl
        | true => rw [rdVaS_of _ _ _ _ h2 hf] at h; cases h
      cases r with
      | cons c q => rfl
      | nil =>
        have hv : valueB t = false := by unfold valueB; rw [hf, Bool.and_false]
        simp only [hv]
        rfl

end Go.Proofs.YtlmbnefoobameaaGreatDoor
end

section
namespace Go.Proofs.YtlmbnefoobameaaGreatDoor
open Go.RowKit

/-- The value v owns a row of k elements, the aggregates vs, whose cells are xs; each reads as its tree, in blocks of its own. -/
structure VGatherAt (w : World) (base : Nat) (v : Value) (k : Nat) (ts : List Va) (xs : List Value) (vs : Nat → Value) (lo hi : Nat → Nat) : Prop where
  own : w.ownsRow base 95 5 v k xs
  cells : ∀ i, i < k → ∀ j, j < 5 → (partAt (vs i) j).isSome = true ∧ xs[i * 5 + j]? = partAt (vs i) j
  low : ∀ i, i < k → base ≤ lo i ∧ hi i ≤ w.heap.size
  apart : ∀ i j, i < j → j < k → hi i ≤ lo j
  free : ∀ i, i < k → ∀ g, v.ownBlock = some g → ¬ Span (lo i) (hi i) g
  kids : ∀ i, (h : i < ts.length) → i < k → VaIn w (Span (lo i) (hi i)) (vs i) ts[i]
def VGather (w : World) (base : Nat) (v : Value) (k : Nat) (ts : List Va) : Prop := ∃ xs vs lo hi, VGatherAt w base v k ts xs vs lo hi

theorem VGather.start (w : World) (base : Nat) (ts : List Va) : VGather w base (.slice none 0 0) 0 ts :=
  ⟨[], fun _ => .bool false, fun _ => 0, fun _ => 0, World.ownsRow_nil w base _ 5, fun _ h => absurd h (Nat.not_lt_zero _), fun _ h => absurd h (Nat.not_lt_zero _), fun _ _ _ h => absurd h (Nat.not_lt_zero _), fun _ h => absurd h (Nat.not_lt_zero _), fun _ _ h => absurd h (Nat.not_lt_zero _)⟩

theorem own_keep5 {w w' : World} {base k : Nat} {e : TypeId} {v : Value} {xs : List Value} (h : w.ownsRow base e 5 v k xs) (hk : ∀ g, v.ownBlock = some g → w'.heap[g]? = w.heap[g]?) : w'.ownsRow base e 5 v k xs := by
  refine ⟨h.1, ?_⟩
  rcases h.2 with h2 | ⟨g, cap, cur, h1, h2, h3, h4⟩
  · exact .inl h2
  · exact .inr ⟨g, cap, cur, h1, h2, (hk g (by rw [h1]; rfl)).trans h3, h4⟩

/-- Where the blocks from base on stand, but for one outside, all stands. -/
theorem VGatherAt.keep {w w' : World} {base k : Nat} {v : Value} {ts : List Va} {xs : List Value} {vs : Nat → Value} {lo hi : Nat → Nat} (h : VGatherAt w base v k ts xs vs lo hi) (hs : w.heap.size ≤ w'.heap.size) (hk : ∀ g, base ≤ g → g < w.heap.size → w'.heap[g]? = w.heap[g]?) : VGatherAt w' base v k ts xs vs lo hi :=
  ⟨own_keep5 h.own fun g hg => hk g (h.own.lt g hg).1 (h.own.lt g hg).2, h.cells, fun i hi' => ⟨(h.low i hi').1, Nat.le_trans (h.low i hi').2 hs⟩, h.apart, h.free,
    fun i hi' hik => (h.kids i hi' hik).keep fun b hb hbl => hk b (Nat.le_trans (h.low i hik).1 hb.1) hbl⟩
theorem VGather.keep {w w' : World} {base k : Nat} {v : Value} {ts : List Va} (h : VGather w base v k ts) (hs : w.heap.size ≤ w'.heap.size) (hk : ∀ g, base ≤ g → g < w.heap.size → w'.heap[g]? = w.heap[g]?) : VGather w' base v k ts := by
  obtain ⟨xs, vs, lo, hi, h⟩ := h
  exact ⟨xs, vs, lo, hi, h.keep hs hk⟩
theorem VGather.below {w w' : World} {base k : Nat} {v : Value} {ts : List Va} (h : VGather w base v k ts) (hb : Below w.heap.size w w') : VGather w' base v k ts := h.keep hb.size fun g _ hg => hb.block g hg
theorem VGather.set {w : World} {base k p o : Nat} {v u : Value} {ts : List Va} (h : VGather w base v k ts) (hp : p < base) : VGather (w.setCell ⟨p, o, none⟩ u) base v k ts :=
  h.keep (by simp [World.setCell]) fun g hg _ => Below.heap_setCell _ _ _ _ (by show g ≠ p; omega)

/-- One more tree is appended. -/
theorem VGatherAt.step {w w1 w3 : World} {base k g cap : Nat} {v a b c d e : Value} {ts : List Va} {xs : List Value} {vs : Nat → Value} {lo hi : Nat → Nat} (h : VGatherAt w base v k ts xs vs lo hi) (hb : Below w.heap.size w w1) (hbase : base ≤ w.heap.size) (hk : k < ts.length)
    (ht : VaIn w1 (Span w.heap.size w1.heap.size) (.agg #[a, b, c, d, e]) ts[k]) (hown : w3.ownsRow base 95 5 (.slice (some ⟨g, 0, none⟩) (k + 1) cap) (k + 1) (xs ++ [a, b, c, d, e]))
    (hg : (w1.alloc (.cells #[a, b, c, d, e] 95)).grownBy w3 v.ownBlock) (hat : v.ownBlock = some g ∨ g = w1.heap.size + 1) : VGather w3 base (.slice (some ⟨g, 0, none⟩) (k + 1) cap) (k + 1) ts := by
  have hs1 := hb.size
  have hs3 : w1.heap.size + 1 ≤ w3.heap.size := by have := hg.size; simp at this; exact this
  have hxl : xs.length = k * 5 := h.own.1
  have hkeep : ∀ q, q < w1.heap.size → v.ownBlock ≠ some q → w3.heap[q]? = w1.heap[q]? := fun q hq hne =>
    (hg.block q (by simp; omega) (fun e => hne e.symm)).trans (Below.heap_alloc _ _ _ hq)
  refine ⟨xs ++ [a, b, c, d, e], fun i => if i = k then .agg #[a, b, c, d, e] else vs i, fun i => if i = k then w.heap.size else lo i, fun i => if i = k then w1.heap.size else hi i, hown, fun i hi' j hj => ?_, fun i hi' => ?_, fun i j hij hj => ?_, fun i hi' q hq => ?_, fun i hi' hik => ?_⟩
  · by_cases ek : i = k
    · subst ek
      rw [if_pos rfl, List.getElem?_append_right (by omega), hxl]
      have : j = 0 ∨ j = 1 ∨ j = 2 ∨ j = 3 ∨ j = 4 := by omega
      rcases this with rfl | rfl | rfl | rfl | rfl
      · simp [partAt]
      · simp [partAt]
      · simp [partAt]
      · simp [partAt]
      · simp [partAt]
    · rw [if_neg ek, List.getElem?_append_left (by omega)]
      exact h.cells i (by omega) j hj
  · by_cases ek : i = k
    · rw [if_pos ek, if_pos ek]
      omega
    · rw [if_neg ek, if_neg ek]
      have := h.low i (by omega)
      omega
  · rw [if_neg (show i ≠ k by omega)]
    by_cases ek : j = k
    · rw [if_pos ek]
      exact (h.low i (by omega)).2
    · rw [if_neg ek]
      exact h.apart i j hij (by omega)
  · have hqg : q = g := (Option.some.inj hq).symm
    subst hqg
    by_cases ek : i = k
    · rw [if_pos ek, if_pos ek]
      intro hs
      have a1 := hs.1
      have a2 := hs.2
      rcases hat with hat | hat
      · have := (h.own.lt q hat).2
        omega
      · omega
    · rw [if_neg ek, if_neg ek]
      rcases hat with hat | hat
      · exact h.free i (by omega) q hat
      · intro hs
        have := hs.2
        have := (h.low i (by omega)).2
        omega
  · by_cases ek : i = k
    · subst ek
      rw [if_pos rfl, if_pos rfl, if_pos rfl]
      refine ht.keep fun q hq _ => hkeep q hq.2 fun hv => ?_
      have := (h.own.lt q hv).2
      have := hq.1
      omega
    · rw [if_neg ek, if_neg ek, if_neg ek]
      refine (h.kids i hi' (by omega)).keep fun q hq hql => ?_
      rw [hkeep q (by omega) fun hv => h.free i (by omega) q hv hq]
      exact hb.block q hql

theorem VGather.done {w : World} {base c : Nat} {A : Option Addr} {ts : List Va} (h : VGather w base (.slice A ts.length c) ts.length ts) (hm : ts.length ≤ maxLen) : VasIn w (Span base w.heap.size) A ts := by
  obtain ⟨xs, vs, lo, hi, h⟩ := h
  have hdis : ∀ i j, i < ts.length → j < ts.length → i ≠ j → ∀ b, Span (lo i) (hi i) b → ¬ Span (lo j) (hi j) b := fun i j hi' hj hne b hb hb' => by
    have := hb.1
    have := hb.2
    have := hb'.1
    have := hb'.2
    rcases Nat.lt_or_gt_of_ne hne with hlt | hlt
    · have := h.apart i j hlt hj
      omega
    · have := h.apart j i hlt hi'
      omega
  rcases h.own.2 with ⟨_, h2⟩ | ⟨g, cap, cur, h1, h2, h3, h4, h5, h6, h7⟩
  · have : ts = [] := List.length_eq_zero_iff.1 h2
    subst this
    exact ⟨hm, 0, vs, fun _ _ => False, .inl rfl, fun i hi => absurd hi (by simp), fun i _ hi => absurd hi (by simp), fun i hi => absurd hi (by simp)⟩
  · injection h1 with h1 _ _
    subst h1
    have hgl := (h.own.lt g rfl).2
    refine ⟨hm, g, vs, fun i => Span (lo i) (hi i), .inr ⟨rfl, ⟨h2, hgl⟩, cur, h3, fun i hi' j hj => ?_⟩, fun i hi' b hb => ⟨⟨?_, ?_⟩, fun e => h.free i hi' g rfl (by rw [← e]; exact hb)⟩, hdis, fun i hi' => h.kids i hi' hi'⟩
    · have hc := h.cells i hi' j hj
      refine ⟨hc.1, ?_⟩
      rw [← hc.2, ← h7, List.getElem?_take, if_pos (by omega)]
      simp
    · have := (h.low i hi').1
      have := hb.1
      omega
    · have := (h.low i hi').2
      have := hb.2
      omega


end Go.Proofs.YtlmbnefoobameaaGreatDoor
end

section
namespace Go.Proofs.YtlmbnefoobameaaGreatDoor
open Go.RowKit

theorem vrow_apart {w : World} {g po : Nat} {ss : List ByteArray} {cs : Array Value} (h : RowStrs w g ss) (hw : Whole1 w po 95 cs) : po ≠ g := by
  intro e
  subst e
  obtain ⟨c, h1, _⟩ := h
  unfold Whole1 at h1 hw
  rw [h1] at hw
  injection hw with hw
  injection hw with _ h2
  exact absurd h2 (by decide)
theorem vcopy_stored {w0 w1 : World} {po c1 : Nat} {A1 : Option Addr} {k0 n0 : Int} {nm : ByteArray} {ls : List ByteArray} (hpo : w0.heap.size ≤ po) (hw : Whole1 w1 po 95 #[.int .i64 0, .int .i64 0, .string ⟨#[]⟩, .slice none 0 0, .slice none 0 0]) (hrow : ls = [] ∨ ∃ g, A1 = some ⟨g, 0, none⟩ ∧ w0.heap.size ≤ g ∧ RowStrs w1 g ls) (hB : Below w0.heap.size w0 w1) :
    ∃ (po' c : Nat) (A' : Option Addr), Value.pointer (some ⟨po, 0, none⟩) = .pointer (some ⟨po', 0, none⟩) ∧ w0.heap.size ≤ po' ∧ Whole1 (((((w1.setCell ⟨po, 0, none⟩ (.int .i64 k0)).setCell ⟨po, 1, none⟩ (.int .i64 n0)).setCell ⟨po, 2, none⟩ (.string nm)).setCell ⟨po, 3, none⟩ (.slice A1 ls.length c1)).setCell ⟨po, 4, none⟩ (.slice none 0 0)) po' 95 #[.int .i64 k0, .int .i64 n0, .string nm, .slice A' ls.length c, .slice none 0 0] ∧
      (ls = [] ∨ ∃ g, A' = some ⟨g, 0, none⟩ ∧ w0.heap.size ≤ g ∧ po' ≠ g ∧ RowStrs (((((w1.setCell ⟨po, 0, none⟩ (.int .i64 k0)).setCell ⟨po, 1, none⟩ (.int .i64 n0)).setCell ⟨po, 2, none⟩ (.string nm)).setCell ⟨po, 3, none⟩ (.slice A1 ls.length c1)).setCell ⟨po, 4, none⟩ (.slice none 0 0)) g ls) ∧
      Below w0.heap.size w0 (((((w1.setCell ⟨po, 0, none⟩ (.int .i64 k0)).setCell ⟨po, 1, none⟩ (.int .i64 n0)).setCell ⟨po, 2, none⟩ (.string nm)).setCell ⟨po, 3, none⟩ (.slice A1 ls.length c1)).setCell ⟨po, 4, none⟩ (.slice none 0 0)) := by
  refine ⟨po, c1, A1, rfl, hpo, ((((hw.set 0 _).set 1 _).set 2 _).set 3 _).set 4 _, hrow.imp id fun ⟨g, h1, h2, h3⟩ => ⟨g, h1, h2, vrow_apart h3 hw, h3.same ?_⟩, ((((hB.setCell hpo _).setCell hpo _).setCell hpo _).setCell hpo _).setCell hpo _⟩
  have hne := (vrow_apart h3 hw).symm
  rw [Below.heap_setCell _ _ _ _ hne, Below.heap_setCell _ _ _ _ hne, Below.heap_setCell _ _ _ _ hne, Below.heap_setCell _ _ _ _ hne, Below.heap_setCell _ _ _ _ hne]
theorem vcopy_new {w0 w1 : World} {c1 : Nat} {A1 : Option Addr} {k0 n0 : Int} {nm : ByteArray} {ls : List ByteArray} (hrow : ls = [] ∨ ∃ g, A1 = some ⟨g, 0, none⟩ ∧ w0.heap.size ≤ g ∧ RowStrs w1 g ls) (hB : Below w0.heap.size w0 w1) :
    ∃ (po' c : Nat) (A' : Option Addr), Value.pointer (some ⟨w1.heap.size, 0, none⟩) = .pointer (some ⟨po', 0, none⟩) ∧ w0.heap.size ≤ po' ∧ Whole1 (w1.alloc (.cells #[.int .i64 k0, .int .i64 n0, .string nm, .slice A1 ls.length c1, .slice none 0 0] 95)) po' 95 #[.int .i64 k0, .int .i64 n0, .string nm, .slice A' ls.length c, .slice none 0 0] ∧
      (ls = [] ∨ ∃ g, A' = some ⟨g, 0, none⟩ ∧ w0.heap.size ≤ g ∧ po' ≠ g ∧ RowStrs (w1.alloc (.cells #[.int .i64 k0, .int .i64 n0, .string nm, .slice A1 ls.length c1, .slice none 0 0] 95)) g ls) ∧
      Below w0.heap.size w0 (w1.alloc (.cells #[.int .i64 k0, .int .i64 n0, .string nm, .slice A1 ls.length c1, .slice none 0 0] 95)) :=
  ⟨w1.heap.size, c1, A1, rfl, hB.size, Whole1.new _ _ _, hrow.imp id fun ⟨g, h1, h2, h3⟩ => ⟨g, h1, h2, fun e => by have := h3.lt; omega, h3.below ((Below.refl _ _).alloc (Nat.le_refl _) _) h3.lt⟩, hB.alloc hB.size _⟩

theorem news5 (w : World) (t : TypeId) (a b c d e : Value) (h1 : a.oneCell' = true := by rfl) (h2 : b.oneCell' = true := by rfl) (h3 : c.oneCell' = true := by rfl) (h4 : d.oneCell' = true := by rfl) (h5 : e.oneCell' = true := by rfl) :
    (∀ j u, [a, b, c, d, e][j]? = some u → (w.alloc (.cells #[a, b, c, d, e] t)).cell? ((⟨w.heap.size, 0, none⟩ : Addr).add j) = some u) ∧ ∀ u ∈ [a, b, c, d, e], u.oneCell' = true := by
  constructor
  · intro j u hj
    rw [WideShapes.add_plain, World.cell?_alloc_at _ _ _ _ rfl, Nat.zero_add]
    simpa using hj
  · intro u hu
    simp at hu
    rcases hu with rfl | rfl | rfl | rfl | rfl
    · exact h1
    · exact h2
    · exact h3
    · exact h4
    · exact h5

theorem vcopy_rel {w wc wr w1 w3 : World} {po k g cap c1 c2 : Nat} {A1 A2 : Option Addr} {k0 n0 : Int} {nm : ByteArray} {n : Nat} {ts : List Va} {xs : List Value} {vs : Nat → Value} {lo hi : Nat → Nat} {a b c d e : Value} (hk : k < ts.length) (hol : po < wc.heap.size) (hpo : w.heap.size ≤ po) (hsz : wc.heap.size ≤ wr.heap.size)
    (hG : VGatherAt wr wc.heap.size (.slice A2 k c2) k ts xs vs lo hi) (hb1 : Below wr.heap.size wr w1) (ht : VaIn w1 (Span wr.heap.size w1.heap.size) (.agg #[a, b, c, d, e]) ts[k])
    (hown3 : w3.ownsRow wc.heap.size 95 5 (.slice (some ⟨g, 0, none⟩) (k + 1) cap) (k + 1) (xs ++ [a, b, c, d, e])) (hg3 : (w1.alloc (.cells #[a, b, c, d, e] 95)).grownBy w3 (Value.slice A2 k c2).ownBlock) (hat3 : (Value.slice A2 k c2).ownBlock = some g ∨ g = w1.heap.size + 1)
    (ho3 : Whole1 w3 po 95 #[.int .i64 k0, .int .i64 n0, .string nm, .slice A1 n c1, .slice A2 k c2]) (hold : ∀ q, q < wc.heap.size → q ≠ po → wr.heap[q]? = wc.heap[q]?) (hb : Below w.heap.size w wr) :
    Whole1 (w3.setCell ⟨po, 4, none⟩ (.slice (some ⟨g, 0, none⟩) (k + 1) cap)) po 95 #[.int .i64 k0, .int .i64 n0, .string nm, .slice A1 n c1, .slice (some ⟨g, 0, none⟩) (k + 1) cap] ∧ VGather (w3.setCell ⟨po, 4, none⟩ (.slice (some ⟨g, 0, none⟩) (k + 1) cap)) wc.heap.size (.slice (some ⟨g, 0, none⟩) (k + 1) cap) (k + 1) ts ∧
      (∀ q, q < wc.heap.size → q ≠ po → (w3.setCell ⟨po, 4, none⟩ (.slice (some ⟨g, 0, none⟩) (k + 1) cap)).heap[q]? = wc.heap[q]?) ∧ Below w.heap.size w (w3.setCell ⟨po, 4, none⟩ (.slice (some ⟨g, 0, none⟩) (k + 1) cap)) ∧ wc.heap.size ≤ (w3.setCell ⟨po, 4, none⟩ (.slice (some ⟨g, 0, none⟩) (k + 1) cap)).heap.size := by
  have hs1 := hb1.size
  have hs3 := hg3.size
  simp only [World.size_alloc] at hs3
  have hw0 := hb.size
  have hvb := fun q (hq : (Value.slice A2 k c2).ownBlock = some q) => (hG.own.lt q hq).1
  refine ⟨ho3.set 4 _, (hG.step hb1 hsz hk ht hown3 hg3 hat3).set hol, fun q hq hqp => ?_, ?_, ?_⟩
  · rw [Below.heap_setCell _ _ _ _ hqp, hg3.block q (by simp; omega) (fun e => by have := hvb q e.symm; omega), Below.heap_alloc _ _ _ (by omega), hb1.block q (by omega)]
    exact hold q hq hqp
  · exact (((hb.trans (hb1.mono hw0)).alloc (by omega) _).grown hg3 (by simp; omega) (fun q hq => by have := hvb q hq; omega)).setCell hpo _
  · show wc.heap.size ≤ (w3.setCell _ _).heap.size
    simp [World.setCell]
    omega

/-- A row of one value. -/
theorem vgather_one {w1 : World} {base lo0 : Nat} {a b c d e : Value} {t : Va} (hb : base ≤ lo0) (hs : lo0 ≤ w1.heap.size) (ht : VaIn w1 (Span lo0 w1.heap.size) (.agg #[a, b, c, d, e]) t) :
    VGather (w1.alloc (.cells #[a, b, c, d, e] 95)) base (.slice (some ⟨w1.heap.size, 0, none⟩) 1 1) 1 [t] := by
  refine ⟨[a, b, c, d, e], fun _ => .agg #[a, b, c, d, e], fun _ => lo0, fun _ => w1.heap.size, World.ownsRow_lit w1 #[a, b, c, d, e] 1 (by omega) (by unfold maxLen; omega) rfl, fun i hi j hj => ?_, fun i hi => ⟨hb, by simp⟩, fun i j h1 h2 => absurd h2 (by omega), fun i hi g hg => ?_, fun i hi hi1 => ?_⟩
  · have h0 : i = 0 := by omega
    subst h0
    have : j = 0 ∨ j = 1 ∨ j = 2 ∨ j = 3 ∨ j = 4 := by omega
    rcases this with rfl | rfl | rfl | rfl | rfl
    · simp [partAt]
    · simp [partAt]
    · simp [partAt]
    · simp [partAt]
    · simp [partAt]
  · intro hsp
    have : g = w1.heap.size := (Option.some.inj hg).symm
    have := hsp.2
    omega
  · have h0 : i = 0 := by omega
    subst h0
    exact ht.keep fun q hq _ => Below.heap_alloc _ _ _ hq.2

end Go.Proofs.YtlmbnefoobameaaGreatDoor
end

section
namespace Go.Proofs.YtlmbnefoobameaaGreatDoor
open Go.RowKit

theorem VGatherAt.base {w : World} {base base' k : Nat} {v : Value} {ts : List Va} {xs : List Value} {vs : Nat → Value} {lo hi : Nat → Nat} (h : VGatherAt w base' v k ts xs vs lo hi) (hb : base ≤ base') : VGatherAt w base v k ts xs vs lo hi :=
  ⟨own_base h.own hb, h.cells, fun i hi' => ⟨Nat.le_trans hb (h.low i hi').1, (h.low i hi').2⟩, h.apart, h.free, h.kids⟩

/-- The value reads as the tree; its root's slices are rows from base on, apart from each other and from the parts. -/
def OwnVa (w : World) (base : Nat) (v : Value) (t : Va) : Prop :=
  ∃ L lc A ac xs vs lo hi, v = .agg #[.int .i64 t.kind, .int .i64 t.num, .string t.name, .slice L t.labels.length lc, .slice A t.args.length ac] ∧ t.name.size ≤ maxLen ∧ (∀ i, (h : i < t.labels.length) → t.labels[i].size ≤ maxLen) ∧ t.args.length ≤ maxLen ∧
    w.ownsRow base 9 1 (.slice L t.labels.length lc) t.labels.length (strVals t.labels) ∧ VGatherAt w base (.slice A t.args.length ac) t.args.length t.args xs vs lo hi ∧
    ∀ gl, L = some ⟨gl, 0, none⟩ → A ≠ some ⟨gl, 0, none⟩ ∧ ∀ i, i < t.args.length → ¬ Span (lo i) (hi i) gl

theorem OwnVa.owned {w : World} {base : Nat} {v : Value} {t : Va} (h : OwnVa w base v t) : VaIn w (Span base w.heap.size) v t := by
  obtain ⟨L, lc, A, ac, xs, vs, lo, hi, rfl, hnm, hz, hm, hl, hg, hap⟩ := h
  have hn := own_len hl
  have hdone := VGather.done ⟨xs, vs, lo, hi, hg⟩ hm
  rcases RowStrs.of_own hl with ⟨h1, h2⟩ | ⟨g, cap, h1, h2, h3⟩
  · obtain ⟨hd0, ga, vs', Ss, d1, d2, d3, d4⟩ := hdone
    refine VaIn.of (gl := w.heap.size) hnm hn hz (.inl h2) (Sa := Span base w.heap.size) ⟨hd0, ga, vs', Ss, d1, d2, d3, d4⟩ fun b hb => ⟨hb, by have := hb.2; omega⟩
  · have e1 : L = some ⟨g, 0, none⟩ := by injection h1
    have hgl := h3.lt
    -- the parts, in the blocks but for the labels' own
    have hsub : VasIn w (fun b => Span base w.heap.size b ∧ b ≠ g) A t.args := by
      obtain ⟨hAg, hsp⟩ := hap g e1
      rcases hg.own.2 with ⟨_, k2⟩ | ⟨ga, cap2, cur, k1, k2, k3, k4, k5, k6, k7⟩
      · have ht : t.args = [] := List.length_eq_zero_iff.1 k2
        refine ⟨hm, 0, vs, fun _ _ => False, .inl ht, fun i hi => ?_, fun i _ hi => ?_, fun i hi => ?_⟩
        all_goals rw [ht] at hi; simp at hi
      · have e2 : A = some ⟨ga, 0, none⟩ := by injection k1
        have hgal := (hg.own.lt ga (by rw [e2]; rfl)).2
        refine ⟨hm, ga, vs, fun i => Span (lo i) (hi i), .inr ⟨e2, ⟨⟨k2, hgal⟩, fun e => hAg (by rw [e2, e])⟩, cur, k3, fun i hi' j hj => ?_⟩, fun i hi' b hb => ⟨⟨⟨?_, ?_⟩, fun e => hsp i hi' (by rw [← e]; exact hb)⟩, fun e => hg.free i hi' ga (by rw [e2]; rfl) (by rw [← e]; exact hb)⟩, ?_, fun i hi' => hg.kids i hi' hi'⟩
        · have hc := hg.cells i hi' j hj
          refine ⟨hc.1, ?_⟩
          rw [← hc.2, ← k7, List.getElem?_take, if_pos (by omega)]
          simp
        · have := (hg.low i hi').1
          have := hb.1
          omega
        · have := (hg.low i hi').2
          have := hb.2
          omega
        · intro i j hi' hj hne b hb hb'
          have := hb.1
          have := hb.2
          have := hb'.1
          have := hb'.2
          rcases Nat.lt_or_gt_of_ne hne with hlt | hlt
          · have := hg.apart i j hlt hj
            omega
          · have := hg.apart j i hlt hi'
            omega
    exact VaIn.of (gl := g) hnm hn hz (.inr ⟨e1, ⟨h2, hgl⟩, h3⟩) hsub fun b hb => hb

/-- Where the blocks from base on stand, the tree stands. -/
theorem OwnVa.keep {w w' : World} {base : Nat} {v : Value} {t : Va} (h : OwnVa w base v t) (hs : w.heap.size ≤ w'.heap.size) (hk : ∀ g, base ≤ g → g < w.heap.size → w'.heap[g]? = w.heap[g]?) : OwnVa w' base v t := by
  obtain ⟨L, lc, A, ac, xs, vs, lo, hi, hv, hnm, hz, hm, hl, hg, hap⟩ := h
  refine ⟨L, lc, A, ac, xs, vs, lo, hi, hv, hnm, hz, hm, ⟨hl.1, ?_⟩, hg.keep hs hk, hap⟩
  rcases hl.2 with h2 | ⟨g, cap, cur, h1, h2, h3, h4⟩
  · exact .inl h2
  · exact .inr ⟨g, cap, cur, h1, h2, (hk g h2 (Whole1.lt (t := 9) (cs := cur) h3)).trans h3, h4⟩
theorem OwnVa.base {w : World} {base base' : Nat} {v : Value} {t : Va} (h : OwnVa w base' v t) (hb : base ≤ base') : OwnVa w base v t := by
  obtain ⟨L, lc, A, ac, xs, vs, lo, hi, hv, hnm, hz, hm, hl, hg, hap⟩ := h
  exact ⟨L, lc, A, ac, xs, vs, lo, hi, hv, hnm, hz, hm, own_base hl hb, hg.base hb, hap⟩
theorem OwnVa.open {w : World} {base : Nat} {v : Value} {t : Va} (h : OwnVa w base v t) : ∃ L lc A ac, v = .agg #[.int .i64 t.kind, .int .i64 t.num, .string t.name, .slice L t.labels.length lc, .slice A t.args.length ac] := by
  obtain ⟨L, lc, A, ac, xs, vs, lo, hi, hv, _⟩ := h
  exact ⟨L, lc, A, ac, hv⟩

/-- Without labels and parts. -/
theorem OwnVa.leaf (w : World) (base : Nat) (k n : Int) (nm : ByteArray) (hnm : nm.size ≤ maxLen) : OwnVa w base (.agg #[.int .i64 k, .int .i64 n, .string nm, .slice none 0 0, .slice none 0 0]) (.mk k n nm [] []) := by
  obtain ⟨xs, vs, lo, hi, hg⟩ := VGather.start w base []
  exact ⟨none, 0, none, 0, xs, vs, lo, hi, rfl, hnm, fun i h => absurd h (by simp [Va.labels]), Nat.zero_le _, World.ownsRow_nil w base _ 1, hg, fun gl h => by cases h⟩


/-- OwnVa, with all that it speaks of named. -/
structure OwnVAt (w : World) (base : Nat) (L : Option Addr) (lc : Nat) (A : Option Addr) (ac : Nat) (t : Va) (xs : List Value) (vs : Nat → Value) (lo hi : Nat → Nat) : Prop where
  name : t.name.size ≤ maxLen
  size : ∀ i, (h : i < t.labels.length) → t.labels[i].size ≤ maxLen
  len : t.args.length ≤ maxLen
  row : w.ownsRow base 9 1 (.slice L t.labels.length lc) t.labels.length (strVals t.labels)
  parts : VGatherAt w base (.slice A t.args.length ac) t.args.length t.args xs vs lo hi
  far : ∀ gl, L = some ⟨gl, 0, none⟩ → A ≠ some ⟨gl, 0, none⟩ ∧ ∀ i, i < t.args.length → ¬ Span (lo i) (hi i) gl
theorem OwnVa.named {w : World} {base : Nat} {v : Value} {t : Va} (h : OwnVa w base v t) : ∃ L lc A ac xs vs lo hi, v = .agg #[.int .i64 t.kind, .int .i64 t.num, .string t.name, .slice L t.labels.length lc, .slice A t.args.length ac] ∧ OwnVAt w base L lc A ac t xs vs lo hi := by
  obtain ⟨L, lc, A, ac, xs, vs, lo, hi, hv, h0, h1, h2, h3, h4, h5⟩ := h
  exact ⟨L, lc, A, ac, xs, vs, lo, hi, hv, h0, h1, h2, h3, h4, h5⟩

section
variable {w w' : World} {base lc ac : Nat} {L A : Option Addr} {t : Va} {xs : List Value} {vs : Nat → Value} {lo hi : Nat → Nat}

theorem OwnVAt.own (h : OwnVAt w base L lc A ac t xs vs lo hi) : OwnVa w base (.agg #[.int .i64 t.kind, .int .i64 t.num, .string t.name, .slice L t.labels.length lc, .slice A t.args.length ac]) t :=
  ⟨L, lc, A, ac, xs, vs, lo, hi, rfl, h.name, h.size, h.len, h.row, h.parts, h.far⟩
theorem OwnVAt.root (h : OwnVAt w base L lc A ac t xs vs lo hi) (k n : Int) (nm : ByteArray) (hnm : nm.size ≤ maxLen) : OwnVAt w base L lc A ac (.mk k n nm t.labels t.args) xs vs lo hi :=
  ⟨hnm, h.size, h.len, h.row, h.parts, h.far⟩
/-- Only the two rows' own blocks and the parts' count. -/
theorem OwnVAt.keep (h : OwnVAt w base L lc A ac t xs vs lo hi) (hs : w.heap.size ≤ w'.heap.size) (hL : ∀ g, (Value.slice L t.labels.length lc).ownBlock = some g → g < w.heap.size → w'.heap[g]? = w.heap[g]?) (hA : ∀ g, (Value.slice A t.args.length ac).ownBlock = some g → g < w.heap.size → w'.heap[g]? = w.heap[g]?)
    (hS : ∀ i, i < t.args.length → ∀ b, Span (lo i) (hi i) b → b < w.heap.size → w'.heap[b]? = w.heap[b]?) : OwnVAt w' base L lc A ac t xs vs lo hi :=
  ⟨h.name, h.size, h.len, own_keep1 h.row fun g hg => hL g hg (h.row.lt g hg).2,
    ⟨own_keep5 h.parts.own fun g hg => hA g hg (h.parts.own.lt g hg).2, h.parts.cells, fun i hi' => ⟨(h.parts.low i hi').1, Nat.le_trans (h.parts.low i hi').2 hs⟩, h.parts.apart, h.parts.free, fun i hi' hik => (h.parts.kids i hi' hik).keep fun b hb hbl => hS i hik b hb hbl⟩, h.far⟩
/-- What lies from base on stands, but for a block that is none of the tree's. -/
theorem OwnVAt.but (h : OwnVAt w base L lc A ac t xs vs lo hi) (q : Nat) (hs : w.heap.size ≤ w'.heap.size) (hk : ∀ g, base ≤ g → g < w.heap.size → g ≠ q → w'.heap[g]? = w.heap[g]?) (hL : (Value.slice L t.labels.length lc).ownBlock ≠ some q) (hA : (Value.slice A t.args.length ac).ownBlock ≠ some q) (hS : ∀ i, i < t.args.length → ¬ Span (lo i) (hi i) q) : OwnVAt w' base L lc A ac t xs vs lo hi :=
  h.keep hs (fun g hg hl => hk g (h.row.lt g hg).1 hl (fun e => hL (by rw [hg, e]))) (fun g hg hl => hk g (h.parts.own.lt g hg).1 hl (fun e => hA (by rw [hg, e]))) (fun i hi' b hb hl => hk b (Nat.le_trans (h.parts.low i hi').1 hb.1) hl (fun e => hS i hi' (by rw [← e]; exact hb)))

/-- A label is appended. -/
theorem OwnVAt.label {w3 : World} {g cap : Nat} (h : OwnVAt w base L lc A ac t xs vs lo hi) (s : ByteArray) (hz : s.size ≤ maxLen) (hown : w3.ownsRow base 9 1 (.slice (some ⟨g, 0, none⟩) (t.labels.length + 1) cap) (t.labels.length + 1) (strVals t.labels ++ [.string s]))
    (hgr : w.grownBy w3 (Value.slice L t.labels.length lc).ownBlock) (hat : (Value.slice L t.labels.length lc).ownBlock = some g ∨ w.heap.size ≤ g) : OwnVAt w3 base (some ⟨g, 0, none⟩) cap A ac (.mk t.kind t.num t.name (t.labels ++ [s]) t.args) xs vs lo hi := by
  have hAL : ∀ q, (Value.slice A t.args.length ac).ownBlock = some q → (Value.slice L t.labels.length lc).ownBlock ≠ some q := fun q hq e => (h.far q (own_addr h.row q e)).1 (own_addr h.parts.own q hq)
  have hSL : ∀ i, i < t.args.length → ∀ b, Span (lo i) (hi i) b → (Value.slice L t.labels.length lc).ownBlock ≠ some b := fun i hi' b hb e => (h.far b (own_addr h.row b e)).2 i hi' hb
  refine ⟨h.name, fun i hi' => ?_, h.len, ?_, ⟨own_keep5 h.parts.own fun q hq => hgr.block q (h.parts.own.lt q hq).2 (fun e => hAL q hq e.symm), h.parts.cells, fun i hi' => ⟨(h.parts.low i hi').1, Nat.le_trans (h.parts.low i hi').2 hgr.size⟩, h.parts.apart, h.parts.free, fun i hi' hik => (h.parts.kids i hi' hik).keep fun b hb hbl => hgr.block b hbl (fun e => hSL i hik b hb e.symm)⟩, fun gl hgl => ?_⟩
  · have key : ∀ j, (hj : j < (t.labels ++ [s]).length) → (t.labels ++ [s])[j].size ≤ maxLen := fun j hj => by
      by_cases e : j < t.labels.length
      · rw [List.getElem_append_left e]
        exact h.size j e
      · rw [List.getElem_append_right (by omega)]
        simp
        exact hz
    exact key i hi'
  · show w3.ownsRow base _ 1 (.slice _ (t.labels ++ [s]).length cap) (t.labels ++ [s]).length (strVals (t.labels ++ [s]))
    have e1 : (t.labels ++ [s]).length = t.labels.length + 1 := by simp
    have e2 : strVals (t.labels ++ [s]) = strVals t.labels ++ [.string s] := by simp [strVals]
    rw [e1, e2]
    exact hown
  · have e : g = gl := by injection hgl with e; injection e
    subst e
    rcases hat with hat | hat
    · exact h.far g (own_addr h.row g hat)
    · refine ⟨fun e => ?_, fun i hi' hb => ?_⟩
      · have := (h.parts.own.lt g (by rw [e]; rfl)).2
        omega
      · have := (h.parts.low i hi').2
        have := hb.2
        omega
end

/-- One more tree is appended. -/
theorem VGatherAt.stepAt {w w1 w3 : World} {base k g cap : Nat} {v a b c d e : Value} {ts : List Va} {xs : List Value} {vs : Nat → Value} {lo hi : Nat → Nat} (h : VGatherAt w base v k ts xs vs lo hi) (hb : Below w.heap.size w w1) (hbase : base ≤ w.heap.size) (hk : k < ts.length)
    (ht : VaIn w1 (Span w.heap.size w1.heap.size) (.agg #[a, b, c, d, e]) ts[k]) (hown : w3.ownsRow base 95 5 (.slice (some ⟨g, 0, none⟩) (k + 1) cap) (k + 1) (xs ++ [a, b, c, d, e]))
    (hg : (w1.alloc (.cells #[a, b, c, d, e] 95)).grownBy w3 v.ownBlock) (hat : v.ownBlock = some g ∨ g = w1.heap.size + 1) : VGatherAt w3 base (.slice (some ⟨g, 0, none⟩) (k + 1) cap) (k + 1) ts (xs ++ [a, b, c, d, e]) (fun i => if i = k then .agg #[a, b, c, d, e] else vs i) (fun i => if i = k then w.heap.size else lo i) (fun i => if i = k then w1.heap.size else hi i) := by
  have hs1 := hb.size
  have hs3 : w1.heap.size + 1 ≤ w3.heap.size := by have := hg.size; simp at this; exact this
  have hxl : xs.length = k * 5 := h.own.1
  have hkeep : ∀ q, q < w1.heap.size → v.ownBlock ≠ some q → w3.heap[q]? = w1.heap[q]? := fun q hq hne =>
    (hg.block q (by simp; omega) (fun e => hne e.symm)).trans (Below.heap_alloc _ _ _ hq)
  refine ⟨hown, fun i hi' j hj => ?_, fun i hi' => ?_, fun i j hij hj => ?_, fun i hi' q hq => ?_, fun i hi' hik => ?_⟩
  · by_cases e0 : i = k
    · subst e0
      rw [if_pos rfl, List.getElem?_append_right (by omega), hxl]
      have : j = 0 ∨ j = 1 ∨ j = 2 ∨ j = 3 ∨ j = 4 := by omega
      rcases this with rfl | rfl | rfl | rfl | rfl
      · simp [partAt]
      · simp [partAt]
      · simp [partAt]
      · simp [partAt]
      · simp [partAt]
    · rw [if_neg e0, List.getElem?_append_left (by omega)]
      exact h.cells i (by omega) j hj
  · by_cases e0 : i = k
    · rw [if_pos e0, if_pos e0]
      omega
    · rw [if_neg e0, if_neg e0]
      have := h.low i (by omega)
      omega
  · rw [if_neg (show i ≠ k by omega)]
    by_cases e0 : j = k
    · rw [if_pos e0]
      exact (h.low i (by omega)).2
    · rw [if_neg e0]
      exact h.apart i j hij (by omega)
  · have hqg : q = g := (Option.some.inj hq).symm
    subst hqg
    by_cases e0 : i = k
    · rw [if_pos e0, if_pos e0]
      intro hs
      have a1 := hs.1
      have a2 := hs.2
      rcases hat with hat | hat
      · have := (h.own.lt q hat).2
        omega
      · omega
    · rw [if_neg e0, if_neg e0]
      rcases hat with hat | hat
      · exact h.free i (by omega) q hat
      · intro hs
        have := hs.2
        have := (h.low i (by omega)).2
        omega
  · by_cases e0 : i = k
    · subst e0
      rw [if_pos rfl, if_pos rfl, if_pos rfl]
      refine ht.keep fun q hq _ => hkeep q hq.2 fun hv => ?_
      have := (h.own.lt q hv).2
      have := hq.1
      omega
    · rw [if_neg e0, if_neg e0, if_neg e0]
      refine (h.kids i hi' (by omega)).keep fun q hq hql => ?_
      rw [hkeep q (by omega) fun hv => h.free i (by omega) q hv hq]
      exact hb.block q hql

/-- A part is appended. -/
theorem OwnVAt.arg {w w1 w3 : World} {base lc ac : Nat} {L A : Option Addr} {t : Va} {xs : List Value} {vs : Nat → Value} {lo hi : Nat → Nat} {g cap : Nat} {a b c d e : Value} (h : OwnVAt w base L lc A ac t xs vs lo hi) (u : Va) (hb : Below w.heap.size w w1) (hbase : base ≤ w.heap.size) (hm : t.args.length + 1 ≤ maxLen)
    (hu : VaIn w1 (Span w.heap.size w1.heap.size) (.agg #[a, b, c, d, e]) u) (hown : w3.ownsRow base 95 5 (.slice (some ⟨g, 0, none⟩) (t.args.length + 1) cap) (t.args.length + 1) (xs ++ [a, b, c, d, e]))
    (hg : (w1.alloc (.cells #[a, b, c, d, e] 95)).grownBy w3 (Value.slice A t.args.length ac).ownBlock) (hat : (Value.slice A t.args.length ac).ownBlock = some g ∨ g = w1.heap.size + 1) :
    OwnVAt w3 base L lc (some ⟨g, 0, none⟩) cap (.mk t.kind t.num t.name t.labels (t.args ++ [u])) (xs ++ [a, b, c, d, e]) (fun i => if i = t.args.length then .agg #[a, b, c, d, e] else vs i) (fun i => if i = t.args.length then w.heap.size else lo i) (fun i => if i = t.args.length then w1.heap.size else hi i) := by
  have hs1 := hb.size
  have e1 : (t.args ++ [u]).length = t.args.length + 1 := by simp
  have hp : VGatherAt w base (.slice A t.args.length ac) t.args.length (t.args ++ [u]) xs vs lo hi :=
    ⟨h.parts.own, h.parts.cells, h.parts.low, h.parts.apart, h.parts.free, fun i hi' hik => by rw [List.getElem_append_left hik]; exact h.parts.kids i hik hik⟩
  have hst := hp.stepAt hb hbase (by simp) (by simpa using hu) hown hg hat
  have hL : ∀ q, (Value.slice L t.labels.length lc).ownBlock = some q → w3.heap[q]? = w.heap[q]? := fun q hq => by
    have hql := (h.row.lt q hq).2
    have hne : (Value.slice A t.args.length ac).ownBlock ≠ some q := fun e => (h.far q (own_addr h.row q hq)).1 (own_addr h.parts.own q e)
    exact ((hg.block q (by simp; omega) (fun e => hne e.symm)).trans (Below.heap_alloc _ _ _ (by omega))).trans (hb.block q hql)
  refine ⟨h.name, h.size, by show (t.args ++ [u]).length ≤ maxLen; omega, own_keep1 h.row hL, ?_, fun gl hgl => ?_⟩
  · show VGatherAt w3 base (.slice _ (t.args ++ [u]).length cap) (t.args ++ [u]).length (t.args ++ [u]) _ _ _ _
    rw [e1]
    exact hst
  · have hlt : gl < w.heap.size := (h.row.lt gl (by rw [hgl]; rfl)).2
    refine ⟨fun e => ?_, fun i hi' hsp => ?_⟩
    · have eg : g = gl := by injection e with e; injection e
      subst eg
      rcases hat with hat | hat
      · exact (h.far g hgl).1 (own_addr h.parts.own g hat)
      · omega
    · have hi2 : i < t.args.length + 1 := by rw [← e1]; exact hi'
      by_cases e : i = t.args.length
      · simp only [e, if_true] at hsp
        have := hsp.1
        omega
      · simp only [e, if_false] at hsp
        exact (h.far gl hgl).2 i (by omega) hsp

theorem OwnVAt.grown {w w' : World} {base lc ac p : Nat} {L A : Option Addr} {t : Va} {xs : List Value} {vs : Nat → Value} {lo hi : Nat → Nat} (h : OwnVAt w base L lc A ac t xs vs lo hi) (hg : w.grownBy w' (some p)) (hp : p < base) : OwnVAt w' base L lc A ac t xs vs lo hi :=
  h.but p hg.size (fun g _ hl hne => hg.block g hl (fun e => by injection e with e; exact hne e)) (fun e => by have := (h.row.lt p e).1; omega) (fun e => by have := (h.parts.own.lt p e).1; omega) (fun i hi' hb => by have := (h.parts.low i hi').1; have := hb.1; omega)

theorem vsz_label (t : Va) (s : ByteArray) : szVa (.mk t.kind t.num t.name (t.labels ++ [s]) t.args) = szVa t + 1 + s.size := by
  cases t
  simp [szVa, sumSizes, Va.labels, Va.args, Va.name]
  omega
theorem vsz_arg (t u : Va) : szVa (.mk t.kind t.num t.name t.labels (t.args ++ [u])) = szVa t + 1 + szVa u := by
  cases t
  simp [szVa, Va.labels, Va.args, Va.name, szVas_append, szVas]
  omega


end Go.Proofs.YtlmbnefoobameaaGreatDoor
end

section
namespace Go.Proofs.YtlmbnefoobameaaGreatDoor
open Go.RowKit

theorem set5_keep (w : World) (r : Nat) (a b c d e : Value) (g : Nat) (hg : g ≠ r) : (((((w.setCell ⟨r, 0, none⟩ a).setCell ⟨r, 1, none⟩ b).setCell ⟨r, 2, none⟩ c).setCell ⟨r, 3, none⟩ d).setCell ⟨r, 4, none⟩ e).heap[g]? = w.heap[g]? := by
  rw [Below.heap_setCell _ _ _ _ hg, Below.heap_setCell _ _ _ _ hg, Below.heap_setCell _ _ _ _ hg, Below.heap_setCell _ _ _ _ hg, Below.heap_setCell _ _ _ _ hg]
theorem box_grown5 {w W : World} {p z : Nat} (hg : w.grownBy W (some p)) (hz : w.heap.size ≤ z) (a b c d e : Value) : w.grownBy (((((W.setCell ⟨z, 0, none⟩ a).setCell ⟨z, 1, none⟩ b).setCell ⟨z, 2, none⟩ c).setCell ⟨z, 3, none⟩ d).setCell ⟨z, 4, none⟩ e) (some p) :=
  have hb := (((((Below.refl w.heap.size W).setCell (p := ⟨z, 0, none⟩) hz a).setCell (p := ⟨z, 1, none⟩) hz b).setCell (p := ⟨z, 2, none⟩) hz c).setCell (p := ⟨z, 3, none⟩) hz d).setCell (p := ⟨z, 4, none⟩) hz e
  ⟨hb.os.trans hg.os, hb.tape.trans hg.tape, hb.output.trans hg.output, Nat.le_trans hg.size hb.size, fun i hi hne => (hb.block i hi).trans (hg.block i hi hne)⟩
theorem OwnVAt.setz {w : World} {z i lc ac : Nat} {L A : Option Addr} {t : Va} {xs : List Value} {vs : Nat → Value} {lo hi : Nat → Nat} (h : OwnVAt w (z + 1) L lc A ac t xs vs lo hi) (v : Value) : OwnVAt (w.setCell ⟨z, i, none⟩ v) (z + 1) L lc A ac t xs vs lo hi :=
  h.keep (by simp [World.setCell]) (fun g hg _ => Below.heap_setCell _ _ _ _ (by have := (h.row.lt g hg).1; show g ≠ z; omega)) (fun g hg _ => Below.heap_setCell _ _ _ _ (by have := (h.parts.own.lt g hg).1; show g ≠ z; omega))
    (fun i' hi' b hb _ => Below.heap_setCell _ _ _ _ (by have := (h.parts.low i' hi').1; have := hb.1; show b ≠ z; omega))
theorem OwnVAt.alloc {w : World} {base lc ac : Nat} {L A : Option Addr} {t : Va} {xs : List Value} {vs : Nat → Value} {lo hi : Nat → Nat} (h : OwnVAt w base L lc A ac t xs vs lo hi) (o : Obj) : OwnVAt (w.alloc o) base L lc A ac t xs vs lo hi :=
  h.keep (by simp) (fun g _ hl => Below.heap_alloc _ _ _ hl) (fun g _ hl => Below.heap_alloc _ _ _ hl) (fun _ _ b _ hl => Below.heap_alloc _ _ _ hl)
theorem OwnVAt.leaf (w : World) (base : Nat) (k n : Int) (nm : ByteArray) (hnm : nm.size ≤ maxLen) : ∃ xs vs lo hi, OwnVAt w base none 0 none 0 (.mk k n nm [] []) xs vs lo hi := by
  obtain ⟨xs, vs, lo, hi, hg⟩ := VGather.start w base []
  exact ⟨xs, vs, lo, hi, hnm, fun i h => absurd h (by simp [Va.labels]), Nat.zero_le _, World.ownsRow_nil w base _ 1, hg, fun gl h => by cases h⟩
end Go.Proofs.YtlmbnefoobameaaGreatDoor

namespace Go.Proofs.YtlmbnefoobameaaGreatDoor.V
open Go.RowKit

/-- The zero box of the result. -/
abbrev ZeroBox (w : World) (g : Nat) : Prop := Whole1 w g 95 #[.int .i64 0, .int .i64 0, .string ⟨#[]⟩, .slice none 0 0, .slice none 0 0]
/-- The struct under way, in block z; the reader in block p; the result's box in block r. -/
structure Making (w W : World) (p z r : Nat) (s : ByteArray) (j : Nat) (bad : Bool) (a b c : Value) : Prop where
  rd : RdAt W p s j bad
  box : Whole1 W z 95 #[a, .int .i64 0, .string ⟨#[]⟩, b, c]
  zero : ZeroBox W r
  grown : w.grownBy W (some p)
theorem Making.read {w W W' : World} {p z r j j' : Nat} {s : ByteArray} {bad bad' : Bool} {a b c : Value} (h : Making w W p z r s j bad a b c) (hr : RdAt W' p s j' bad') (hg : W.grownBy W' (some p)) (hz : z ≠ p) (hrp : r ≠ p) : Making w W' p z r s j' bad' a b c :=
  ⟨hr, (hg.block z h.box.lt (fun e => by injection e with e; exact hz e)).trans h.box, (hg.block r h.zero.lt (fun e => by injection e with e; exact hrp e)).trans h.zero, only_trans h.grown hg⟩
theorem Making.more {w W W' : World} {p z r j B : Nat} {s : ByteArray} {bad : Bool} {a b c : Value} (h : Making w W p z r s j bad a b c) (hb : Below B W W') (hz : z < B) (hr : r < B) (hp : p < B) (hB : w.heap.size ≤ B) : Making w W' p z r s j bad a b c :=
  ⟨h.rd.below hb hp, h.box.below hb hz, h.zero.below hb hr, grown_low h.grown hb hB⟩
theorem Making.put {w W : World} {p z r j : Nat} {s : ByteArray} {bad : Bool} {a b c : Value} (h : Making w W p z r s j bad a b c) (i : Nat) (v : Value) (hz : z ≠ p) (hr : z ≠ r) (hw : w.heap.size ≤ z) :
    RdAt (W.setCell ⟨z, i, none⟩ v) p s j bad ∧ Whole1 (W.setCell ⟨z, i, none⟩ v) z 95 (#[a, .int .i64 0, .string ⟨#[]⟩, b, c].setIfInBounds i v) ∧ ZeroBox (W.setCell ⟨z, i, none⟩ v) r ∧ w.grownBy (W.setCell ⟨z, i, none⟩ v) (some p) :=
  ⟨h.rd.block (Below.heap_setCell _ _ _ _ (fun e => hz e.symm)), h.box.set i v, (Below.heap_setCell _ _ _ _ (fun e => hr e.symm)).trans h.zero, grown_low h.grown ((Below.refl w.heap.size W).setCell hw v) (Nat.le_refl _)⟩
theorem Making.put1 {w W : World} {p z r j : Nat} {s : ByteArray} {bad : Bool} {a b c : Value} (h : Making w W p z r s j bad a b c) (v : Value) (hz : z ≠ p) (hr : z ≠ r) (hw : w.heap.size ≤ z) : Making w (W.setCell ⟨z, 3, none⟩ v) p z r s j bad a v c := by
  obtain ⟨h1, h2, h3, h4⟩ := h.put 3 v hz hr hw
  exact ⟨h1, h2, h3, h4⟩
theorem Making.put2 {w W : World} {p z r j : Nat} {s : ByteArray} {bad : Bool} {a b c : Value} (h : Making w W p z r s j bad a b c) (v : Value) (hz : z ≠ p) (hr : z ≠ r) (hw : w.heap.size ≤ z) : Making w (W.setCell ⟨z, 4, none⟩ v) p z r s j bad a b v := by
  obtain ⟨h1, h2, h3, h4⟩ := h.put 4 v hz hr hw
  exact ⟨h1, h2, h3, h4⟩

/-- An error: some value, the reader knows it. -/
def Bads (w : World) (p : Nat) (s : ByteArray) (e : Ending) (w' : World) : Prop :=
  ∃ x y nm L n lc A m ac j, e = .returned (.agg #[.int .i64 x, .int .i64 y, .string nm, .slice L n lc, .slice A m ac]) ∧ RdAt w' p s j true ∧ w.grownBy w' (some p)
/-- The value t; r is still to read. -/
def Goods (w : World) (p : Nat) (s : ByteArray) (t : Va) (r : List UInt8) (e : Ending) (w' : World) : Prop :=
  ∃ v j, e = .returned v ∧ r = restOf s j ∧ RdAt w' p s j false ∧ OwnVa w' w.heap.size v t ∧ w.grownBy w' (some p)
def glue (ls : List ByteArray) (ts : List Va) : Option (List ByteArray × List Va × List UInt8) → Option (List ByteArray × List Va × List UInt8)
  | none => none
  | some (a, b, q) => some (ls ++ a, ts ++ b, q)
theorem glue_nil (x : Option (List ByteArray × List Va × List UInt8)) : glue [] [] x = x := by
  cases x with
  | none => rfl
  | some v => rfl
theorem round_colon {f : List UInt8 → Option (Va × List UInt8)} {s : ByteArray} {j k fuel : Nat} {ls : List ByteArray} {ts : List Va} (hd : (restOf s j).dropWhile wordC = restOf s k) (hf : (restOf s j).length < fuel) (h : eat 61 (restOf s k) = none) : glue ls ts (rdLabE f fuel (restOf s j)) = none := by
  obtain ⟨m, rfl⟩ : ∃ m, fuel = m + 1 := ⟨fuel - 1, by omega⟩
  rw [rdLabE, hd, h]
  rfl
theorem round_type {f : List UInt8 → Option (Va × List UInt8)} {s : ByteArray} {j k fuel : Nat} {ls : List ByteArray} {ts : List Va} (hd : (restOf s j).dropWhile wordC = restOf s k) (hf : (restOf s j).length < fuel) (h : eat 61 (restOf s k) = some (restOf s (k + 1))) (ht : f (restOf s (k + 1)) = none) : glue ls ts (rdLabE f fuel (restOf s j)) = none := by
  obtain ⟨m, rfl⟩ : ∃ m, fuel = m + 1 := ⟨fuel - 1, by omega⟩
  rw [rdLabE, hd, h]
  simp only [ht]
  rfl
theorem round_last {f : List UInt8 → Option (Va × List UInt8)} {s e : ByteArray} {j k fuel : Nat} {ls : List ByteArray} {ts : List Va} {t : Va} {r : List UInt8} (hd : (restOf s j).dropWhile wordC = restOf s k) (he : (⟨((restOf s j).takeWhile wordC).toArray⟩ : ByteArray) = e) (hf : (restOf s j).length < fuel) (h : eat 61 (restOf s k) = some (restOf s (k + 1))) (ht : f (restOf s (k + 1)) = some (t, r)) (hc : eat 44 r = none) :
    glue ls ts (rdLabE f fuel (restOf s j)) = some (ls ++ [e], ts ++ [t], r) := by
  obtain ⟨m, rfl⟩ : ∃ m, fuel = m + 1 := ⟨fuel - 1, by omega⟩
  rw [rdLabE, hd, h]
  simp only [ht, hc, he]
  rfl
theorem round_more {f : List UInt8 → Option (Va × List UInt8)} {s e : ByteArray} {j k fuel : Nat} {ls : List ByteArray} {ts : List Va} {t : Va} {r r2 : List UInt8} (hd : (restOf s j).dropWhile wordC = restOf s k) (he : (⟨((restOf s j).takeWhile wordC).toArray⟩ : ByteArray) = e) (hf : (restOf s j).length < fuel) (h : eat 61 (restOf s k) = some (restOf s (k + 1))) (ht : f (restOf s (k + 1)) = some (t, r)) (hc : eat 44 r = some r2) :
    glue ls ts (rdLabE f fuel (restOf s j)) = glue (ls ++ [e]) (ts ++ [t]) (rdLabE f (fuel - 1) r2) := by
  obtain ⟨m, rfl⟩ : ∃ m, fuel = m + 1 := ⟨fuel - 1, by omega⟩
  rw [rdLabE, hd, h, Nat.add_sub_cancel]
  simp only [ht, hc, he]
  cases rdLabE f m r2 with
  | none => rfl
  | some v => simp [glue]
def glueL (ts : List Va) : Option (List Va × List UInt8) → Option (List Va × List UInt8)
  | none => none
  | some (b, q) => some (ts ++ b, q)
theorem glueL_nil (x : Option (List Va × List UInt8)) : glueL [] x = x := by
  cases x with
  | none => rfl
  | some v => rfl
theorem roundL_type {f : List UInt8 → Option (Va × List UInt8)} {s : ByteArray} {j fuel : Nat} {ts : List Va} (hf : (restOf s j).length < fuel) (ht : f (restOf s j) = none) : glueL ts (rdSeq f fuel (restOf s j)) = none := by
  obtain ⟨m, rfl⟩ : ∃ m, fuel = m + 1 := ⟨fuel - 1, by omega⟩
  rw [rdSeq, ht]
  rfl
theorem roundL_last {f : List UInt8 → Option (Va × List UInt8)} {s : ByteArray} {j fuel : Nat} {ts : List Va} {t : Va} {r : List UInt8} (hf : (restOf s j).length < fuel) (ht : f (restOf s j) = some (t, r)) (hc : eat 44 r = none) :
    glueL ts (rdSeq f fuel (restOf s j)) = some (ts ++ [t], r) := by
  obtain ⟨m, rfl⟩ : ∃ m, fuel = m + 1 := ⟨fuel - 1, by omega⟩
  rw [rdSeq, ht]
  simp only [hc]
  rfl
theorem roundL_more {f : List UInt8 → Option (Va × List UInt8)} {s : ByteArray} {j fuel : Nat} {ts : List Va} {t : Va} {r r2 : List UInt8} (hf : (restOf s j).length < fuel) (ht : f (restOf s j) = some (t, r)) (hc : eat 44 r = some r2) :
    glueL ts (rdSeq f fuel (restOf s j)) = glueL (ts ++ [t]) (rdSeq f (fuel - 1) r2) := by
  obtain ⟨m, rfl⟩ : ∃ m, fuel = m + 1 := ⟨fuel - 1, by omega⟩
  rw [rdSeq, ht, Nat.add_sub_cancel]
  simp only [hc]
  cases rdSeq f m r2 with
  | none => rfl
  | some v => simp [glueL]
theorem rdVaS_pos (n : Nat) (l : List UInt8) (t : Va) (r : List UInt8) (h : rdVaS n l = some (t, r)) : r.length < l.length := by
  have h1 := rdVa_sound n _ _ _ (rdVaS_to n _ _ _ h)
  have h2 := txtV_pos t
  rw [h1, List.length_append]
  omega
end Go.Proofs.YtlmbnefoobameaaGreatDoor.V
end

section
namespace Go.Proofs.YtlmbnefoobameaaGreatDoor
set_option maxRecDepth 100000
open Go.RowKit
attribute [local go_sem ↓] Go.wp_at_zero Go.wp_at_succ

mutual
/-- The default of a type. -/
def defVa : Ty → Va
  | .mk k ls ts => if k = 1 then .mk 1 0 ⟨#[]⟩ [] [] else if k = 2 then .mk 2 0 ⟨#[]⟩ [] [] else if k = 3 then .mk 3 0 ⟨#[]⟩ ls (defVas ts) else if k = 4 then .mk 4 0 (ls.headD ⟨#[]⟩) [] (defHead ts) else .mk 5 0 ⟨#[]⟩ [] []
def defVas : List Ty → List Va | [] => [] | t :: r => defVa t :: defVas r
def defHead : List Ty → List Va | [] => [] | t :: _ => [defVa t]
end
theorem defVas_len : ∀ (ts : List Ty), (defVas ts).length = ts.length
  | [] => by rw [defVas]; rfl
  | t :: r => by rw [defVas, List.length_cons, List.length_cons, defVas_len r]
theorem defVas_at : ∀ (ts : List Ty) (i : Nat) (h : i < ts.length) (h' : i < (defVas ts).length), (defVas ts)[i] = defVa ts[i]
  | t :: r, 0, _, _ => by simp [defVas]
  | t :: r, i + 1, h, h' => by
    have := defVas_at r i (by simpa using h) (by rw [defVas_len]; simpa using h)
    simp only [defVas, List.getElem_cons_succ]
    exact this
theorem defVa_1 (ls : List ByteArray) (ts : List Ty) : defVa (.mk 1 ls ts) = .mk 1 0 ⟨#[]⟩ [] [] := by rw [defVa]; simp
theorem defVa_2 (ls : List ByteArray) (ts : List Ty) : defVa (.mk 2 ls ts) = .mk 2 0 ⟨#[]⟩ [] [] := by rw [defVa]; simp
theorem defVa_3 (ls : List ByteArray) (ts : List Ty) : defVa (.mk 3 ls ts) = .mk 3 0 ⟨#[]⟩ ls (defVas ts) := by rw [defVa]; simp
theorem defVa_4 (ls : List ByteArray) (ts : List Ty) : defVa (.mk 4 ls ts) = .mk 4 0 (ls.headD ⟨#[]⟩) [] (defHead ts) := by rw [defVa]; simp
theorem defVa_5 (ls : List ByteArray) (ts : List Ty) : defVa (.mk 5 ls ts) = .mk 5 0 ⟨#[]⟩ [] [] := by rw [defVa]; simp

theorem VasIn.nil (w : World) (S : Nat → Prop) (A : Option Addr) : VasIn w S A [] := ⟨Nat.zero_le _, 0, fun _ => .bool false, fun _ _ => False, .inl rfl, fun i h => absurd h (by simp), fun i _ h => absurd h (by simp), fun i h => absurd h (by simp)⟩
theorem VaIn.leaf (w : World) (S : Nat → Prop) (k n : Int) (nm : ByteArray) (L A : Option Addr) (lc ac : Nat) (h : nm.size ≤ maxLen) : VaIn w S (.agg #[.int .i64 k, .int .i64 n, .string nm, .slice L 0 lc, .slice A 0 ac]) (.mk k n nm [] []) :=
  VaIn.of (t := .mk k n nm [] []) (gl := 0) (Sa := fun _ => False) h (Nat.zero_le _) (fun i h => absurd h (by simp [Va.labels])) (.inl rfl) (VasIn.nil w _ A) (fun b hb => hb.elim)

/-- A leaf is handed back. -/
def LeafIs (k n : Int) (w : World) (e : Ending) (w' : World) : Prop := e = .returned (.agg #[.int .i64 k, .int .i64 n, .string ⟨#[]⟩, .slice none 0 0, .slice none 0 0]) ∧ Below w.heap.size w w'

set_option maxHeartbeats 400000 in
theorem l5Int_any (n : Int) (w : World) : Calls Tryz.prog 78 #[.int .i64 n] w (LeafIs 1 n w) := by
  go_enter Tryz.func78, Tryz.ntmps78
  go_wp2
  exact bodyPost_ret (v := .agg #[.int .i64 1, .int .i64 n, .string ⟨#[]⟩, .slice none 0 0, .slice none 0 0]) (by simp [results, Tryz.results78, go_sem]) rfl ⟨rfl, (Below.refl _ _).alloc (Nat.le_refl _) _⟩

end Go.Proofs.YtlmbnefoobameaaGreatDoor
end

section
namespace Go.Proofs.YtlmbnefoobameaaGreatDoor
set_option maxRecDepth 100000
open Go.RowKit
attribute [local go_sem ↓] Go.wp_at_zero Go.wp_at_succ

end Go.Proofs.YtlmbnefoobameaaGreatDoor
end

section
namespace Go.Proofs.YtlmbnefoobameaaGreatDoor
open Go.RowKit

/-- What l1Read answers: the number that the string spells, or 0 and false where none of at most k + 1 digits does. -/
def ReadPost (l : List UInt8) (k : Nat) (w : World) (e : Ending) (w' : World) : Prop :=
  ((∃ n : Int, e = .returned (.tuple #[.int .i64 n, .bool true]) ∧ l = Lib.itoa n ∧ n.natAbs < 10 ^ (k + 1)) ∨
    (e = .returned (.tuple #[.int .i64 0, .bool false]) ∧ ∀ n : Int, n.natAbs < 10 ^ (k + 1) → l ≠ Lib.itoa n)) ∧ Below w.heap.size w w'

theorem extract_tail (s : ByteArray) : (s.extract 1 s.size).data.toList = s.data.toList.tail := by
  rw [ByteArray.data_extract, Array.toList_extract]
  cases h : s.data.toList with
  | nil => simp
  | cons c r =>
    have hs : s.size = r.length + 1 := by
      have : s.data.toList.length = s.size := by simp
      rw [← this, h]
      simp
    rw [hs]
    simp [List.extract]

set_option maxHeartbeats 1000000 in
theorem read_neg (s : ByteArray) (k : Nat) (w : World) (hs : s.size ≤ 1048576) (hk : k ≤ 11) (h0 : 0 < s.size) (h45 : s[0] = 45) :
    Calls Tryz.prog 87 #[.string s, .int .i64 (k + 1)] w (ReadPost s.data.toList k w) := by
  have hp : (0 : Int) < s.size := by omega
  have h45' : ((s[0].toNat : Int) == 45) = true := by rw [h45]; decide
  have H45 := Lib.hid h45
  clear h45
  have hl : s.data.toList.length = s.size := by simp
  have hhead : s.data.toList.head? = some 45 := by
    rw [List.head?_eq_getElem?, List.getElem?_eq_getElem (by rw [hl]; exact h0)]
    exact congrArg some H45.out
  have hhd := Lib.hid hhead
  have HB := Lib.hid (show behind s.data.toList = s.data.toList.tail by unfold behind; rw [if_pos hhead])
  have HL := Lib.hid hl
  clear hhead hl
  by_cases hA : s.size - 1 < 1
  · have hA' : ((s.size - 1 : Nat) : Int) < 1 := by omega
    go_enter Tryz.func87, Tryz.ntmps87
    go_wp2
    go_ret2
    refine ⟨.inr ⟨rfl, no_short (k := k) (.inl ?_)⟩, Below.refl _ _⟩
    rw [HB.out, List.length_tail, HL.out]
    omega
  · by_cases hB : k + 1 < s.size - 1
    · have hB' : (k : Int) + 1 < ((s.size - 1 : Nat) : Int) := by omega
      have hA' : ¬ ((s.size - 1 : Nat) : Int) < 1 := by omega
      go_enter Tryz.func87, Tryz.ntmps87
      go_wp2
      go_ret2
      refine ⟨.inr ⟨rfl, no_short (k := k) (.inr ?_)⟩, Below.refl _ _⟩
      rw [HB.out, List.length_tail, HL.out]
      omega
    · have hB' : ¬ (k : Int) + 1 < ((s.size - 1 : Nat) : Int) := by omega
      have hA' : ¬ ((s.size - 1 : Nat) : Int) < 1 := by omega
      obtain ⟨t, ht⟩ : ∃ t, t = s.extract 1 s.size := ⟨_, rfl⟩
      have htl := Lib.hid (show t.data.toList = behind s.data.toList by rw [HB.out, ht, extract_tail])
      have htl2 := Lib.hid (show t.data.toList.length = t.size by simp)
      have hts : t.size = s.size - 1 := by rw [← htl2.out, htl.out, HB.out, List.length_tail, HL.out]
      have htb : t.size ≤ k + 1 := by omega
      have HT := Lib.hid ht
      have HS := Lib.hid hts
      clear hts
      have htz : 0 < t.size := by have := HS.out; omega
      clear ht
      go_enter Tryz.func87, Tryz.ntmps87
      go_wp2
      rw [← HT.out]
      clear hA' hB' hA hB h45' hp
      clear HB
      go_loop [8, 9] (fun n i => ∃ j : Nat, j ≤ t.size ∧ i = .int .i64 j ∧ n = .int .i64 (valD (t.data.toList.take j)) ∧ ∀ i, (h : i < t.data.toList.length) → i < j → IsDig t.data.toList[i]) (fun _ i => t.size - (intOf i).toNat)
      case atStart => exact ⟨0, Nat.zero_le _, rfl, rfl, fun i h hi => absurd hi (by omega)⟩
      case round =>
        obtain ⟨j, hj, rfl, rfl, hdig⟩ := hrel
        have hD := Lib.hid hdig
        have hbd := valD_lt t.data.toList j (by rw [htl2.out]; exact hj) hdig
        have hbd2 : (10 : Nat) ^ j ≤ 10 ^ 12 := Nat.pow_le_pow_right (by omega) (by omega)
        clear hdig
        have hv : valD (t.data.toList.take j) < 1000000000000 := by omega
        have hpow := Lib.hid hbd
        clear hbd hbd2
        by_cases hlt : j < t.size
        · have hltI : (j : Int) < (t.size : Int) := by omega
          have hget : t.data.toList[j]'(by rw [htl2.out]; exact hlt) = t[j] := by rw [Array.getElem_toList]; rfl
          have hstep := Lib.hid (valD_take t.data.toList j (by rw [htl2.out]; exact hlt))
          have hG := Lib.hid hget
          clear hget
          by_cases h48 : (t[j].toNat : Int) < 48
          · go_wp2
            go_ret2
            refine ⟨.inr ⟨rfl, fun n _ => no_digit (c := t[j]) (by rw [← htl.out, ← hG.out]; exact List.getElem_mem _) (by unfold IsDig; omega) n⟩, Below.refl _ _⟩
          · by_cases h57 : (57 : Int) < t[j].toNat
            · go_wp2
              go_ret2
              refine ⟨.inr ⟨rfl, fun n _ => no_digit (c := t[j]) (by rw [← htl.out, ← hG.out]; exact List.getElem_mem _) (by unfold IsDig; omega) n⟩, Below.refl _ _⟩
            · go_wp2
              go_round
              case rel =>
                refine ⟨j + 1, by omega, by go_num, ?_, fun i h hi => ?_⟩
                · rw [hstep.out, hG.out]
                  congr 1
                  omega
                · by_cases e : i = j
                  · subst e
                    rw [hG.out]
                    unfold IsDig
                    omega
                  · exact hD.out i h (by omega)
              case measure => simp [intOf]; omega
        · have hje : j = t.size := by omega
          have hval : valD (t.data.toList.take j) = valD (behind s.data.toList) := by
            rw [← htl.out, hje, ← htl2.out, List.take_length]
          have hsg : -((valD (t.data.toList.take j) : Nat) : Int) = sign s.data.toList (valD (behind s.data.toList)) := by
            rw [← hval]
            unfold sign
            rw [if_pos hhd.out]
          have hlt12 : valD (t.data.toList.take j) < 10 ^ (k + 1) := Nat.lt_of_lt_of_le hpow.out (Nat.pow_le_pow_right (by omega) (by omega))
          have hL12 := Lib.hid hlt12
          have hS := Lib.hid hsg
          clear hval hsg hlt12 hpow
          generalize valD (t.data.toList.take j) = v at *
          have hv2 : (v : Int) < 1000000000000 := by omega
          have hfm := Lib.hid (specFormatInt_any (-(v : Int)) w (by omega) (by omega))
          go_wp2_with fail
          refine hfm.out.mono ?_
          rintro e w1 ⟨rfl, hb1⟩
          by_cases heq : s.data.toList = Lib.itoa (-(v : Int))
          · have hq : (Lib.itoa (-(v : Int)) == s.toList) = true := by rw [beq_iff_eq, ByteArray.toList_eq]; exact heq.symm
            have HQ := Lib.hid heq
            clear heq
            go_wp2
            go_ret2
            exact ⟨.inl ⟨_, rfl, HQ.out, by have := hL12.out; omega⟩, hb1⟩
          · have hq : (Lib.itoa (-(v : Int)) == s.toList) = false := by rw [beq_eq_false_iff_ne, ByteArray.toList_eq]; exact fun e => heq e.symm
            have HQ := Lib.hid heq
            clear heq
            go_wp2
            go_ret2
            refine ⟨.inr ⟨rfl, fun n _ hn => HQ.out ?_⟩, hb1⟩
            have := the_number n hn
            rw [← hS.out] at this
            rw [← this]
            exact hn

set_option maxHeartbeats 1000000 in
theorem read_pos (s : ByteArray) (k : Nat) (w : World) (hs : s.size ≤ 1048576) (hk : k ≤ 11) (h0 : 0 < s.size) (h45 : s[0] ≠ 45) :
    Calls Tryz.prog 87 #[.string s, .int .i64 (k + 1)] w (ReadPost s.data.toList k w) := by
  have hp : (0 : Int) < s.size := by omega
  have h45' : ((s[0].toNat : Int) == 45) = false := by
    rw [beq_eq_false_iff_ne]
    intro e
    exact h45 (UInt8.toNat_inj.1 (by rw [show (45 : UInt8).toNat = 45 from rfl]; omega))
  have hl : s.data.toList.length = s.size := by simp
  have hhead : ¬ s.data.toList.head? = some 45 := by
    rw [List.head?_eq_getElem?, List.getElem?_eq_getElem (by rw [hl]; exact h0)]
    intro e
    exact h45 (Option.some.inj e)
  have hhd := Lib.hid hhead
  have htl := Lib.hid (show s.data.toList = behind s.data.toList by unfold behind; rw [if_neg hhead])
  have htl2 := Lib.hid hl
  clear hhead hl h45
  by_cases hB : k + 1 < s.size
  · have hB' : (k : Int) + 1 < (s.size : Int) := by omega
    have hA' : ¬ (s.size : Int) < 1 := by omega
    go_enter Tryz.func87, Tryz.ntmps87
    go_wp2
    go_ret2
    refine ⟨.inr ⟨rfl, no_short (k := k) (.inr ?_)⟩, Below.refl _ _⟩
    rw [← htl.out, htl2.out]
    omega
  · have hB' : ¬ (k : Int) + 1 < (s.size : Int) := by omega
    have hA' : ¬ (s.size : Int) < 1 := by omega
    have htb : s.size ≤ k + 1 := by omega
    go_enter Tryz.func87, Tryz.ntmps87
    go_wp2
    clear hA' hB' hB h45'
    go_loop [8, 9] (fun n i => ∃ j : Nat, j ≤ s.size ∧ i = .int .i64 j ∧ n = .int .i64 (valD (s.data.toList.take j)) ∧ ∀ i, (h : i < s.data.toList.length) → i < j → IsDig s.data.toList[i]) (fun _ i => s.size - (intOf i).toNat)
    case atStart => exact ⟨0, Nat.zero_le _, rfl, rfl, fun i h hi => absurd hi (by omega)⟩
    case round =>
      obtain ⟨j, hj, rfl, rfl, hdig⟩ := hrel
      have hD := Lib.hid hdig
      have hbd := valD_lt s.data.toList j (by rw [htl2.out]; exact hj) hdig
      have hbd2 : (10 : Nat) ^ j ≤ 10 ^ 12 := Nat.pow_le_pow_right (by omega) (by omega)
      clear hdig
      have hv : valD (s.data.toList.take j) < 1000000000000 := by omega
      have hpow := Lib.hid hbd
      clear hbd hbd2
      by_cases hlt : j < s.size
      · have hltI : (j : Int) < (s.size : Int) := by omega
        have hget : s.data.toList[j]'(by rw [htl2.out]; exact hlt) = s[j] := by rw [Array.getElem_toList]; rfl
        have hstep := Lib.hid (valD_take s.data.toList j (by rw [htl2.out]; exact hlt))
        have hG := Lib.hid hget
        clear hget
        by_cases h48 : (s[j].toNat : Int) < 48
        · go_wp2
          go_ret2
          refine ⟨.inr ⟨rfl, fun n _ => no_digit (c := s[j]) (by rw [← htl.out, ← hG.out]; exact List.getElem_mem _) (by unfold IsDig; omega) n⟩, Below.refl _ _⟩
        · by_cases h57 : (57 : Int) < s[j].toNat
          · go_wp2
            go_ret2
            refine ⟨.inr ⟨rfl, fun n _ => no_digit (c := s[j]) (by rw [← htl.out, ← hG.out]; exact List.getElem_mem _) (by unfold IsDig; omega) n⟩, Below.refl _ _⟩
          · go_wp2
            go_round
            case rel =>
              refine ⟨j + 1, by omega, by go_num, ?_, fun i h hi => ?_⟩
              · rw [hstep.out, hG.out]
                congr 1
                omega
              · by_cases e : i = j
                · subst e
                  rw [hG.out]
                  unfold IsDig
                  omega
                · exact hD.out i h (by omega)
            case measure => simp [intOf]; omega
      · have hje : j = s.size := by omega
        have hval : valD (s.data.toList.take j) = valD (behind s.data.toList) := by
          rw [← htl.out, hje, ← htl2.out, List.take_length]
        have hsg : ((valD (s.data.toList.take j) : Nat) : Int) = sign s.data.toList (valD (behind s.data.toList)) := by
          rw [← hval]
          unfold sign
          rw [if_neg hhd.out]
        have hlt12 : valD (s.data.toList.take j) < 10 ^ (k + 1) := Nat.lt_of_lt_of_le hpow.out (Nat.pow_le_pow_right (by omega) (by omega))
        have hL12 := Lib.hid hlt12
        have hS := Lib.hid hsg
        clear hval hsg hlt12 hpow
        generalize valD (s.data.toList.take j) = v at *
        have hv2 : (v : Int) < 1000000000000 := by omega
        have hfm := Lib.hid (specFormatInt_any ((v : Int)) w (by omega) (by omega))
        go_wp2_with fail
        refine hfm.out.mono ?_
        rintro e w1 ⟨rfl, hb1⟩
        by_cases heq : s.data.toList = Lib.itoa ((v : Int))
        · have hq : (Lib.itoa ((v : Int)) == s.toList) = true := by rw [beq_iff_eq, ByteArray.toList_eq]; exact heq.symm
          have HQ := Lib.hid heq
          clear heq
          go_wp2
          go_ret2
          exact ⟨.inl ⟨_, rfl, HQ.out, by have := hL12.out; omega⟩, hb1⟩
        · have hq : (Lib.itoa ((v : Int)) == s.toList) = false := by rw [beq_eq_false_iff_ne, ByteArray.toList_eq]; exact fun e => heq e.symm
          have HQ := Lib.hid heq
          clear heq
          go_wp2
          go_ret2
          refine ⟨.inr ⟨rfl, fun n _ hn => HQ.out ?_⟩, hb1⟩
          have := the_number n hn
          rw [← hS.out] at this
          rw [← this]
          exact hn

set_option maxHeartbeats 400000 in
theorem read_empty (s : ByteArray) (k : Nat) (w : World) (h0 : s.size = 0) :
    Calls Tryz.prog 87 #[.string s, .int .i64 (k + 1)] w (ReadPost s.data.toList k w) := by
  have hl : s.data.toList = [] := List.eq_nil_of_length_eq_zero (by simpa using h0)
  have e : s = ⟨#[]⟩ := by
    cases s
    simp at hl
    rw [hl]
  subst e
  go_enter Tryz.func87, Tryz.ntmps87
  go_wp2
  go_ret2
  exact ⟨.inr ⟨rfl, no_short (k := k) (.inl (by decide))⟩, Below.refl _ _⟩

theorem read_any (s : ByteArray) (k : Nat) (w : World) (hs : s.size ≤ 1048576) (hk : k ≤ 11) :
    Calls Tryz.prog 87 #[.string s, .int .i64 (k + 1)] w (ReadPost s.data.toList k w) := by
  by_cases h0 : s.size = 0
  · exact read_empty s k w h0
  · by_cases h45 : s[0]'(by omega) = 45
    · exact read_neg s k w hs hk (by omega) h45
    · exact read_pos s k w hs hk (by omega) h45

end Go.Proofs.YtlmbnefoobameaaGreatDoor
end

section
namespace Go.Proofs.YtlmbnefoobameaaGreatDoor
open Go.RowKit

/-- What the model answers. -/
def SpecPostInt (l : List UInt8) (w : World) (e : Ending) (w' : World) : Prop :=
  ((∃ n : Int, e = .returned (.tuple #[.int .i64 n, .bool true]) ∧ l = Lib.itoa n ∧ -999999999999 ≤ n ∧ n ≤ 999999999999) ∨
    (e = .returned (.tuple #[.int .i64 0, .bool false]) ∧ ∀ n : Int, -999999999999 ≤ n → n ≤ 999999999999 → l ≠ Lib.itoa n)) ∧ Below w.heap.size w w'

set_option maxHeartbeats 400000 in
theorem specParseInt_any (s : ByteArray) (w : World) (hs : s.size ≤ 1048576) :
    Calls Tryz.prog 77 #[.string s] w (SpecPostInt s.data.toList w) := by
  have hr := Lib.hid (read_any s 11 w hs (by omega))
  go_enter Tryz.func77, Tryz.ntmps77
  go_wp2_with fail
  refine hr.out.mono ?_
  rintro e w1 ⟨⟨n, rfl, hn, hb⟩ | ⟨rfl, hno⟩, hb1⟩
  · have H := Lib.hid hn
    clear hn
    go_wp2
    go_ret2
    exact ⟨.inl ⟨n, rfl, H.out, by omega, by omega⟩, hb1⟩
  · have H := Lib.hid hno
    clear hno
    go_wp2
    go_ret2
    exact ⟨.inr ⟨rfl, fun n h0 h1 => H.out n (by omega)⟩, hb1⟩

end Go.Proofs.YtlmbnefoobameaaGreatDoor
end

section
namespace Go.Proofs.YtlmbnefoobameaaGreatDoor
open Go.RowKit

theorem two_bytes (s : ByteArray) (i : Nat) (h : i + 1 < s.size) : (s.extract i (i + 2)).toList = [s[i]'(by omega), s[i + 1]] := by
  rw [ByteArray.toList_eq, ByteArray.data_extract, Array.toList_extract, List.extract_eq_take_drop, Nat.add_sub_cancel_left]
  have h1 := restOf_get s i (by omega)
  have h2 := restOf_get s (i + 1) h
  unfold restOf at h1 h2
  rw [h1, h2]
  rfl
theorem eats_two (a c : UInt8) (s : ByteArray) (i : Nat) : (∃ h : i + 1 < s.size, s[i] = a ∧ s[i + 1] = c ∧ eats [a, c] (restOf s i) = some (restOf s (i + 2))) ∨ (eats [a, c] (restOf s i) = none ∧ ∀ h : i + 1 < s.size, ¬ (s[i] = a ∧ s[i + 1] = c)) := by
  by_cases h : i + 1 < s.size
  · have h1 := restOf_get s i (by omega)
    have h2 := restOf_get s (i + 1) h
    by_cases hc : s[i] = a ∧ s[i + 1] = c
    · refine Or.inl ⟨h, hc.1, hc.2, ?_⟩
      rw [h1, h2, hc.1, hc.2]
      exact eats_append [a, c] _
    · refine Or.inr ⟨?_, fun _ => hc⟩
      rw [h1, h2]
      unfold eats
      rw [if_neg]
      intro e
      simp [List.isPrefixOf] at e
      exact hc ⟨e.1.symm, e.2.symm⟩
  · refine Or.inr ⟨?_, fun h' => absurd h' h⟩
    unfold eats
    rw [if_neg]
    intro e
    have e2 := List.IsPrefix.length_le (List.isPrefixOf_iff_prefix.1 e)
    rw [restOf_len] at e2
    simp at e2
    omega

set_option maxHeartbeats 1000000 in
theorem take2_yes (p i : Nat) (s : ByteArray) (a c : UInt8) (w : World) (h : RdAt w p s i false) (hs : s.size ≤ 1048576) (hi : i + 1 < s.size) (ha : s[i]'(by omega) = a) (hc : s[i + 1] = c) :
    Calls Tryz.prog 52 #[.pointer (some ⟨p, 0, none⟩), .string ⟨#[a, c]⟩] w (Read w p s (.bool true) (i + 2) false) := by
  have hq : ((s.extract i (i + 2)).toList == [a, c]) = true := by rw [two_bytes s i hi, ha, hc]; simp
  have c0 : w.cell? ⟨p, 0, none⟩ = some (.string s) := Whole1.cell h.1 0
  have c1 : w.cell? ⟨p, 1, none⟩ = some (.int .i64 (i : Int)) := Whole1.cell h.1 1
  have c2 : w.cell? ⟨p, 2, none⟩ = some (.bool false) := Whole1.cell h.1 2
  have f1 : w.frozen? ⟨p, 1, none⟩ = false := Whole1.free h.1 1
  have hle : decide ((s.size : Int) < (i : Int) + 2) = false := decide_eq_false (by omega)
  have hwr : IntKind.i64.wrap ((i : Int) + 2) = (i : Int) + 2 := by rw [IntKind.wrap_i64]; omega
  have hl1 : (0 : Int) ≤ (i : Int) := by omega
  have hl2 : (i : Int) ≤ (i : Int) + 2 := by omega
  have hl3 : (i : Int) + 2 ≤ (s.size : Int) := by omega
  have HH := Lib.hid h
  clear h ha hc
  go_enter Tryz.func52, Tryz.ntmps52
  go_wp2
  go_quiet (fail)
  go_wp2
  go_ret
  exact ⟨rfl, (HH.out.drewN _).seti (i + 2) (by omega), only_set (only_drewN (only_refl _ _) _) 1 _⟩

set_option maxHeartbeats 1000000 in
theorem take2_other (p i : Nat) (s : ByteArray) (a c : UInt8) (w : World) (h : RdAt w p s i false) (hs : s.size ≤ 1048576) (hc : ∀ h : i + 1 < s.size, ¬ (s[i]'(by omega) = a ∧ s[i + 1] = c)) :
    Calls Tryz.prog 52 #[.pointer (some ⟨p, 0, none⟩), .string ⟨#[a, c]⟩] w (Read w p s (.bool false) i false) := by
  have c0 : w.cell? ⟨p, 0, none⟩ = some (.string s) := Whole1.cell h.1 0
  have c1 : w.cell? ⟨p, 1, none⟩ = some (.int .i64 (i : Int)) := Whole1.cell h.1 1
  have c2 : w.cell? ⟨p, 2, none⟩ = some (.bool false) := Whole1.cell h.1 2
  have hwr : IntKind.i64.wrap ((i : Int) + 2) = (i : Int) + 2 := by
    have := h.2
    rw [IntKind.wrap_i64]
    omega
  have HH := Lib.hid h
  clear h
  by_cases hi : i + 1 < s.size
  · have hq : ((s.extract i (i + 2)).toList == [a, c]) = false := by
      rw [two_bytes s i hi, beq_eq_false_iff_ne]
      intro e
      simp at e
      exact hc hi e
    have hle : decide ((s.size : Int) < (i : Int) + 2) = false := decide_eq_false (by omega)
    have hl1 : (0 : Int) ≤ (i : Int) := by omega
    have hl2 : (i : Int) ≤ (i : Int) + 2 := by omega
    have hl3 : (i : Int) + 2 ≤ (s.size : Int) := by omega
    clear hc
    go_enter Tryz.func52, Tryz.ntmps52
    go_wp2
    go_quiet (fail)
    go_wp2
    go_ret
    exact ⟨rfl, HH.out.drewN _, only_drewN (only_refl _ _) _⟩
  · have hle : decide ((s.size : Int) < (i : Int) + 2) = true := decide_eq_true (by omega)
    clear hc
    go_enter Tryz.func52, Tryz.ntmps52
    go_wp2
    go_quiet (fail)
    go_wp2
    go_ret
    exact ⟨rfl, HH.out.drewN _, only_drewN (only_refl _ _) _⟩

theorem span_end (f : UInt8 → Bool) (s : ByteArray) (k : Nat) (hk : k ≤ s.size) (hstop : ∀ h : k < s.size, f s[k] = false) : ∀ (d i : Nat), i + d = k → (∀ m, (h : m < k) → i ≤ m → f (s[m]'(by omega)) = true) →
    (restOf s i).dropWhile f = restOf s k ∧ (restOf s i).takeWhile f = (s.extract i k).data.toList := by
  intro d
  induction d with
  | zero =>
    intro i hi _
    obtain rfl : i = k := by omega
    have e0 : (s.extract i i).data.toList = [] := by
      rw [ByteArray.data_extract]
      simp
    rw [e0]
    by_cases h : i < s.size
    · rw [restOf_get s i h, List.dropWhile_cons_of_neg (by rw [hstop h]; simp), List.takeWhile_cons_of_neg (by rw [hstop h]; simp)]
      exact ⟨rfl, rfl⟩
    · rw [restOf_end s i (by omega)]
      exact ⟨rfl, rfl⟩
  | succ d ih =>
    intro i hi hall
    have h : i < s.size := by omega
    obtain ⟨h1, h2⟩ := ih (i + 1) (by omega) fun m hm him => hall m hm (by omega)
    have h3 := hall i (by omega) (Nat.le_refl _)
    rw [restOf_get s i h, List.dropWhile_cons_of_pos h3, List.takeWhile_cons_of_pos h3]
    refine ⟨h1, ?_⟩
    rw [h2]
    simp only [ByteArray.data_extract, Array.toList_extract, List.extract_eq_take_drop]
    rw [List.drop_eq_getElem_cons (show i < s.data.toList.length by simpa using h), show k - i = (k - (i + 1)) + 1 by omega, List.take_succ_cons, Array.getElem_toList]
    rfl
theorem extract_cons (s : ByteArray) (i k : Nat) (h : i < s.size) (hk : i < k) : (s.extract i k).data.toList = s[i] :: (s.extract (i + 1) k).data.toList := by
  simp only [ByteArray.data_extract, Array.toList_extract, List.extract_eq_take_drop]
  rw [List.drop_eq_getElem_cons (show i < s.data.toList.length by simpa using h), show k - i = (k - (i + 1)) + 1 by omega, List.take_succ_cons, Array.getElem_toList]
  rfl
/-- What the number's text is, where its digits end at k. -/
theorem int_at (s : ByteArray) (i i0 k : Nat) (hk : k ≤ s.size) (hik : i0 ≤ k) (hstop : ∀ h : k < s.size, digC s[k] = false) (hall : ∀ m, (h : m < k) → i0 ≤ m → digC (s[m]'(by omega)) = true) (h0 : (∃ h : i < s.size, s[i] = 45 ∧ i0 = i + 1) ∨ ((¬ ∃ h : i < s.size, s[i] = 45) ∧ i0 = i)) :
    rdIntV (restOf s i) = match unItoa (s.extract i k).data.toList with | none => none | some n => some (.mk 1 n ⟨#[]⟩ [] [], restOf s k) := by
  obtain ⟨h1, h2⟩ := span_end digC s k hk hstop (k - i0) i0 (by omega) hall
  unfold rdIntV
  rcases h0 with ⟨h, hc, rfl⟩ | ⟨h, rfl⟩
  · rw [eat_hit h hc, extract_cons s i k h (by omega), hc]
    simp only [h1, h2]
    cases unItoa (45 :: (s.extract (i + 1) k).data.toList) <;> rfl
  · rw [eat_miss h]
    simp only [h1, h2]
    cases unItoa (s.extract i0 k).data.toList <;> rfl

theorem specParseInt_yes (s : ByteArray) (n : Int) (w : World) (hs : s.size ≤ 1048576) (h : unItoa s.data.toList = some n) :
    Calls Tryz.prog 77 #[.string s] w fun e w' => e = .returned (.tuple #[.int .i64 n, .bool true]) ∧ Below w.heap.size w w' := by
  refine (specParseInt_any s w hs).mono ?_
  rintro e w' ⟨⟨m, rfl, hm, h1, h2⟩ | ⟨rfl, hno⟩, hb⟩
  · have e2 := (unItoa_of hm h1 h2).symm.trans h
    injection e2 with e2
    subst e2
    exact ⟨rfl, hb⟩
  · have e2 := unItoa_some h
    exact absurd e2.1 (hno n e2.2.1 e2.2.2)
theorem specParseInt_no (s : ByteArray) (w : World) (hs : s.size ≤ 1048576) (h : unItoa s.data.toList = none) :
    Calls Tryz.prog 77 #[.string s] w fun e w' => e = .returned (.tuple #[.int .i64 0, .bool false]) ∧ Below w.heap.size w w' := by
  refine (specParseInt_any s w hs).mono ?_
  rintro e w' ⟨⟨m, rfl, hm, h1, h2⟩ | ⟨rfl, hno⟩, hb⟩
  · rw [unItoa_of hm h1 h2] at h
    cases h
  · exact ⟨rfl, hb⟩
theorem Below.from_drew {w w' : World} {n : Nat} (h : Below n w.drew w') : Below n w w' := ⟨h.os, h.tape, h.output, h.size, h.block⟩

end Go.Proofs.YtlmbnefoobameaaGreatDoor
namespace Go.Proofs.YtlmbnefoobameaaGreatDoor.V
open Go.RowKit
attribute [local go_sem ↓] Go.wp_at_zero Go.wp_at_succ

/-- The reader, and the zero box of the result. -/
structure Hold (w W : World) (p r : Nat) (s : ByteArray) (j : Nat) (bad : Bool) : Prop where
  rd : RdAt W p s j bad
  zero : ZeroBox W r
  grown : w.grownBy W (some p)
theorem Hold.read {w W W' : World} {p r j j' : Nat} {s : ByteArray} {bad bad' : Bool} (h : Hold w W p r s j bad) (hr : RdAt W' p s j' bad') (hg : W.grownBy W' (some p)) (hrp : r ≠ p) : Hold w W' p r s j' bad' :=
  ⟨hr, (hg.block r h.zero.lt (fun e => by injection e with e; exact hrp e)).trans h.zero, only_trans h.grown hg⟩
theorem Hold.more {w W W' : World} {p r j B : Nat} {s : ByteArray} {bad : Bool} (h : Hold w W p r s j bad) (hb : Below B W W') (hr : r < B) (hp : p < B) (hB : w.heap.size ≤ B) : Hold w W' p r s j bad :=
  ⟨h.rd.below hb hp, h.zero.below hb hr, grown_low h.grown hb hB⟩
theorem Hold.setb {w W : World} {p j : Nat} {s : ByteArray} {bad : Bool} (h : Hold w W p w.heap.size s j bad) (b : Bool) (hp : p < w.heap.size := by assumption) : Hold w (W.setCell ⟨p, 2, none⟩ (.bool b)) p w.heap.size s j b :=
  ⟨h.rd.setb b, (Below.heap_setCell _ _ _ _ (by show w.heap.size ≠ p; omega)).trans h.zero, only_set h.grown 2 _⟩
theorem fin_good {w W : World} {p j : Nat} {s : ByteArray} {v : Value} {t : Va} (h : Hold w W p w.heap.size s j false) (hO : OwnVa W (w.heap.size + 1) v t) (hp : p < w.heap.size) (a b c d e : Value) :
    Goods w p s t (restOf s j) (.returned v) (((((W.setCell ⟨w.heap.size, 0, none⟩ a).setCell ⟨w.heap.size, 1, none⟩ b).setCell ⟨w.heap.size, 2, none⟩ c).setCell ⟨w.heap.size, 3, none⟩ d).setCell ⟨w.heap.size, 4, none⟩ e) :=
  ⟨v, j, rfl, rfl, h.rd.block (set5_keep _ _ _ _ _ _ _ _ (by omega)), (hO.keep (by simp [World.setCell]) (fun g hg _ => set5_keep _ _ _ _ _ _ _ _ (by omega))).base (by omega), box_grown5 h.grown (Nat.le_refl _) a b c d e⟩
theorem fin_bad {w W : World} {p j : Nat} {s : ByteArray} (h : Hold w W p w.heap.size s j true) (hp : p < w.heap.size) (x y : Int) (nm : ByteArray) (L A : Option Addr) (n lc m ac : Nat) (a b c d e : Value) :
    Bads w p s (.returned (.agg #[.int .i64 x, .int .i64 y, .string nm, .slice L n lc, .slice A m ac])) (((((W.setCell ⟨w.heap.size, 0, none⟩ a).setCell ⟨w.heap.size, 1, none⟩ b).setCell ⟨w.heap.size, 2, none⟩ c).setCell ⟨w.heap.size, 3, none⟩ d).setCell ⟨w.heap.size, 4, none⟩ e) :=
  ⟨x, y, nm, L, n, lc, A, m, ac, j, rfl, h.rd.block (set5_keep _ _ _ _ _ _ _ _ (by omega)), box_grown5 h.grown (Nat.le_refl _) a b c d e⟩
/-- A reading does what the model does. -/
def Does (x : Option (Va × List UInt8)) (w : World) (p : Nat) (s : ByteArray) (e : Ending) (w' : World) : Prop := (x = none ∧ Bads w p s e w') ∨ ∃ t r, x = some (t, r) ∧ Goods w p s t r e w'

set_option maxHeartbeats 4000000 in
set_option maxRecDepth 100000 in
theorem readInt (w : World) (p i : Nat) (s : ByteArray) (hr : RdAt w p s i false) (hs : s.size ≤ 1048576) :
    Calls Tryz.prog 71 #[.pointer (some ⟨p, 0, none⟩)] w (Does (rdIntV (restOf s i)) w p s) := by
  have hpl := hr.lt
  have hrp : w.heap.size ≠ p := by omega
  obtain ⟨hb0, r0, hs0⟩ := boxes1 w 95 #[.int .i64 0, .int .i64 0, .string ⟨#[]⟩, .slice none 0 0, .slice none 0 0]
  have HH0 := Lib.hid (⟨hr.below hb0 hpl, r0, grown_low (only_refl w (some p)) hb0 (Nat.le_refl _)⟩ : Hold w (w.alloc (.cells #[.int .i64 0, .int .i64 0, .string ⟨#[]⟩, .slice none 0 0, .slice none 0 0] 95)) p w.heap.size s i false)
  have hil := hr.2
  have HT : Hid (∀ W, RdAt W p s i false → Calls Tryz.prog 52 #[.pointer (some ⟨p, 0, none⟩), .string ⟨#[45]⟩] W fun e w' => ∃ (b : Bool) (i0 : Nat), e = .returned (.bool b) ∧ RdAt w' p s i0 false ∧ W.grownBy w' (some p) ∧ i ≤ i0 ∧ Hid ((∃ h : i < s.size, s[i] = 45 ∧ i0 = i + 1) ∨ ((¬ ∃ h : i < s.size, s[i] = 45) ∧ i0 = i))) := Lib.hid fun W hW => by
    by_cases h : ∃ h : i < s.size, s[i] = 45
    · obtain ⟨hk, hc⟩ := h
      exact (take_yes p i s 45 W hW hs hk hc).mono fun e w' ⟨h1, h2, h3⟩ => ⟨true, i + 1, h1, h2, h3, by omega, Lib.hid (Or.inl ⟨hk, hc, rfl⟩)⟩
    · exact (take_other p i s 45 W hW hs (eat_miss h)).mono fun e w' ⟨h1, h2, h3⟩ => ⟨false, i, h1, h2, h3, by omega, Lib.hid (Or.inr ⟨h, rfl⟩)⟩
  have c1 : (w.alloc (.cells #[.int .i64 0, .int .i64 0, .string ⟨#[]⟩, .slice none 0 0, .slice none 0 0] 95)).cell? ⟨p, 1, none⟩ = some (.int .i64 (i : Int)) := Whole1.cell HH0.out.rd.1 1
  clear hr hb0 r0 hs0
  go_enter Tryz.func71, Tryz.ntmps71
  go_wp2_with fail
  clear c1
  generalize w.alloc (.cells #[.int .i64 0, .int .i64 0, .string ⟨#[]⟩, .slice none 0 0, .slice none 0 0] 95) = w0 at *
  refine (HT.out w0 HH0.out.rd).mono ?_
  rintro e w2 ⟨b, i0, rfl, hr2, hg2, hii, H0⟩
  have HH2 := Lib.hid (HH0.out.read hr2 hg2 hrp)
  clear hr2 hg2
  go_wp2
  go_loopw [] (fun wr => ∃ k : Nat, i0 ≤ k ∧ Hold w wr p w.heap.size s k false ∧ (∀ m, (h : m < s.size) → m < k → i0 ≤ m → digC s[m] = true)) (fun wr => s.size - placeOf wr p)
  case atStart => exact ⟨i0, Nat.le_refl _, HH2.out, fun m _ h1 h2 => absurd h1 (by omega)⟩
  case round =>
    obtain ⟨k, hik, hz, hall⟩ := hrel
    have c0 : wr.cell? ⟨p, 0, none⟩ = some (.string s) := Whole1.cell hz.rd.1 0
    have c1 : wr.cell? ⟨p, 1, none⟩ = some (.int .i64 (k : Int)) := Whole1.cell hz.rd.1 1
    have f1 : wr.frozen? ⟨p, 1, none⟩ = false := Whole1.free hz.rd.1 1
    have hk := hz.rd.2
    have hpl2 := Lib.hid hz.rd.place
    have HZ := Lib.hid hz
    have HA := Lib.hid hall
    have HR := Lib.hid hz.rd
    clear hz hall
    have done : (∀ h : k < s.size, digC s[k] = false) → Hid (rdIntV (restOf s i) = match unItoa (s.extract i k).data.toList with | none => none | some n => some (.mk 1 n ⟨#[]⟩ [] [], restOf s k)) := fun hst => Lib.hid (int_at s i i0 k hk hik hst (fun m hm him => HA.out m (by omega) hm him) H0.out)
    by_cases hlt : k < s.size
    · have hltI : decide ((k : Int) < (s.size : Int)) = true := decide_eq_true (by omega)
      have hk0 : (0 : Int) ≤ (k : Int) := by omega
      have hkl : (k : Int) < (s.size : Int) := by omega
      have hwr : IntKind.i64.wrap ((k : Int) + 1) = (k : Int) + 1 := by rw [IntKind.wrap_i64]; omega
      have hW : digC s[k] = (decide (48 ≤ s[k].toNat) && decide (s[k].toNat ≤ 57)) := rfl
      have HW := Lib.hid hW
      have DONE := Lib.hid done
      clear hW done
      by_cases h48 : 48 ≤ s[k].toNat
      · by_cases h57 : s[k].toNat ≤ 57
        · have i1 : decide ((48 : Int) ≤ (s[k].toNat : Int)) = true := decide_eq_true (by omega)
          have i2 : decide ((s[k].toNat : Int) ≤ 57) = true := decide_eq_true (by omega)
          have HN : Hid (∀ m, (h : m < s.size) → m < k + 1 → i0 ≤ m → digC s[m] = true) := Lib.hid fun m hm h1 h2 => by
            by_cases e : m = k
            · subst e
              rw [HW.out]
              simp [h48, h57]
            · exact HA.out m hm (by omega) h2
          clear DONE h48 h57
          go_wp2
          go_quiet (fail)
          go_wp2
          go_roundw
          case rel => exact ⟨k + 1, by omega, ⟨(HR.out.drewN _).seti (k + 1) (by omega), (Below.heap_setCell _ _ _ _ (by show w.heap.size ≠ p; exact hrp)).trans HZ.out.zero, only_set (only_drewN HZ.out.grown _) 1 _⟩, HN.out⟩
          case measure =>
            rw [hpl2.out]
            exact Nat.lt_of_le_of_lt (Nat.le_of_eq (congrArg (fun x => s.size - x) ((HR.out.drewN _).seti (k + 1) (by omega)).place)) (show s.size - (k + 1) < s.size - k by omega)
        · have i1 : decide ((48 : Int) ≤ (s[k].toNat : Int)) = true := decide_eq_true (by omega)
          have i2 : decide ((s[k].toNat : Int) ≤ 57) = false := decide_eq_false (by omega)
          have HD := DONE.out (fun _ => by rw [HW.out]; simp; omega)
          clear DONE h48 h57
          have hes : (s.extract i k).size ≤ 1048576 := by rw [ByteArray.size_extract]; omega
          have hl0 : (0 : Int) ≤ (i : Int) := by omega
          have hl1 : (i : Int) ≤ (k : Int) := by omega
          have hl2 : (k : Int) ≤ (s.size : Int) := by omega
          cases hun : unItoa (s.extract i k).data.toList with
          | none =>
            have HMOD : Hid (rdIntV (restOf s i) = none) := Lib.hid (HD.out.trans (by rw [hun]))
            have HUN := Lib.hid hun
            clear hun HD
            have HP := Lib.hid (fun W => specParseInt_no (s.extract i k) W hes HUN.out)
            go_wp2
            go_quiet (fail)
            go_wp2
            go_region_law (first | (go_simp; go_at_call 77; (with_reducible refine (HP.out _).mono ?_); rintro e w4 ⟨rfl, hb4'⟩; have hb4 : Below wr.heap.size wr w4 := ⟨hb4'.os, hb4'.tape, hb4'.output, hb4'.size, hb4'.block⟩; have hr4 := HR.out.below hb4 HR.out.lt; have HH4 := Lib.hid (HZ.out.more hb4 HZ.out.zero.lt HZ.out.rd.lt HZ.out.grown.size); have b4 : w4.cell? ⟨p, 2, none⟩ = some (.bool false) := Whole1.cell hr4.1 2; have g4 : w4.frozen? ⟨p, 2, none⟩ = false := Whole1.free hr4.1 2; clear hb4 hb4' hr4))
            all_goals
              have HI := Lib.hid (fun W => l5Int_any 0 W)
              have HH5 := Lib.hid (HH4.out.setb true)
              go_wp2_with fail
              refine (HI.out _).mono ?_
              rintro e w6 ⟨rfl, hb6⟩
              have HH6 := Lib.hid (HH5.out.more hb6 HH5.out.zero.lt HH5.out.rd.lt HH5.out.grown.size)
              clear b4 g4 hb6
              have e0 : w6.cell? ⟨w.heap.size, 0, none⟩ = some (.int .i64 0) := HH6.out.zero.cell 0
              have f0 : w6.frozen? ⟨w.heap.size, 0, none⟩ = false := HH6.out.zero.free 0
              have e1 : w6.cell? ⟨w.heap.size, 1, none⟩ = some (.int .i64 0) := HH6.out.zero.cell 1
              have f1 : w6.frozen? ⟨w.heap.size, 1, none⟩ = false := HH6.out.zero.free 1
              have e2 : w6.cell? ⟨w.heap.size, 2, none⟩ = some (.string ⟨#[]⟩) := HH6.out.zero.cell 2
              have f2 : w6.frozen? ⟨w.heap.size, 2, none⟩ = false := HH6.out.zero.free 2
              have e3 : w6.cell? ⟨w.heap.size, 3, none⟩ = some (.slice none 0 0) := HH6.out.zero.cell 3
              have f3 : w6.frozen? ⟨w.heap.size, 3, none⟩ = false := HH6.out.zero.free 3
              have e4 : w6.cell? ⟨w.heap.size, 4, none⟩ = some (.slice none 0 0) := HH6.out.zero.cell 4
              have f4 : w6.frozen? ⟨w.heap.size, 4, none⟩ = false := HH6.out.zero.free 4
              go_wp2
              exact bodyPost_ret (v := .agg #[.int .i64 1, .int .i64 0, .string ⟨#[]⟩, .slice none 0 0, .slice none 0 0]) (by simp [results, Tryz.results71, go_sem, e0, e1, e2, e3, e4]) rfl (Or.inl ⟨HMOD.out, fin_bad HH6.out hpl 1 0 ⟨#[]⟩ none none 0 0 0 0 _ _ _ _ _⟩)
          | some n =>
            have HMOD : Hid (rdIntV (restOf s i) = some (.mk 1 n ⟨#[]⟩ [] [], restOf s k)) := Lib.hid (HD.out.trans (by rw [hun]))
            have HUN := Lib.hid hun
            clear hun HD
            have HP := Lib.hid (fun W => specParseInt_yes (s.extract i k) n W hes HUN.out)
            go_wp2
            go_quiet (fail)
            go_wp2
            go_region_law (first | (go_simp; go_at_call 77; (with_reducible refine (HP.out _).mono ?_); rintro e w4 ⟨rfl, hb4'⟩; have hb4 : Below wr.heap.size wr w4 := ⟨hb4'.os, hb4'.tape, hb4'.output, hb4'.size, hb4'.block⟩; have hr4 := HR.out.below hb4 HR.out.lt; have HH4 := Lib.hid (HZ.out.more hb4 HZ.out.zero.lt HZ.out.rd.lt HZ.out.grown.size); have b4 : w4.cell? ⟨p, 2, none⟩ = some (.bool false) := Whole1.cell hr4.1 2; have g4 : w4.frozen? ⟨p, 2, none⟩ = false := Whole1.free hr4.1 2; clear hb4 hb4' hr4))
            all_goals
              have HI := Lib.hid (fun W => l5Int_any n W)
              have HH5 := Lib.hid (HH4.out.setb false)
              go_wp2_with fail
              refine (HI.out _).mono ?_
              rintro e w6 ⟨rfl, hb6⟩
              have HH6 := Lib.hid (HH5.out.more hb6 HH5.out.zero.lt HH5.out.rd.lt HH5.out.grown.size)
              clear b4 g4 hb6
              have e0 : w6.cell? ⟨w.heap.size, 0, none⟩ = some (.int .i64 0) := HH6.out.zero.cell 0
              have f0 : w6.frozen? ⟨w.heap.size, 0, none⟩ = false := HH6.out.zero.free 0
              have e1 : w6.cell? ⟨w.heap.size, 1, none⟩ = some (.int .i64 0) := HH6.out.zero.cell 1
              have f1 : w6.frozen? ⟨w.heap.size, 1, none⟩ = false := HH6.out.zero.free 1
              have e2 : w6.cell? ⟨w.heap.size, 2, none⟩ = some (.string ⟨#[]⟩) := HH6.out.zero.cell 2
              have f2 : w6.frozen? ⟨w.heap.size, 2, none⟩ = false := HH6.out.zero.free 2
              have e3 : w6.cell? ⟨w.heap.size, 3, none⟩ = some (.slice none 0 0) := HH6.out.zero.cell 3
              have f3 : w6.frozen? ⟨w.heap.size, 3, none⟩ = false := HH6.out.zero.free 3
              have e4 : w6.cell? ⟨w.heap.size, 4, none⟩ = some (.slice none 0 0) := HH6.out.zero.cell 4
              have f4 : w6.frozen? ⟨w.heap.size, 4, none⟩ = false := HH6.out.zero.free 4
              go_wp2
              exact bodyPost_ret (v := .agg #[.int .i64 1, .int .i64 n, .string ⟨#[]⟩, .slice none 0 0, .slice none 0 0]) (by simp [results, Tryz.results71, go_sem, e0, e1, e2, e3, e4]) rfl (Or.inr ⟨_, _, HMOD.out, fin_good HH6.out (OwnVa.leaf _ _ 1 n ⟨#[]⟩ (by decide)) hpl _ _ _ _ _⟩)
      · have i1 : decide ((48 : Int) ≤ (s[k].toNat : Int)) = false := decide_eq_false (by omega)
        have HD := DONE.out (fun _ => by rw [HW.out]; simp; omega)
        clear DONE h48
        have hes : (s.extract i k).size ≤ 1048576 := by rw [ByteArray.size_extract]; omega
        have hl0 : (0 : Int) ≤ (i : Int) := by omega
        have hl1 : (i : Int) ≤ (k : Int) := by omega
        have hl2 : (k : Int) ≤ (s.size : Int) := by omega
        cases hun : unItoa (s.extract i k).data.toList with
        | none =>
          have HMOD : Hid (rdIntV (restOf s i) = none) := Lib.hid (HD.out.trans (by rw [hun]))
          have HUN := Lib.hid hun
          clear hun HD
          have HP := Lib.hid (fun W => specParseInt_no (s.extract i k) W hes HUN.out)
          go_wp2
          go_quiet (fail)
          go_wp2
          go_region_law (first | (go_simp; go_at_call 77; (with_reducible refine (HP.out _).mono ?_); rintro e w4 ⟨rfl, hb4'⟩; have hb4 : Below wr.heap.size wr w4 := ⟨hb4'.os, hb4'.tape, hb4'.output, hb4'.size, hb4'.block⟩; have hr4 := HR.out.below hb4 HR.out.lt; have HH4 := Lib.hid (HZ.out.more hb4 HZ.out.zero.lt HZ.out.rd.lt HZ.out.grown.size); have b4 : w4.cell? ⟨p, 2, none⟩ = some (.bool false) := Whole1.cell hr4.1 2; have g4 : w4.frozen? ⟨p, 2, none⟩ = false := Whole1.free hr4.1 2; clear hb4 hb4' hr4))
          all_goals
            have HI := Lib.hid (fun W => l5Int_any 0 W)
            have HH5 := Lib.hid (HH4.out.setb true)
            go_wp2_with fail
            refine (HI.out _).mono ?_
            rintro e w6 ⟨rfl, hb6⟩
            have HH6 := Lib.hid (HH5.out.more hb6 HH5.out.zero.lt HH5.out.rd.lt HH5.out.grown.size)
            clear b4 g4 hb6
            have e0 : w6.cell? ⟨w.heap.size, 0, none⟩ = some (.int .i64 0) := HH6.out.zero.cell 0
            have f0 : w6.frozen? ⟨w.heap.size, 0, none⟩ = false := HH6.out.zero.free 0
            have e1 : w6.cell? ⟨w.heap.size, 1, none⟩ = some (.int .i64 0) := HH6.out.zero.cell 1
            have f1 : w6.frozen? ⟨w.heap.size, 1, none⟩ = false := HH6.out.zero.free 1
            have e2 : w6.cell? ⟨w.heap.size, 2, none⟩ = some (.string ⟨#[]⟩) := HH6.out.zero.cell 2
            have f2 : w6.frozen? ⟨w.heap.size, 2, none⟩ = false := HH6.out.zero.free 2
            have e3 : w6.cell? ⟨w.heap.size, 3, none⟩ = some (.slice none 0 0) := HH6.out.zero.cell 3
            have f3 : w6.frozen? ⟨w.heap.size, 3, none⟩ = false := HH6.out.zero.free 3
            have e4 : w6.cell? ⟨w.heap.size, 4, none⟩ = some (.slice none 0 0) := HH6.out.zero.cell 4
            have f4 : w6.frozen? ⟨w.heap.size, 4, none⟩ = false := HH6.out.zero.free 4
            go_wp2
            exact bodyPost_ret (v := .agg #[.int .i64 1, .int .i64 0, .string ⟨#[]⟩, .slice none 0 0, .slice none 0 0]) (by simp [results, Tryz.results71, go_sem, e0, e1, e2, e3, e4]) rfl (Or.inl ⟨HMOD.out, fin_bad HH6.out hpl 1 0 ⟨#[]⟩ none none 0 0 0 0 _ _ _ _ _⟩)
        | some n =>
          have HMOD : Hid (rdIntV (restOf s i) = some (.mk 1 n ⟨#[]⟩ [] [], restOf s k)) := Lib.hid (HD.out.trans (by rw [hun]))
          have HUN := Lib.hid hun
          clear hun HD
          have HP := Lib.hid (fun W => specParseInt_yes (s.extract i k) n W hes HUN.out)
          go_wp2
          go_quiet (fail)
          go_wp2
          go_region_law (first | (go_simp; go_at_call 77; (with_reducible refine (HP.out _).mono ?_); rintro e w4 ⟨rfl, hb4'⟩; have hb4 : Below wr.heap.size wr w4 := ⟨hb4'.os, hb4'.tape, hb4'.output, hb4'.size, hb4'.block⟩; have hr4 := HR.out.below hb4 HR.out.lt; have HH4 := Lib.hid (HZ.out.more hb4 HZ.out.zero.lt HZ.out.rd.lt HZ.out.grown.size); have b4 : w4.cell? ⟨p, 2, none⟩ = some (.bool false) := Whole1.cell hr4.1 2; have g4 : w4.frozen? ⟨p, 2, none⟩ = false := Whole1.free hr4.1 2; clear hb4 hb4' hr4))
          all_goals
            have HI := Lib.hid (fun W => l5Int_any n W)
            have HH5 := Lib.hid (HH4.out.setb false)
            go_wp2_with fail
            refine (HI.out _).mono ?_
            rintro e w6 ⟨rfl, hb6⟩
            have HH6 := Lib.hid (HH5.out.more hb6 HH5.out.zero.lt HH5.out.rd.lt HH5.out.grown.size)
            clear b4 g4 hb6
            have e0 : w6.cell? ⟨w.heap.size, 0, none⟩ = some (.int .i64 0) := HH6.out.zero.cell 0
            have f0 : w6.frozen? ⟨w.heap.size, 0, none⟩ = false := HH6.out.zero.free 0
            have e1 : w6.cell? ⟨w.heap.size, 1, none⟩ = some (.int .i64 0) := HH6.out.zero.cell 1
            have f1 : w6.frozen? ⟨w.heap.size, 1, none⟩ = false := HH6.out.zero.free 1
            have e2 : w6.cell? ⟨w.heap.size, 2, none⟩ = some (.string ⟨#[]⟩) := HH6.out.zero.cell 2
            have f2 : w6.frozen? ⟨w.heap.size, 2, none⟩ = false := HH6.out.zero.free 2
            have e3 : w6.cell? ⟨w.heap.size, 3, none⟩ = some (.slice none 0 0) := HH6.out.zero.cell 3
            have f3 : w6.frozen? ⟨w.heap.size, 3, none⟩ = false := HH6.out.zero.free 3
            have e4 : w6.cell? ⟨w.heap.size, 4, none⟩ = some (.slice none 0 0) := HH6.out.zero.cell 4
            have f4 : w6.frozen? ⟨w.heap.size, 4, none⟩ = false := HH6.out.zero.free 4
            go_wp2
            exact bodyPost_ret (v := .agg #[.int .i64 1, .int .i64 n, .string ⟨#[]⟩, .slice none 0 0, .slice none 0 0]) (by simp [results, Tryz.results71, go_sem, e0, e1, e2, e3, e4]) rfl (Or.inr ⟨_, _, HMOD.out, fin_good HH6.out (OwnVa.leaf _ _ 1 n ⟨#[]⟩ (by decide)) hpl _ _ _ _ _⟩)
    · have hltI : decide ((k : Int) < (s.size : Int)) = false := decide_eq_false (by omega)
      have HD := done (fun h => absurd h hlt)
      clear done
      have hes : (s.extract i k).size ≤ 1048576 := by rw [ByteArray.size_extract]; omega
      have hl0 : (0 : Int) ≤ (i : Int) := by omega
      have hl1 : (i : Int) ≤ (k : Int) := by omega
      have hl2 : (k : Int) ≤ (s.size : Int) := by omega
      cases hun : unItoa (s.extract i k).data.toList with
      | none =>
        have HMOD : Hid (rdIntV (restOf s i) = none) := Lib.hid (HD.out.trans (by rw [hun]))
        have HUN := Lib.hid hun
        clear hun HD
        have HP := Lib.hid (fun W => specParseInt_no (s.extract i k) W hes HUN.out)
        go_wp2
        go_quiet (fail)
        go_wp2
        go_region_law (first | (go_simp; go_at_call 77; (with_reducible refine (HP.out _).mono ?_); rintro e w4 ⟨rfl, hb4'⟩; have hb4 : Below wr.heap.size wr w4 := ⟨hb4'.os, hb4'.tape, hb4'.output, hb4'.size, hb4'.block⟩; have hr4 := HR.out.below hb4 HR.out.lt; have HH4 := Lib.hid (HZ.out.more hb4 HZ.out.zero.lt HZ.out.rd.lt HZ.out.grown.size); have b4 : w4.cell? ⟨p, 2, none⟩ = some (.bool false) := Whole1.cell hr4.1 2; have g4 : w4.frozen? ⟨p, 2, none⟩ = false := Whole1.free hr4.1 2; clear hb4 hb4' hr4))
        all_goals
          have HI := Lib.hid (fun W => l5Int_any 0 W)
          have HH5 := Lib.hid (HH4.out.setb true)
          go_wp2_with fail
          refine (HI.out _).mono ?_
          rintro e w6 ⟨rfl, hb6⟩
          have HH6 := Lib.hid (HH5.out.more hb6 HH5.out.zero.lt HH5.out.rd.lt HH5.out.grown.size)
          clear b4 g4 hb6
          have e0 : w6.cell? ⟨w.heap.size, 0, none⟩ = some (.int .i64 0) := HH6.out.zero.cell 0
          have f0 : w6.frozen? ⟨w.heap.size, 0, none⟩ = false := HH6.out.zero.free 0
          have e1 : w6.cell? ⟨w.heap.size, 1, none⟩ = some (.int .i64 0) := HH6.out.zero.cell 1
          have f1 : w6.frozen? ⟨w.heap.size, 1, none⟩ = false := HH6.out.zero.free 1
          have e2 : w6.cell? ⟨w.heap.size, 2, none⟩ = some (.string ⟨#[]⟩) := HH6.out.zero.cell 2
          have f2 : w6.frozen? ⟨w.heap.size, 2, none⟩ = false := HH6.out.zero.free 2
          have e3 : w6.cell? ⟨w.heap.size, 3, none⟩ = some (.slice none 0 0) := HH6.out.zero.cell 3
          have f3 : w6.frozen? ⟨w.heap.size, 3, none⟩ = false := HH6.out.zero.free 3
          have e4 : w6.cell? ⟨w.heap.size, 4, none⟩ = some (.slice none 0 0) := HH6.out.zero.cell 4
          have f4 : w6.frozen? ⟨w.heap.size, 4, none⟩ = false := HH6.out.zero.free 4
          go_wp2
          exact bodyPost_ret (v := .agg #[.int .i64 1, .int .i64 0, .string ⟨#[]⟩, .slice none 0 0, .slice none 0 0]) (by simp [results, Tryz.results71, go_sem, e0, e1, e2, e3, e4]) rfl (Or.inl ⟨HMOD.out, fin_bad HH6.out hpl 1 0 ⟨#[]⟩ none none 0 0 0 0 _ _ _ _ _⟩)
      | some n =>
        have HMOD : Hid (rdIntV (restOf s i) = some (.mk 1 n ⟨#[]⟩ [] [], restOf s k)) := Lib.hid (HD.out.trans (by rw [hun]))
        have HUN := Lib.hid hun
        clear hun HD
        have HP := Lib.hid (fun W => specParseInt_yes (s.extract i k) n W hes HUN.out)
        go_wp2
        go_quiet (fail)
        go_wp2
        go_region_law (first | (go_simp; go_at_call 77; (with_reducible refine (HP.out _).mono ?_); rintro e w4 ⟨rfl, hb4'⟩; have hb4 : Below wr.heap.size wr w4 := ⟨hb4'.os, hb4'.tape, hb4'.output, hb4'.size, hb4'.block⟩; have hr4 := HR.out.below hb4 HR.out.lt; have HH4 := Lib.hid (HZ.out.more hb4 HZ.out.zero.lt HZ.out.rd.lt HZ.out.grown.size); have b4 : w4.cell? ⟨p, 2, none⟩ = some (.bool false) := Whole1.cell hr4.1 2; have g4 : w4.frozen? ⟨p, 2, none⟩ = false := Whole1.free hr4.1 2; clear hb4 hb4' hr4))
        all_goals
          have HI := Lib.hid (fun W => l5Int_any n W)
          have HH5 := Lib.hid (HH4.out.setb false)
          go_wp2_with fail
          refine (HI.out _).mono ?_
          rintro e w6 ⟨rfl, hb6⟩
          have HH6 := Lib.hid (HH5.out.more hb6 HH5.out.zero.lt HH5.out.rd.lt HH5.out.grown.size)
          clear b4 g4 hb6
          have e0 : w6.cell? ⟨w.heap.size, 0, none⟩ = some (.int .i64 0) := HH6.out.zero.cell 0
          have f0 : w6.frozen? ⟨w.heap.size, 0, none⟩ = false := HH6.out.zero.free 0
          have e1 : w6.cell? ⟨w.heap.size, 1, none⟩ = some (.int .i64 0) := HH6.out.zero.cell 1
          have f1 : w6.frozen? ⟨w.heap.size, 1, none⟩ = false := HH6.out.zero.free 1
          have e2 : w6.cell? ⟨w.heap.size, 2, none⟩ = some (.string ⟨#[]⟩) := HH6.out.zero.cell 2
          have f2 : w6.frozen? ⟨w.heap.size, 2, none⟩ = false := HH6.out.zero.free 2
          have e3 : w6.cell? ⟨w.heap.size, 3, none⟩ = some (.slice none 0 0) := HH6.out.zero.cell 3
          have f3 : w6.frozen? ⟨w.heap.size, 3, none⟩ = false := HH6.out.zero.free 3
          have e4 : w6.cell? ⟨w.heap.size, 4, none⟩ = some (.slice none 0 0) := HH6.out.zero.cell 4
          have f4 : w6.frozen? ⟨w.heap.size, 4, none⟩ = false := HH6.out.zero.free 4
          go_wp2
          exact bodyPost_ret (v := .agg #[.int .i64 1, .int .i64 n, .string ⟨#[]⟩, .slice none 0 0, .slice none 0 0]) (by simp [results, Tryz.results71, go_sem, e0, e1, e2, e3, e4]) rfl (Or.inr ⟨_, _, HMOD.out, fin_good HH6.out (OwnVa.leaf _ _ 1 n ⟨#[]⟩ (by decide)) hpl _ _ _ _ _⟩)
end Go.Proofs.YtlmbnefoobameaaGreatDoor.V
end

section
namespace Go.Proofs
open Go.Shelf
def Tryz.laysClone_ren : Go.Shelf.Ren := ⟨fun | 316 => 66 | n => n, fun | 9 => 9 | 3 => 3 | 4 => 4 | 37 => 22 | 0 => 0 | 127 => 109 | 5 => 5 | n => n, fun | n => n⟩
theorem Tryz.laysClone : Go.Proofs.LaysM.n316 Tryz.prog Tryz.laysClone_ren := {
  mixed := by kernel_rfl
  f316 := Tryz.func66.trans (congrArg some (by kernel_rfl))
  t0 := Tryz.underlying0
  a0 := Tryz.isAgg0
  z0 := Tryz.sizeOf0
  v0 := Tryz.zeroValue0
  t3 := Tryz.underlying3
  a3 := Tryz.isAgg3
  z3 := Tryz.sizeOf3
  v3 := Tryz.zeroValue3
  t4 := Tryz.underlying4
  a4 := Tryz.isAgg4
  z4 := Tryz.sizeOf4
  v4 := Tryz.zeroValue4
  t9 := Tryz.underlying9
  a9 := Tryz.isAgg9
  z9 := Tryz.sizeOf9
  v9 := Tryz.zeroValue9
  t37 := Tryz.underlying22
  a37 := Tryz.isAgg22
  z37 := Tryz.sizeOf22
  v37 := Tryz.zeroValue22
  t127 := Tryz.underlying109
  a127 := Tryz.isAgg109
  z127 := Tryz.sizeOf109
  v127 := Tryz.zeroValue109
  t5 := Tryz.underlying5
  a5 := Tryz.isAgg5
  z5 := Tryz.sizeOf5
  v5 := Tryz.zeroValue5
  i0 := by kernel_rfl
  i3 := by kernel_rfl
  i4 := by kernel_rfl
  i5 := by kernel_rfl
  i9 := by kernel_rfl
  i37 := by kernel_rfl
  i127 := by kernel_rfl }
end Go.Proofs

namespace Go.Proofs.YtlmbnefoobameaaGreatDoor
open Go.RowKit

theorem clone_any (s : ByteArray) (w : World) (hs : s.size ≤ 1048576) :
    Calls Tryz.prog 40 #[.string s] w fun e w' => e = .returned (.string s) ∧ Below w.heap.size w w' := by
  have hc := Lib.hid (Any.stringslite_Clone Tryz.laysClone s w (by omega))
  go_enter Tryz.func40, Tryz.ntmps40
  go_wp2_with fail
  refine hc.out.mono ?_
  rintro e w1 ⟨rfl, hb1⟩
  go_wp2
  go_ret
  exact ⟨rfl, hb1⟩

end Go.Proofs.YtlmbnefoobameaaGreatDoor

namespace Go.Proofs.YtlmbnefoobameaaGreatDoor
open Go.RowKit

theorem letter_yes (r : Int) (w : World) (h1 : 97 ≤ r) (h2 : r ≤ 122) :
    Calls Tryz.prog 68 #[.int .i32 r] w fun e w' => e = .returned (.bool true) ∧ w = w' := by
  go_enter Tryz.func68, Tryz.ntmps68
  go_wp2
  go_ret
  exact ⟨rfl, rfl⟩
theorem letter_no (r : Int) (w : World) (h : r < 97 ∨ 122 < r) :
    Calls Tryz.prog 68 #[.int .i32 r] w fun e w' => e = .returned (.bool false) ∧ w = w' := by
  by_cases h1 : 97 ≤ r
  · have h2 : ¬ r ≤ 122 := by omega
    clear h
    go_enter Tryz.func68, Tryz.ntmps68
    go_wp2
    go_ret
    exact ⟨rfl, rfl⟩
  · clear h
    go_enter Tryz.func68, Tryz.ntmps68
    go_wp2
    go_ret
    exact ⟨rfl, rfl⟩
theorem digit_yes (r : Int) (w : World) (h1 : 48 ≤ r) (h2 : r ≤ 57) :
    Calls Tryz.prog 69 #[.int .i32 r] w fun e w' => e = .returned (.bool true) ∧ w = w' := by
  go_enter Tryz.func69, Tryz.ntmps69
  go_wp2
  go_ret
  exact ⟨rfl, rfl⟩
theorem digit_no (r : Int) (w : World) (h : r < 48 ∨ 57 < r) :
    Calls Tryz.prog 69 #[.int .i32 r] w fun e w' => e = .returned (.bool false) ∧ w = w' := by
  by_cases h1 : 48 ≤ r
  · have h2 : ¬ r ≤ 57 := by omega
    clear h
    go_enter Tryz.func69, Tryz.ntmps69
    go_wp2
    go_ret
    exact ⟨rfl, rfl⟩
  · clear h
    go_enter Tryz.func69, Tryz.ntmps69
    go_wp2
    go_ret
    exact ⟨rfl, rfl⟩

theorem decode_cases (s : ByteArray) (k : Nat) (h : k < s.size) : ∃ r wd : Nat, Utf8.decode s k = (r, wd) ∧ 1 ≤ wd ∧ (r < 128 → wd = 1 ∧ r = s[k].toNat) ∧ (128 ≤ r → 128 ≤ s[k].toNat) ∧ r ≤ 2147483647 := by
  have hle := decode_le s k
  by_cases ha : s[k].toNat < 128
  · have e := decode_ascii s k h ha
    refine ⟨_, _, e, Nat.le_refl _, fun _ => ⟨rfl, rfl⟩, fun h => by omega, by omega⟩
  · have h2 := decode_high s k h (by omega)
    rcases hd : Utf8.decode s k with ⟨r, wd⟩
    rw [hd] at h2 hle
    obtain ⟨h3, h4⟩ := h2
    exact ⟨_, _, rfl, h4, fun h => by simp at h3; omega, fun _ => by omega, hle⟩

theorem nameAt_no (k : Nat) (c : UInt8) (h1 : ¬ (97 ≤ c.toNat ∧ c.toNat ≤ 122)) (h2 : ¬ 0 < k ∨ ¬ (48 ≤ c.toNat ∧ c.toNat ≤ 57)) : nameAt k c = false := by
  unfold nameAt
  rw [Bool.or_eq_false_iff]
  constructor
  · rw [Bool.and_eq_false_iff]
    simp
    omega
  · rw [Bool.and_eq_false_iff, Bool.and_eq_false_iff]
    simp
    omega
theorem isNameB_long (s : ByteArray) (h : 4 < s.size) : isNameB s = false := by
  unfold isNameB
  simp [show ¬ s.size ≤ 4 by omega]

/-- A bool is handed back; what was there stands. -/
def BoolBelow (b : Bool) (w : World) (e : Ending) (w' : World) : Prop := e = .returned (.bool b) ∧ Below w.heap.size w w'

theorem iter_below (w : World) (s : ByteArray) (k : Nat) : Below w.heap.size w (w.iter s k) := (Below.refl _ _).alloc (Nat.le_refl _) _

set_option maxHeartbeats 1000000 in
theorem implIsName_any (s : ByteArray) (w : World) (hs : s.size ≤ maxLen) :
    Calls Tryz.prog 88 #[.string s] w (BoolBelow (isNameB s) w) := by
  unfold maxLen at hs
  go_enter Tryz.func88, Tryz.ntmps88
  go_wp2
  go_loopw [2] (fun r2 w' => ∃ k : Nat, r2 = .bool false ∧ w' = w.iter s k ∧ k ≤ s.size ∧ k ≤ 4 ∧ ∀ j, j < k → nameAt j (s.data.getD j 0) = true) (fun _ w' => s.size - w'.iterPos w.heap.size)
  case atStart => exact ⟨0, rfl, rfl, Nat.zero_le _, Nat.zero_le _, fun j h => absurd h (by omega)⟩
  case round =>
    obtain ⟨k, rfl, rfl, hk, hk4, hall⟩ := hrel
    have HA := Lib.hid hall
    clear hall
    by_cases hp : k < s.size
    · obtain ⟨r, wd, hd, hwd, hlo, hhi, hr⟩ := decode_cases s k hp
      have hnx : ∀ ty, (Instr.next (.pointer (some ⟨w.heap.size, 0, none⟩)) true ty).run Tryz.prog (w.iter s k) = .ok (.tuple #[.bool true, .int .i64 k, .int .i32 r]) (w.iter s (k + wd)) := fun ty => by
        rw [run_next_any w s k ty hp, hd]
      have hget : s.data.getD k 0 = s[k] := by
        rw [Array.getD_eq_getD_getElem?, Array.getElem?_eq_getElem hp]; rfl
      have HG := Lib.hid hget
      have HD := Lib.hid hd
      clear hget hd
      by_cases h4 : 4 ≤ k
      · have i4 : (4 : Int) ≤ k := by omega
        have hno := Lib.hid (isNameB_long s (by omega))
        go_wp2
        go_ret
        exact ⟨by rw [hno.out]; rfl, iter_below _ _ _⟩
      · have i4 : ¬ (4 : Int) ≤ k := by omega
        by_cases hlet : 97 ≤ r ∧ r ≤ 122
        · have hc := hlo (by omega)
          have hct := Lib.hid hc
          have i1 : 97 ≤ (r : Int) := by omega
          have i2 : (r : Int) ≤ 122 := by omega
          have hR := Lib.hid hlet
          clear hlet hc hlo hhi
          go_wp2_with fail
          refine (letter_yes r _ i1 i2).mono ?_
          rintro e w' ⟨rfl, rfl⟩
          go_wp2
          go_roundw
          case rel =>
            refine ⟨k + wd, rfl, rfl, by have := hct.out; omega, by have := hct.out; omega, fun j hj => ?_⟩
            have h1 := hct.out
            by_cases e : j = k
            · subst e
              rw [HG.out]
              have := hR.out
              simp [nameAt, show 97 ≤ s[j].toNat by omega, show s[j].toNat ≤ 122 by omega]
            · exact HA.out j (by omega)
          case measure => simp; omega
        · have i1 : (r : Int) < 97 ∨ 122 < (r : Int) := by omega
          by_cases hk0 : k = 0
          · have hno := Lib.hid (isNameB_no s k hp (by
              rw [HG.out]
              by_cases h128 : r < 128
              · have := hlo h128
                exact nameAt_no _ _ (by omega) (.inl (by omega))
              · have := hhi (by omega)
                exact nameAt_no _ _ (by omega) (.inl (by omega))))
            have i0 : ((k : Int) == 0) = true := by rw [beq_iff_eq]; omega
            have hR := Lib.hid hlet
            have hk0' := Lib.hid hk0
            clear hlet hlo hhi hk0
            go_wp2_with fail
            refine (letter_no r _ i1).mono ?_
            rintro e w' ⟨rfl, rfl⟩
            clear i1
            go_wp2
            go_ret
            exact ⟨by rw [hno.out]; rfl, iter_below _ _ _⟩
          · have i0 : ((k : Int) == 0) = false := by rw [beq_eq_false_iff_ne]; omega
            by_cases hdig : 48 ≤ r ∧ r ≤ 57
            · have hc := hlo (by omega)
              have hct := Lib.hid hc
              have i3 : 48 ≤ (r : Int) := by omega
              have i5 : (r : Int) ≤ 57 := by omega
              have hR := Lib.hid hdig
              clear hlet hc hlo hhi hdig
              go_wp2_with fail
              refine (letter_no r _ i1).mono ?_
              rintro e w' ⟨rfl, rfl⟩
              clear i1
              go_wp2_with fail
              refine (digit_yes r _ i3 i5).mono ?_
              rintro e w' ⟨rfl, rfl⟩
              go_wp2
              go_roundw
              case rel =>
                refine ⟨k + wd, rfl, rfl, by have := hct.out; omega, by have := hct.out; omega, fun j hj => ?_⟩
                have h1 := hct.out
                by_cases e : j = k
                · subst e
                  rw [HG.out]
                  have := hR.out
                  simp [nameAt, show 48 ≤ s[j].toNat by omega, show s[j].toNat ≤ 57 by omega, show 0 < j by omega]
                · exact HA.out j (by omega)
              case measure => simp; omega
            · have i3 : (r : Int) < 48 ∨ 57 < (r : Int) := by omega
              have hno := Lib.hid (isNameB_no s k hp (by
                rw [HG.out]
                by_cases h128 : r < 128
                · have := hlo h128
                  exact nameAt_no _ _ (by omega) (.inr (by omega))
                · have := hhi (by omega)
                  exact nameAt_no _ _ (by omega) (.inr (by omega))))
              clear hlet hlo hhi hdig
              go_wp2_with fail
              refine (letter_no r _ i1).mono ?_
              rintro e w' ⟨rfl, rfl⟩
              clear i1
              go_wp2_with fail
              refine (digit_no r _ i3).mono ?_
              rintro e w' ⟨rfl, rfl⟩
              clear i3
              go_wp2
              go_ret
              exact ⟨by rw [hno.out]; rfl, iter_below _ _ _⟩
    · have hnx : ∀ ty, (Instr.next (.pointer (some ⟨w.heap.size, 0, none⟩)) true ty).run Tryz.prog (w.iter s k) = _ := fun ty => run_next_end w s k ty hp
      have hB := Lib.hid (isNameB_all s (fun j hj => HA.out j (by omega)))
      by_cases h0 : s.size = 0
      · have he : s.toList.isEmpty = true := by rw [ByteArray.toList_eq, List.isEmpty_iff, ← List.length_eq_zero_iff, Array.length_toList]; exact h0
        have H0 := Lib.hid h0
        clear h0
        go_wp2
        go_ret
        exact ⟨by rw [hB.out, H0.out]; rfl, iter_below _ _ _⟩
      · have he : s.toList.isEmpty = false := by
          rw [ByteArray.toList_eq, Bool.eq_false_iff, Ne, List.isEmpty_iff, ← List.length_eq_zero_iff, Array.length_toList]; exact h0
        have H0 := Lib.hid h0
        clear h0
        go_wp2
        go_ret
        refine ⟨?_, iter_below _ _ _⟩
        have := H0.out
        rw [hB.out]
        simp [show 1 ≤ s.size by omega, show s.size ≤ 4 by omega]

end Go.Proofs.YtlmbnefoobameaaGreatDoor
end
