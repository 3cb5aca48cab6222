/- Values of their own grow: a label, a part. -/
import Derived.Test.YtlmbnefoobameaaDoorVCopyLib
import Derived.Test.YtlmbnefoobameaaDoorGrow
namespace Go.Proofs.YtlmbnefoobameaaDoor
open Go.RowKit

theorem VGatherAt.base {w : World} {base base' k : Nat} {v : Value} {ts : List Va} {xs : List Value} {vs : Nat → Value} {lo hi : Nat → Nat} (h : VGatherAt w base' v k ts xs vs lo hi) (hb : base ≤ base') : VGatherAt w base v k ts xs vs lo hi :=
  ⟨own_base h.own hb, h.cells, fun i hi' => ⟨Nat.le_trans hb (h.low i hi').1, (h.low i hi').2⟩, h.apart, h.free, h.kids⟩

/-- The value reads as the tree; its root's slices are rows from base on, apart from each other and from the parts. -/
def OwnVa (w : World) (base : Nat) (v : Value) (t : Va) : Prop :=
  ∃ L lc A ac xs vs lo hi, v = .agg #[.int .i64 t.kind, .int .i64 t.num, .string t.name, .slice L t.labels.length lc, .slice A t.args.length ac] ∧ t.name.size ≤ maxLen ∧ (∀ i, (h : i < t.labels.length) → t.labels[i].size ≤ maxLen) ∧ t.args.length ≤ maxLen ∧
    w.ownsRow base 9 1 (.slice L t.labels.length lc) t.labels.length (strVals t.labels) ∧ VGatherAt w base (.slice A t.args.length ac) t.args.length t.args xs vs lo hi ∧
    ∀ gl, L = some ⟨gl, 0, none⟩ → A ≠ some ⟨gl, 0, none⟩ ∧ ∀ i, i < t.args.length → ¬ Span (lo i) (hi i) gl

theorem OwnVa.owned {w : World} {base : Nat} {v : Value} {t : Va} (h : OwnVa w base v t) : VaIn w (Span base w.heap.size) v t := by
  obtain ⟨L, lc, A, ac, xs, vs, lo, hi, rfl, hnm, hz, hm, hl, hg, hap⟩ := h
  have hn := own_len hl
  have hdone := VGather.done ⟨xs, vs, lo, hi, hg⟩ hm
  rcases RowStrs.of_own hl with ⟨h1, h2⟩ | ⟨g, cap, h1, h2, h3⟩
  · obtain ⟨hd0, ga, vs', Ss, d1, d2, d3, d4⟩ := hdone
    refine VaIn.of (gl := w.heap.size) hnm hn hz (.inl h2) (Sa := Span base w.heap.size) ⟨hd0, ga, vs', Ss, d1, d2, d3, d4⟩ fun b hb => ⟨hb, by have := hb.2; omega⟩
  · have e1 : L = some ⟨g, 0, none⟩ := by injection h1
    have hgl := h3.lt
    -- the parts, in the blocks but for the labels' own
    have hsub : VasIn w (fun b => Span base w.heap.size b ∧ b ≠ g) A t.args := by
      obtain ⟨hAg, hsp⟩ := hap g e1
      rcases hg.own.2 with ⟨_, k2⟩ | ⟨ga, cap2, cur, k1, k2, k3, k4, k5, k6, k7⟩
      · have ht : t.args = [] := List.length_eq_zero_iff.1 k2
        refine ⟨hm, 0, vs, fun _ _ => False, .inl ht, fun i hi => ?_, fun i _ hi => ?_, fun i hi => ?_⟩
        all_goals rw [ht] at hi; simp at hi
      · have e2 : A = some ⟨ga, 0, none⟩ := by injection k1
        have hgal := (hg.own.lt ga (by rw [e2]; rfl)).2
        refine ⟨hm, ga, vs, fun i => Span (lo i) (hi i), .inr ⟨e2, ⟨⟨k2, hgal⟩, fun e => hAg (by rw [e2, e])⟩, cur, k3, fun i hi' j hj => ?_⟩, fun i hi' b hb => ⟨⟨⟨?_, ?_⟩, fun e => hsp i hi' (by rw [← e]; exact hb)⟩, fun e => hg.free i hi' ga (by rw [e2]; rfl) (by rw [← e]; exact hb)⟩, ?_, fun i hi' => hg.kids i hi' hi'⟩
        · have hc := hg.cells i hi' j hj
          refine ⟨hc.1, ?_⟩
          rw [← hc.2, ← k7, List.getElem?_take, if_pos (by omega)]
          simp
        · have := (hg.low i hi').1
          have := hb.1
          omega
        · have := (hg.low i hi').2
          have := hb.2
          omega
        · intro i j hi' hj hne b hb hb'
          have := hb.1
          have := hb.2
          have := hb'.1
          have := hb'.2
          rcases Nat.lt_or_gt_of_ne hne with hlt | hlt
          · have := hg.apart i j hlt hj
            omega
          · have := hg.apart j i hlt hi'
            omega
    exact VaIn.of (gl := g) hnm hn hz (.inr ⟨e1, ⟨h2, hgl⟩, h3⟩) hsub fun b hb => hb

/-- Where the blocks from base on stand, the tree stands. -/
theorem OwnVa.keep {w w' : World} {base : Nat} {v : Value} {t : Va} (h : OwnVa w base v t) (hs : w.heap.size ≤ w'.heap.size) (hk : ∀ g, base ≤ g → g < w.heap.size → w'.heap[g]? = w.heap[g]?) : OwnVa w' base v t := by
  obtain ⟨L, lc, A, ac, xs, vs, lo, hi, hv, hnm, hz, hm, hl, hg, hap⟩ := h
  refine ⟨L, lc, A, ac, xs, vs, lo, hi, hv, hnm, hz, hm, ⟨hl.1, ?_⟩, hg.keep hs hk, hap⟩
  rcases hl.2 with h2 | ⟨g, cap, cur, h1, h2, h3, h4⟩
  · exact .inl h2
  · exact .inr ⟨g, cap, cur, h1, h2, (hk g h2 (Whole1.lt (t := 9) (cs := cur) h3)).trans h3, h4⟩
theorem OwnVa.base {w : World} {base base' : Nat} {v : Value} {t : Va} (h : OwnVa w base' v t) (hb : base ≤ base') : OwnVa w base v t := by
  obtain ⟨L, lc, A, ac, xs, vs, lo, hi, hv, hnm, hz, hm, hl, hg, hap⟩ := h
  exact ⟨L, lc, A, ac, xs, vs, lo, hi, hv, hnm, hz, hm, own_base hl hb, hg.base hb, hap⟩
theorem OwnVa.open {w : World} {base : Nat} {v : Value} {t : Va} (h : OwnVa w base v t) : ∃ L lc A ac, v = .agg #[.int .i64 t.kind, .int .i64 t.num, .string t.name, .slice L t.labels.length lc, .slice A t.args.length ac] := by
  obtain ⟨L, lc, A, ac, xs, vs, lo, hi, hv, _⟩ := h
  exact ⟨L, lc, A, ac, hv⟩

/-- Without labels and parts. -/
theorem OwnVa.leaf (w : World) (base : Nat) (k n : Int) (nm : ByteArray) (hnm : nm.size ≤ maxLen) : OwnVa w base (.agg #[.int .i64 k, .int .i64 n, .string nm, .slice none 0 0, .slice none 0 0]) (.mk k n nm [] []) := by
  obtain ⟨xs, vs, lo, hi, hg⟩ := VGather.start w base []
  exact ⟨none, 0, none, 0, xs, vs, lo, hi, rfl, hnm, fun i h => absurd h (by simp [Va.labels]), Nat.zero_le _, World.ownsRow_nil w base _ 1, hg, fun gl h => by cases h⟩


/-- OwnVa, with all that it speaks of named. -/
structure OwnVAt (w : World) (base : Nat) (L : Option Addr) (lc : Nat) (A : Option Addr) (ac : Nat) (t : Va) (xs : List Value) (vs : Nat → Value) (lo hi : Nat → Nat) : Prop where
  name : t.name.size ≤ maxLen
  size : ∀ i, (h : i < t.labels.length) → t.labels[i].size ≤ maxLen
  len : t.args.length ≤ maxLen
  row : w.ownsRow base 9 1 (.slice L t.labels.length lc) t.labels.length (strVals t.labels)
  parts : VGatherAt w base (.slice A t.args.length ac) t.args.length t.args xs vs lo hi
  far : ∀ gl, L = some ⟨gl, 0, none⟩ → A ≠ some ⟨gl, 0, none⟩ ∧ ∀ i, i < t.args.length → ¬ Span (lo i) (hi i) gl
theorem OwnVa.named {w : World} {base : Nat} {v : Value} {t : Va} (h : OwnVa w base v t) : ∃ L lc A ac xs vs lo hi, v = .agg #[.int .i64 t.kind, .int .i64 t.num, .string t.name, .slice L t.labels.length lc, .slice A t.args.length ac] ∧ OwnVAt w base L lc A ac t xs vs lo hi := by
  obtain ⟨L, lc, A, ac, xs, vs, lo, hi, hv, h0, h1, h2, h3, h4, h5⟩ := h
  exact ⟨L, lc, A, ac, xs, vs, lo, hi, hv, h0, h1, h2, h3, h4, h5⟩

section
variable {w w' : World} {base lc ac : Nat} {L A : Option Addr} {t : Va} {xs : List Value} {vs : Nat → Value} {lo hi : Nat → Nat}

theorem OwnVAt.own (h : OwnVAt w base L lc A ac t xs vs lo hi) : OwnVa w base (.agg #[.int .i64 t.kind, .int .i64 t.num, .string t.name, .slice L t.labels.length lc, .slice A t.args.length ac]) t :=
  ⟨L, lc, A, ac, xs, vs, lo, hi, rfl, h.name, h.size, h.len, h.row, h.parts, h.far⟩
theorem OwnVAt.root (h : OwnVAt w base L lc A ac t xs vs lo hi) (k n : Int) (nm : ByteArray) (hnm : nm.size ≤ maxLen) : OwnVAt w base L lc A ac (.mk k n nm t.labels t.args) xs vs lo hi :=
  ⟨hnm, h.size, h.len, h.row, h.parts, h.far⟩
/-- Only the two rows' own blocks and the parts' count. -/
theorem OwnVAt.keep (h : OwnVAt w base L lc A ac t xs vs lo hi) (hs : w.heap.size ≤ w'.heap.size) (hL : ∀ g, (Value.slice L t.labels.length lc).ownBlock = some g → g < w.heap.size → w'.heap[g]? = w.heap[g]?) (hA : ∀ g, (Value.slice A t.args.length ac).ownBlock = some g → g < w.heap.size → w'.heap[g]? = w.heap[g]?)
    (hS : ∀ i, i < t.args.length → ∀ b, Span (lo i) (hi i) b → b < w.heap.size → w'.heap[b]? = w.heap[b]?) : OwnVAt w' base L lc A ac t xs vs lo hi :=
  ⟨h.name, h.size, h.len, own_keep1 h.row fun g hg => hL g hg (h.row.lt g hg).2,
    ⟨own_keep5 h.parts.own fun g hg => hA g hg (h.parts.own.lt g hg).2, h.parts.cells, fun i hi' => ⟨(h.parts.low i hi').1, Nat.le_trans (h.parts.low i hi').2 hs⟩, h.parts.apart, h.parts.free, fun i hi' hik => (h.parts.kids i hi' hik).keep fun b hb hbl => hS i hik b hb hbl⟩, h.far⟩
/-- What lies from base on stands, but for a block that is none of the tree's. -/
theorem OwnVAt.but (h : OwnVAt w base L lc A ac t xs vs lo hi) (q : Nat) (hs : w.heap.size ≤ w'.heap.size) (hk : ∀ g, base ≤ g → g < w.heap.size → g ≠ q → w'.heap[g]? = w.heap[g]?) (hL : (Value.slice L t.labels.length lc).ownBlock ≠ some q) (hA : (Value.slice A t.args.length ac).ownBlock ≠ some q) (hS : ∀ i, i < t.args.length → ¬ Span (lo i) (hi i) q) : OwnVAt w' base L lc A ac t xs vs lo hi :=
  h.keep hs (fun g hg hl => hk g (h.row.lt g hg).1 hl (fun e => hL (by rw [hg, e]))) (fun g hg hl => hk g (h.parts.own.lt g hg).1 hl (fun e => hA (by rw [hg, e]))) (fun i hi' b hb hl => hk b (Nat.le_trans (h.parts.low i hi').1 hb.1) hl (fun e => hS i hi' (by rw [← e]; exact hb)))

/-- A label is appended. -/
theorem OwnVAt.label {w3 : World} {g cap : Nat} (h : OwnVAt w base L lc A ac t xs vs lo hi) (s : ByteArray) (hz : s.size ≤ maxLen) (hown : w3.ownsRow base 9 1 (.slice (some ⟨g, 0, none⟩) (t.labels.length + 1) cap) (t.labels.length + 1) (strVals t.labels ++ [.string s]))
    (hgr : w.grownBy w3 (Value.slice L t.labels.length lc).ownBlock) (hat : (Value.slice L t.labels.length lc).ownBlock = some g ∨ w.heap.size ≤ g) : OwnVAt w3 base (some ⟨g, 0, none⟩) cap A ac (.mk t.kind t.num t.name (t.labels ++ [s]) t.args) xs vs lo hi := by
  have hAL : ∀ q, (Value.slice A t.args.length ac).ownBlock = some q → (Value.slice L t.labels.length lc).ownBlock ≠ some q := fun q hq e => (h.far q (own_addr h.row q e)).1 (own_addr h.parts.own q hq)
  have hSL : ∀ i, i < t.args.length → ∀ b, Span (lo i) (hi i) b → (Value.slice L t.labels.length lc).ownBlock ≠ some b := fun i hi' b hb e => (h.far b (own_addr h.row b e)).2 i hi' hb
  refine ⟨h.name, fun i hi' => ?_, h.len, ?_, ⟨own_keep5 h.parts.own fun q hq => hgr.block q (h.parts.own.lt q hq).2 (fun e => hAL q hq e.symm), h.parts.cells, fun i hi' => ⟨(h.parts.low i hi').1, Nat.le_trans (h.parts.low i hi').2 hgr.size⟩, h.parts.apart, h.parts.free, fun i hi' hik => (h.parts.kids i hi' hik).keep fun b hb hbl => hgr.block b hbl (fun e => hSL i hik b hb e.symm)⟩, fun gl hgl => ?_⟩
  · have key : ∀ j, (hj : j < (t.labels ++ [s]).length) → (t.labels ++ [s])[j].size ≤ maxLen := fun j hj => by
      by_cases e : j < t.labels.length
      · rw [List.getElem_append_left e]
        exact h.size j e
      · rw [List.getElem_append_right (by omega)]
        simp
        exact hz
    exact key i hi'
  · show w3.ownsRow base _ 1 (.slice _ (t.labels ++ [s]).length cap) (t.labels ++ [s]).length (strVals (t.labels ++ [s]))
    have e1 : (t.labels ++ [s]).length = t.labels.length + 1 := by simp
    have e2 : strVals (t.labels ++ [s]) = strVals t.labels ++ [.string s] := by simp [strVals]
    rw [e1, e2]
    exact hown
  · have e : g = gl := by injection hgl with e; injection e
    subst e
    rcases hat with hat | hat
    · exact h.far g (own_addr h.row g hat)
    · refine ⟨fun e => ?_, fun i hi' hb => ?_⟩
      · have := (h.parts.own.lt g (by rw [e]; rfl)).2
        omega
      · have := (h.parts.low i hi').2
        have := hb.2
        omega
end

/-- One more tree is appended. -/
theorem VGatherAt.stepAt {w w1 w3 : World} {base k g cap : Nat} {v a b c d e : Value} {ts : List Va} {xs : List Value} {vs : Nat → Value} {lo hi : Nat → Nat} (h : VGatherAt w base v k ts xs vs lo hi) (hb : Below w.heap.size w w1) (hbase : base ≤ w.heap.size) (hk : k < ts.length)
    (ht : VaIn w1 (Span w.heap.size w1.heap.size) (.agg #[a, b, c, d, e]) ts[k]) (hown : w3.ownsRow base 27 5 (.slice (some ⟨g, 0, none⟩) (k + 1) cap) (k + 1) (xs ++ [a, b, c, d, e]))
    (hg : (w1.alloc (.cells #[a, b, c, d, e] 27)).grownBy w3 v.ownBlock) (hat : v.ownBlock = some g ∨ g = w1.heap.size + 1) : VGatherAt w3 base (.slice (some ⟨g, 0, none⟩) (k + 1) cap) (k + 1) ts (xs ++ [a, b, c, d, e]) (fun i => if i = k then .agg #[a, b, c, d, e] else vs i) (fun i => if i = k then w.heap.size else lo i) (fun i => if i = k then w1.heap.size else hi i) := by
  have hs1 := hb.size
  have hs3 : w1.heap.size + 1 ≤ w3.heap.size := by have := hg.size; simp at this; exact this
  have hxl : xs.length = k * 5 := h.own.1
  have hkeep : ∀ q, q < w1.heap.size → v.ownBlock ≠ some q → w3.heap[q]? = w1.heap[q]? := fun q hq hne =>
    (hg.block q (by simp; omega) (fun e => hne e.symm)).trans (Below.heap_alloc _ _ _ hq)
  refine ⟨hown, fun i hi' j hj => ?_, fun i hi' => ?_, fun i j hij hj => ?_, fun i hi' q hq => ?_, fun i hi' hik => ?_⟩
  · by_cases e0 : i = k
    · subst e0
      rw [if_pos rfl, List.getElem?_append_right (by omega), hxl]
      have : j = 0 ∨ j = 1 ∨ j = 2 ∨ j = 3 ∨ j = 4 := by omega
      rcases this with rfl | rfl | rfl | rfl | rfl
      · simp [partAt]
      · simp [partAt]
      · simp [partAt]
      · simp [partAt]
      · simp [partAt]
    · rw [if_neg e0, List.getElem?_append_left (by omega)]
      exact h.cells i (by omega) j hj
  · by_cases e0 : i = k
    · rw [if_pos e0, if_pos e0]
      omega
    · rw [if_neg e0, if_neg e0]
      have := h.low i (by omega)
      omega
  · rw [if_neg (show i ≠ k by omega)]
    by_cases e0 : j = k
    · rw [if_pos e0]
      exact (h.low i (by omega)).2
    · rw [if_neg e0]
      exact h.apart i j hij (by omega)
  · have hqg : q = g := (Option.some.inj hq).symm
    subst hqg
    by_cases e0 : i = k
    · rw [if_pos e0, if_pos e0]
      intro hs
      have a1 := hs.1
      have a2 := hs.2
      rcases hat with hat | hat
      · have := (h.own.lt q hat).2
        omega
      · omega
    · rw [if_neg e0, if_neg e0]
      rcases hat with hat | hat
      · exact h.free i (by omega) q hat
      · intro hs
        have := hs.2
        have := (h.low i (by omega)).2
        omega
  · by_cases e0 : i = k
    · subst e0
      rw [if_pos rfl, if_pos rfl, if_pos rfl]
      refine ht.keep fun q hq _ => hkeep q hq.2 fun hv => ?_
      have := (h.own.lt q hv).2
      have := hq.1
      omega
    · rw [if_neg e0, if_neg e0, if_neg e0]
      refine (h.kids i hi' (by omega)).keep fun q hq hql => ?_
      rw [hkeep q (by omega) fun hv => h.free i (by omega) q hv hq]
      exact hb.block q hql

/-- A part is appended. -/
theorem OwnVAt.arg {w w1 w3 : World} {base lc ac : Nat} {L A : Option Addr} {t : Va} {xs : List Value} {vs : Nat → Value} {lo hi : Nat → Nat} {g cap : Nat} {a b c d e : Value} (h : OwnVAt w base L lc A ac t xs vs lo hi) (u : Va) (hb : Below w.heap.size w w1) (hbase : base ≤ w.heap.size) (hm : t.args.length + 1 ≤ maxLen)
    (hu : VaIn w1 (Span w.heap.size w1.heap.size) (.agg #[a, b, c, d, e]) u) (hown : w3.ownsRow base 27 5 (.slice (some ⟨g, 0, none⟩) (t.args.length + 1) cap) (t.args.length + 1) (xs ++ [a, b, c, d, e]))
    (hg : (w1.alloc (.cells #[a, b, c, d, e] 27)).grownBy w3 (Value.slice A t.args.length ac).ownBlock) (hat : (Value.slice A t.args.length ac).ownBlock = some g ∨ g = w1.heap.size + 1) :
    OwnVAt w3 base L lc (some ⟨g, 0, none⟩) cap (.mk t.kind t.num t.name t.labels (t.args ++ [u])) (xs ++ [a, b, c, d, e]) (fun i => if i = t.args.length then .agg #[a, b, c, d, e] else vs i) (fun i => if i = t.args.length then w.heap.size else lo i) (fun i => if i = t.args.length then w1.heap.size else hi i) := by
  have hs1 := hb.size
  have e1 : (t.args ++ [u]).length = t.args.length + 1 := by simp
  have hp : VGatherAt w base (.slice A t.args.length ac) t.args.length (t.args ++ [u]) xs vs lo hi :=
    ⟨h.parts.own, h.parts.cells, h.parts.low, h.parts.apart, h.parts.free, fun i hi' hik => by rw [List.getElem_append_left hik]; exact h.parts.kids i hik hik⟩
  have hst := hp.stepAt hb hbase (by simp) (by simpa using hu) hown hg hat
  have hL : ∀ q, (Value.slice L t.labels.length lc).ownBlock = some q → w3.heap[q]? = w.heap[q]? := fun q hq => by
    have hql := (h.row.lt q hq).2
    have hne : (Value.slice A t.args.length ac).ownBlock ≠ some q := fun e => (h.far q (own_addr h.row q hq)).1 (own_addr h.parts.own q e)
    exact ((hg.block q (by simp; omega) (fun e => hne e.symm)).trans (Below.heap_alloc _ _ _ (by omega))).trans (hb.block q hql)
  refine ⟨h.name, h.size, by show (t.args ++ [u]).length ≤ maxLen; omega, own_keep1 h.row hL, ?_, fun gl hgl => ?_⟩
  · show VGatherAt w3 base (.slice _ (t.args ++ [u]).length cap) (t.args ++ [u]).length (t.args ++ [u]) _ _ _ _
    rw [e1]
    exact hst
  · have hlt : gl < w.heap.size := (h.row.lt gl (by rw [hgl]; rfl)).2
    refine ⟨fun e => ?_, fun i hi' hsp => ?_⟩
    · have eg : g = gl := by injection e with e; injection e
      subst eg
      rcases hat with hat | hat
      · exact (h.far g hgl).1 (own_addr h.parts.own g hat)
      · omega
    · have hi2 : i < t.args.length + 1 := by rw [← e1]; exact hi'
      by_cases e : i = t.args.length
      · simp only [e, if_true] at hsp
        have := hsp.1
        omega
      · simp only [e, if_false] at hsp
        exact (h.far gl hgl).2 i (by omega) hsp

theorem OwnVAt.grown {w w' : World} {base lc ac p : Nat} {L A : Option Addr} {t : Va} {xs : List Value} {vs : Nat → Value} {lo hi : Nat → Nat} (h : OwnVAt w base L lc A ac t xs vs lo hi) (hg : w.grownBy w' (some p)) (hp : p < base) : OwnVAt w' base L lc A ac t xs vs lo hi :=
  h.but p hg.size (fun g _ hl hne => hg.block g hl (fun e => by injection e with e; exact hne e)) (fun e => by have := (h.row.lt p e).1; omega) (fun e => by have := (h.parts.own.lt p e).1; omega) (fun i hi' hb => by have := (h.parts.low i hi').1; have := hb.1; omega)

theorem vsz_label (t : Va) (s : ByteArray) : szVa (.mk t.kind t.num t.name (t.labels ++ [s]) t.args) = szVa t + 1 + s.size := by
  cases t
  simp [szVa, sumSizes, Va.labels, Va.args, Va.name]
  omega
theorem vsz_arg (t u : Va) : szVa (.mk t.kind t.num t.name t.labels (t.args ++ [u])) = szVa t + 1 + szVa u := by
  cases t
  simp [szVa, Va.labels, Va.args, Va.name, szVas_append, szVas]
  omega


end Go.Proofs.YtlmbnefoobameaaDoor
