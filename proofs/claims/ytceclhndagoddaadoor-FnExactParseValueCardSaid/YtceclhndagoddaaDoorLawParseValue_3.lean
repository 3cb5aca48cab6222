/- Lemmas: ToVa, VGather, EqTy, EqVa, MarkTy, MarkVa, HeldTy. -/
import Derived.Test.YtceclhndagoddaaDoorProg
import Derived.Test.YtceclhndagoddaaDoorLawParseValue_2
import Derived.Outline
import Derived.Deep.RegionHeld3

section
namespace Go.Proofs.YtceclhndagoddaaDoor
open Go.RowKit

/-- A new tree is handed back. -/
def NewVa (w : World) (t : Va) (e : Ending) (w' : World) : Prop := ∃ v, e = .returned v ∧ VaIn w' (Span w.heap.size w'.heap.size) v t ∧ Below w.heap.size w w'
/-- A new list of trees is handed back. -/
def NewVas (w : World) (ts : List Va) (e : Ending) (w' : World) : Prop := ∃ g c, e = .returned (.slice (some ⟨g, 0, none⟩) ts.length c) ∧ w.heap.size ≤ g ∧ VasIn w' (Span w.heap.size w'.heap.size) (some ⟨g, 0, none⟩) ts ∧ Below w.heap.size w w'

theorem infoValue : (Tryd.prog.info? 25).map (fun i => (i.zero, i.size, i.bytes)) = some (some (.agg #[.int .i64 0, .int .i64 0, .string ⟨#[]⟩, .slice none 0 0, .slice none 0 0]), 5, 80) := by kernel_rfl

/-- Row g of n elements; those below k are made, each in blocks of its own. -/
def VFilling (w : World) (lo g n k : Nat) (ts : List Va) : Prop :=
  ∃ (cs : Array Value) (vs : Nat → Value) (bd : Nat → Nat), Whole1 w g 25 cs ∧ cs.size = n * 5 ∧ (∀ i, i < k → ∀ j, j < 5 → (partAt (vs i) j).isSome = true ∧ cs[i * 5 + j]? = partAt (vs i) j) ∧
    lo ≤ g ∧ g < bd 0 ∧ (∀ i, i < k → bd i ≤ bd (i + 1)) ∧ bd k ≤ w.heap.size ∧ ∀ i, (hi : i < ts.length) → i < k → VaIn w (Span (bd i) (bd (i + 1))) (vs i) ts[i]

theorem VFilling.done {w : World} {lo g : Nat} {ts : List Va} (h : VFilling w lo g ts.length ts.length ts) (hm : ts.length ≤ maxLen) : VasIn w (Span lo w.heap.size) (some ⟨g, 0, none⟩) ts := by
  obtain ⟨cs, vs, bd, h1, h2, h3, h4, h5, h6, h7, h8⟩ := h
  refine ⟨hm, g, vs, fun i => Span (bd i) (bd (i + 1)), .inr ⟨rfl, ⟨h4, h1.lt⟩, cs, h1, h3⟩, fun i hi b hb => ?_, fun i j hi hj hne b hb hb' => ?_, fun i hi => h8 i hi hi⟩
  · have a := bd_mono bd _ h6 0 i (by omega) (by omega)
    have c := bd_mono bd _ h6 (i + 1) ts.length (by omega) (Nat.le_refl _)
    have := hb.1
    have := hb.2
    exact ⟨⟨by omega, by omega⟩, by omega⟩
  · have := hb.1
    have := hb.2
    have := hb'.1
    have := hb'.2
    rcases Nat.lt_or_gt_of_ne hne with hlt | hlt
    · have a := bd_mono bd _ h6 (i + 1) j (by omega) (by omega)
      omega
    · have a := bd_mono bd _ h6 (j + 1) i (by omega) (by omega)
      omega
theorem VFilling.below {w w' : World} {lo g n k : Nat} {ts : List Va} (h : VFilling w lo g n k ts) (hb : Below w.heap.size w w') : VFilling w' lo g n k ts := by
  obtain ⟨cs, vs, bd, h1, h2, h3, h4, h5, h6, h7, h8⟩ := h
  refine ⟨cs, vs, bd, h1.below hb h1.lt, h2, h3, h4, h5, h6, Nat.le_trans h7 hb.size, fun i hi hk => (h8 i hi hk).keep fun b hB _ => hb.block b ?_⟩
  have := bd_mono bd k h6 (i + 1) k (by omega) (Nat.le_refl _)
  have := hB.2
  omega
/-- The next element is stored. -/
theorem VFilling.step {w w' : World} {lo g n k : Nat} {ts : List Va} {a b c d e : Value} (h : VFilling w lo g n k ts) (hb : Below w.heap.size w w') (hk : k < n) (hkt : k < ts.length) (hv : VaIn w' (Span w.heap.size w'.heap.size) (.agg #[a, b, c, d, e]) ts[k]) :
    VFilling (((((w'.setCell ⟨g, k * 5, none⟩ a).setCell ⟨g, k * 5 + 1, none⟩ b).setCell ⟨g, k * 5 + 2, none⟩ c).setCell ⟨g, k * 5 + 3, none⟩ d).setCell ⟨g, k * 5 + 4, none⟩ e) lo g n (k + 1) ts := by
  obtain ⟨cs, vs, bd, h1, h2, h3, h4, h5, h6, h7, h8⟩ := h
  have hlt := h1.lt
  have hw := (((((h1.below hb hlt).set (k * 5) a).set (k * 5 + 1) b).set (k * 5 + 2) c).set (k * 5 + 3) d).set (k * 5 + 4) e
  have hsz := hb.size
  have hk' : ∀ q, q ≠ g → (((((w'.setCell ⟨g, k * 5, none⟩ a).setCell ⟨g, k * 5 + 1, none⟩ b).setCell ⟨g, k * 5 + 2, none⟩ c).setCell ⟨g, k * 5 + 3, none⟩ d).setCell ⟨g, k * 5 + 4, none⟩ e).heap[q]? = w'.heap[q]? := fun q hq => by
    rw [Below.heap_setCell _ _ _ _ hq, Below.heap_setCell _ _ _ _ hq, Below.heap_setCell _ _ _ _ hq, Below.heap_setCell _ _ _ _ hq, Below.heap_setCell _ _ _ _ hq]
  have hS : (((((w'.setCell ⟨g, k * 5, none⟩ a).setCell ⟨g, k * 5 + 1, none⟩ b).setCell ⟨g, k * 5 + 2, none⟩ c).setCell ⟨g, k * 5 + 3, none⟩ d).setCell ⟨g, k * 5 + 4, none⟩ e).heap.size = w'.heap.size := by simp [World.setCell]
  generalize ((((w'.setCell ⟨g, k * 5, none⟩ a).setCell ⟨g, k * 5 + 1, none⟩ b).setCell ⟨g, k * 5 + 2, none⟩ c).setCell ⟨g, k * 5 + 3, none⟩ d).setCell ⟨g, k * 5 + 4, none⟩ e = W at *
  have hg0 : ∀ i, i ≤ k → g < bd i := fun i hi => Nat.lt_of_lt_of_le h5 (bd_mono bd k h6 0 i (by omega) hi)
  refine ⟨_, fun j => if j = k then .agg #[a, b, c, d, e] else vs j, fun j => if j ≤ k then bd j else w'.heap.size, hw, by simp [h2], fun i hi j hj => ?_, h4, by simpa using h5, fun i hi => ?_, ?_, fun i hi hik => ?_⟩
  · dsimp only
    have hb3 : k * 5 + 4 < cs.size := by omega
    by_cases ek : i = k
    · subst ek
      rw [if_pos rfl]
      simp only [Array.getElem?_setIfInBounds, Array.size_setIfInBounds]
      have : j = 0 ∨ j = 1 ∨ j = 2 ∨ j = 3 ∨ j = 4 := by omega
      rcases this with rfl | rfl | rfl | rfl | rfl
      · simp [partAt]; omega
      · simp [partAt]; omega
      · simp [partAt]; omega
      · simp [partAt]; omega
      · simp [partAt]; omega
    · rw [if_neg ek]
      have hh := h3 i (by omega) j hj
      refine ⟨hh.1, ?_⟩
      rw [← hh.2]
      simp only [Array.getElem?_setIfInBounds, Array.size_setIfInBounds]
      rw [if_neg (by omega), if_neg (by omega), if_neg (by omega), if_neg (by omega), if_neg (by omega)]
  · dsimp only
    by_cases ek : i = k
    · subst ek
      rw [if_pos (Nat.le_refl _), if_neg (by omega)]
      omega
    · rw [if_pos (by omega), if_pos (by omega)]
      exact h6 i (by omega)
  · dsimp only
    rw [if_neg (by omega), hS]
    exact Nat.le_refl _
  · dsimp only
    by_cases ek : i = k
    · subst ek
      rw [if_pos rfl, if_pos (Nat.le_refl _), if_neg (by omega)]
      refine (hv.wide fun q hq => ⟨by have := hq.1; omega, hq.2⟩).keep fun q hq _ => hk' q ?_
      have := hq.1
      have := hg0 i (Nat.le_refl _)
      omega
    · rw [if_neg ek, if_pos (by omega), if_pos (by omega)]
      refine (h8 i hi (by omega)).keep fun q hq _ => ?_
      have e1 := hq.1
      have e2 := hq.2
      have e3 := hg0 i (by omega)
      have e4 := bd_mono bd k h6 (i + 1) k (by omega) (Nat.le_refl _)
      rw [hk' q (by omega)]
      exact hb.block q (by omega)

theorem VFilling.cells {w : World} {lo g n k : Nat} {ts : List Va} (h : VFilling w lo g n k ts) (i : Nat) (hi : i < n) : ∃ x y z u v, w.cell? ⟨g, i * 5, none⟩ = some x ∧ w.cell? ⟨g, i * 5 + 1, none⟩ = some y ∧ w.cell? ⟨g, i * 5 + 2, none⟩ = some z ∧ w.cell? ⟨g, i * 5 + 3, none⟩ = some u ∧ w.cell? ⟨g, i * 5 + 4, none⟩ = some v ∧
    w.frozen? ⟨g, i * 5, none⟩ = false ∧ w.frozen? ⟨g, i * 5 + 1, none⟩ = false ∧ w.frozen? ⟨g, i * 5 + 2, none⟩ = false ∧ w.frozen? ⟨g, i * 5 + 3, none⟩ = false ∧ w.frozen? ⟨g, i * 5 + 4, none⟩ = false := by
  obtain ⟨cs, vs, bd, h1, h2, _⟩ := h
  refine ⟨cs[i * 5]'(by omega), cs[i * 5 + 1]'(by omega), cs[i * 5 + 2]'(by omega), cs[i * 5 + 3]'(by omega), cs[i * 5 + 4]'(by omega), ?_, ?_, ?_, ?_, ?_, h1.free _, h1.free _, h1.free _, h1.free _, h1.free _⟩
  all_goals rw [h1.cell, Array.getElem?_eq_getElem]
theorem VFilling.start (w : World) (cs : Array Value) (n : Nat) (ts : List Va) (hs : cs.size = n * 5) : VFilling (w.alloc (.cells cs 25)) w.heap.size w.heap.size n 0 ts :=
  ⟨cs, fun _ => .bool false, fun _ => w.heap.size + 1, Whole1.new _ _ _, hs, fun i hi => absurd hi (by omega), Nat.le_refl _, Nat.lt_succ_self _, fun i hi => absurd hi (by omega), by simp, fun i _ hi => absurd hi (by omega)⟩

end Go.Proofs.YtceclhndagoddaaDoor
end

section
namespace Go.Proofs.YtceclhndagoddaaDoor
open Go.RowKit

/-- The value v owns a row of k elements, the aggregates vs, whose cells are xs; each reads as its tree, in blocks of its own. -/
structure VGatherAt (w : World) (base : Nat) (v : Value) (k : Nat) (ts : List Va) (xs : List Value) (vs : Nat → Value) (lo hi : Nat → Nat) : Prop where
  own : w.ownsRow base 25 5 v k xs
  cells : ∀ i, i < k → ∀ j, j < 5 → (partAt (vs i) j).isSome = true ∧ xs[i * 5 + j]? = partAt (vs i) j
  low : ∀ i, i < k → base ≤ lo i ∧ hi i ≤ w.heap.size
  apart : ∀ i j, i < j → j < k → hi i ≤ lo j
  free : ∀ i, i < k → ∀ g, v.ownBlock = some g → ¬ Span (lo i) (hi i) g
  kids : ∀ i, (h : i < ts.length) → i < k → VaIn w (Span (lo i) (hi i)) (vs i) ts[i]
def VGather (w : World) (base : Nat) (v : Value) (k : Nat) (ts : List Va) : Prop := ∃ xs vs lo hi, VGatherAt w base v k ts xs vs lo hi

theorem VGather.start (w : World) (base : Nat) (ts : List Va) : VGather w base (.slice none 0 0) 0 ts :=
  ⟨[], fun _ => .bool false, fun _ => 0, fun _ => 0, World.ownsRow_nil w base _ 5, fun _ h => absurd h (Nat.not_lt_zero _), fun _ h => absurd h (Nat.not_lt_zero _), fun _ _ _ h => absurd h (Nat.not_lt_zero _), fun _ h => absurd h (Nat.not_lt_zero _), fun _ _ h => absurd h (Nat.not_lt_zero _)⟩

theorem own_keep5 {w w' : World} {base k : Nat} {e : TypeId} {v : Value} {xs : List Value} (h : w.ownsRow base e 5 v k xs) (hk : ∀ g, v.ownBlock = some g → w'.heap[g]? = w.heap[g]?) : w'.ownsRow base e 5 v k xs := by
  refine ⟨h.1, ?_⟩
  rcases h.2 with h2 | ⟨g, cap, cur, h1, h2, h3, h4⟩
  · exact .inl h2
  · exact .inr ⟨g, cap, cur, h1, h2, (hk g (by rw [h1]; rfl)).trans h3, h4⟩

/-- Where the blocks from base on stand, but for one outside, all stands. -/
theorem VGatherAt.keep {w w' : World} {base k : Nat} {v : Value} {ts : List Va} {xs : List Value} {vs : Nat → Value} {lo hi : Nat → Nat} (h : VGatherAt w base v k ts xs vs lo hi) (hs : w.heap.size ≤ w'.heap.size) (hk : ∀ g, base ≤ g → g < w.heap.size → w'.heap[g]? = w.heap[g]?) : VGatherAt w' base v k ts xs vs lo hi :=
  ⟨own_keep5 h.own fun g hg => hk g (h.own.lt g hg).1 (h.own.lt g hg).2, h.cells, fun i hi' => ⟨(h.low i hi').1, Nat.le_trans (h.low i hi').2 hs⟩, h.apart, h.free,
    fun i hi' hik => (h.kids i hi' hik).keep fun b hb hbl => hk b (Nat.le_trans (h.low i hik).1 hb.1) hbl⟩
theorem VGather.keep {w w' : World} {base k : Nat} {v : Value} {ts : List Va} (h : VGather w base v k ts) (hs : w.heap.size ≤ w'.heap.size) (hk : ∀ g, base ≤ g → g < w.heap.size → w'.heap[g]? = w.heap[g]?) : VGather w' base v k ts := by
  obtain ⟨xs, vs, lo, hi, h⟩ := h
  exact ⟨xs, vs, lo, hi, h.keep hs hk⟩
theorem VGather.below {w w' : World} {base k : Nat} {v : Value} {ts : List Va} (h : VGather w base v k ts) (hb : Below w.heap.size w w') : VGather w' base v k ts := h.keep hb.size fun g _ hg => hb.block g hg
theorem VGather.set {w : World} {base k p o : Nat} {v u : Value} {ts : List Va} (h : VGather w base v k ts) (hp : p < base) : VGather (w.setCell ⟨p, o, none⟩ u) base v k ts :=
  h.keep (by simp [World.setCell]) fun g hg _ => Below.heap_setCell _ _ _ _ (by show g ≠ p; omega)

/-- One more tree is appended. -/
theorem VGatherAt.step {w w1 w3 : World} {base k g cap : Nat} {v a b c d e : Value} {ts : List Va} {xs : List Value} {vs : Nat → Value} {lo hi : Nat → Nat} (h : VGatherAt w base v k ts xs vs lo hi) (hb : Below w.heap.size w w1) (hbase : base ≤ w.heap.size) (hk : k < ts.length)
    (ht : VaIn w1 (Span w.heap.size w1.heap.size) (.agg #[a, b, c, d, e]) ts[k]) (hown : w3.ownsRow base 25 5 (.slice (some ⟨g, 0, none⟩) (k + 1) cap) (k + 1) (xs ++ [a, b, c, d, e]))
    (hg : (w1.alloc (.cells #[a, b, c, d, e] 25)).grownBy w3 v.ownBlock) (hat : v.ownBlock = some g ∨ g = w1.heap.size + 1) : VGather w3 base (.slice (some ⟨g, 0, none⟩) (k + 1) cap) (k + 1) ts := by
  have hs1 := hb.size
  have hs3 : w1.heap.size + 1 ≤ w3.heap.size := by have := hg.size; simp at this; exact this
  have hxl : xs.length = k * 5 := h.own.1
  have hkeep : ∀ q, q < w1.heap.size → v.ownBlock ≠ some q → w3.heap[q]? = w1.heap[q]? := fun q hq hne =>
    (hg.block q (by simp; omega) (fun e => hne e.symm)).trans (Below.heap_alloc _ _ _ hq)
  refine ⟨xs ++ [a, b, c, d, e], fun i => if i = k then .agg #[a, b, c, d, e] else vs i, fun i => if i = k then w.heap.size else lo i, fun i => if i = k then w1.heap.size else hi i, hown, fun i hi' j hj => ?_, fun i hi' => ?_, fun i j hij hj => ?_, fun i hi' q hq => ?_, fun i hi' hik => ?_⟩
  · by_cases ek : i = k
    · subst ek
      rw [if_pos rfl, List.getElem?_append_right (by omega), hxl]
      have : j = 0 ∨ j = 1 ∨ j = 2 ∨ j = 3 ∨ j = 4 := by omega
      rcases this with rfl | rfl | rfl | rfl | rfl
      · simp [partAt]
      · simp [partAt]
      · simp [partAt]
      · simp [partAt]
      · simp [partAt]
    · rw [if_neg ek, List.getElem?_append_left (by omega)]
      exact h.cells i (by omega) j hj
  · by_cases ek : i = k
    · rw [if_pos ek, if_pos ek]
      omega
    · rw [if_neg ek, if_neg ek]
      have := h.low i (by omega)
      omega
  · rw [if_neg (show i ≠ k by omega)]
    by_cases ek : j = k
    · rw [if_pos ek]
      exact (h.low i (by omega)).2
    · rw [if_neg ek]
      exact h.apart i j hij (by omega)
  · have hqg : q = g := (Option.some.inj hq).symm
    subst hqg
    by_cases ek : i = k
    · rw [if_pos ek, if_pos ek]
      intro hs
      have a1 := hs.1
      have a2 := hs.2
      rcases hat with hat | hat
      · have := (h.own.lt q hat).2
        omega
      · omega
    · rw [if_neg ek, if_neg ek]
      rcases hat with hat | hat
      · exact h.free i (by omega) q hat
      · intro hs
        have := hs.2
        have := (h.low i (by omega)).2
        omega
  · by_cases ek : i = k
    · subst ek
      rw [if_pos rfl, if_pos rfl, if_pos rfl]
      refine ht.keep fun q hq _ => hkeep q hq.2 fun hv => ?_
      have := (h.own.lt q hv).2
      have := hq.1
      omega
    · rw [if_neg ek, if_neg ek, if_neg ek]
      refine (h.kids i hi' (by omega)).keep fun q hq hql => ?_
      rw [hkeep q (by omega) fun hv => h.free i (by omega) q hv hq]
      exact hb.block q hql

theorem VGather.done {w : World} {base c : Nat} {A : Option Addr} {ts : List Va} (h : VGather w base (.slice A ts.length c) ts.length ts) (hm : ts.length ≤ maxLen) : VasIn w (Span base w.heap.size) A ts := by
  obtain ⟨xs, vs, lo, hi, h⟩ := h
  have hdis : ∀ i j, i < ts.length → j < ts.length → i ≠ j → ∀ b, Span (lo i) (hi i) b → ¬ Span (lo j) (hi j) b := fun i j hi' hj hne b hb hb' => by
    have := hb.1
    have := hb.2
    have := hb'.1
    have := hb'.2
    rcases Nat.lt_or_gt_of_ne hne with hlt | hlt
    · have := h.apart i j hlt hj
      omega
    · have := h.apart j i hlt hi'
      omega
  rcases h.own.2 with ⟨_, h2⟩ | ⟨g, cap, cur, h1, h2, h3, h4, h5, h6, h7⟩
  · have : ts = [] := List.length_eq_zero_iff.1 h2
    subst this
    exact ⟨hm, 0, vs, fun _ _ => False, .inl rfl, fun i hi => absurd hi (by simp), fun i _ hi => absurd hi (by simp), fun i hi => absurd hi (by simp)⟩
  · injection h1 with h1 _ _
    subst h1
    have hgl := (h.own.lt g rfl).2
    refine ⟨hm, g, vs, fun i => Span (lo i) (hi i), .inr ⟨rfl, ⟨h2, hgl⟩, cur, h3, fun i hi' j hj => ?_⟩, fun i hi' b hb => ⟨⟨?_, ?_⟩, fun e => h.free i hi' g rfl (by rw [← e]; exact hb)⟩, hdis, fun i hi' => h.kids i hi' hi'⟩
    · have hc := h.cells i hi' j hj
      refine ⟨hc.1, ?_⟩
      rw [← hc.2, ← h7, List.getElem?_take, if_pos (by omega)]
      simp
    · have := (h.low i hi').1
      have := hb.1
      omega
    · have := (h.low i hi').2
      have := hb.2
      omega


end Go.Proofs.YtceclhndagoddaaDoor
end

section
namespace Go.Proofs.YtceclhndagoddaaDoor
open Go.RowKit

/-- True is handed back; what was there stands. -/
def YesBelow (w : World) (e : Ending) (w' : World) : Prop := e = .returned (.bool true) ∧ Below w.heap.size w w'

theorem drewN_below (w : World) (n : Nat) : Below w.heap.size w (w.drewN n) := ⟨rfl, rfl, rfl, Nat.le_refl _, fun _ _ => rfl⟩

theorem boxes2 (w : World) (t1 t2 : TypeId) (a b : Array Value) :
    Below w.heap.size w ((w.alloc (.cells a t1)).alloc (.cells b t2)) ∧ Whole1 ((w.alloc (.cells a t1)).alloc (.cells b t2)) w.heap.size t1 a ∧
    Whole1 ((w.alloc (.cells a t1)).alloc (.cells b t2)) (w.heap.size + 1) t2 b ∧ ((w.alloc (.cells a t1)).alloc (.cells b t2)).heap.size = w.heap.size + 2 := by
  refine ⟨((Below.refl _ _).alloc (Nat.le_refl _) _).alloc (by simp) _, ?_, ?_, by simp⟩
  · exact Whole1.below (B := w.heap.size + 1) (Whole1.new _ _ _) ((Below.refl _ _).alloc (by simp) _) (by omega)
  · have h := Whole1.new (w.alloc (.cells a t1)) t2 b
    simpa using h

end Go.Proofs.YtceclhndagoddaaDoor
end

section
namespace Go.Proofs.YtceclhndagoddaaDoor
open Go.RowKit

def EqVOne (t : Va) : Prop := ∀ (v v' : Value) (w : World), VaAt w w.heap.size v t → VaAt w w.heap.size v' t → Calls Tryd.prog 7 #[v, v'] w (YesBelow w)
def EqVMany (ts : List Va) : Prop := ∀ (A A' : Option Addr) (c c' : Nat) (w : World), VasAt w w.heap.size A ts → VasAt w w.heap.size A' ts → Calls Tryd.prog 31 #[.slice A ts.length c, .slice A' ts.length c'] w (YesBelow w)

set_option maxHeartbeats 1000000 in
theorem eqValue_of (k n : Int) (nm : ByteArray) (ls : List ByteArray) (ts : List Va) (h : EqVMany ts) : EqVOne (.mk k n nm ls ts) := by
  intro v v' w hv hv'
  obtain ⟨L, lc, A, ac, rfl, hnm, hn, hz, hl, ha⟩ := hv.open
  obtain ⟨L', lc', A', ac', rfl, hnm', hn', hz', hl', ha'⟩ := hv'.open
  simp only [Va.kind, Va.num, Va.name, Va.labels, Va.args] at *
  have HN := Lib.hid hn
  have HT := Lib.hid h
  have hkk : (k != k) = false := by simp
  have hnn : (n != n) = false := by simp
  have hqq : (nm.toList == nm.toList) = true := by simp
  clear hz hz' hn hn' hnm hnm' h hv hv'
  go_enter Tryd.func7, Tryd.ntmps7
  go_wp2_with fail
  obtain ⟨hb0, p0, q0, hs0⟩ := boxes2 w 25 25 #[.int .i64 k, .int .i64 n, .string nm, .slice L ls.length lc, .slice A ts.length ac] #[.int .i64 k, .int .i64 n, .string nm, .slice L' ls.length lc', .slice A' ts.length ac']
  generalize (w.alloc (.cells #[.int .i64 k, .int .i64 n, .string nm, .slice L ls.length lc, .slice A ts.length ac] 25)).alloc (.cells #[.int .i64 k, .int .i64 n, .string nm, .slice L' ls.length lc', .slice A' ts.length ac'] 25) = w0 at *
  have HZ := Lib.hid hs0
  clear hs0
  refine (eqStringS_same _ _ _ _ _ _ ls w0 (hl.up' hb0) (hl'.up' hb0) HN.out).mono ?_
  rintro e w1 ⟨rfl, n1, rfl⟩
  have p1 := p0.drewN n1
  have q1 := q0.drewN n1
  have hb1 := hb0.trans ((drewN_below w0 n1).mono hb0.size)
  clear p0 q0
  generalize w0.drewN n1 = w1 at *
  have c1 : w1.cell? ⟨w.heap.size, 4, none⟩ = some (.slice A ts.length ac) := p1.cell 4
  have c2 : w1.cell? ⟨w.heap.size + 1, 4, none⟩ = some (.slice A' ts.length ac') := q1.cell 4
  clear p1 q1
  go_wp2_with fail
  refine (HT.out _ _ _ _ w1 (ha.up hb1) (ha'.up hb1)).mono ?_
  rintro e w2 ⟨rfl, hb2⟩
  go_wp2
  go_ret
  exact ⟨rfl, hb1.trans (hb2.mono hb1.size)⟩

set_option maxHeartbeats 1000000 in
theorem eqValueS_of (ts : List Va) (hall : ∀ i, (h : i < ts.length) → EqVOne ts[i]) : EqVMany ts := by
  intro A A' c c' w hA hA'
  have hm := hA.1
  unfold maxLen at hm
  have HALL := Lib.hid hall
  clear hall
  have hneq : ((ts.length : Int) != ts.length) = false := by simp
  go_enter Tryd.func31, Tryd.ntmps31
  go_wp2
  go_loopw [5] (fun i wr => ∃ k : Nat, k ≤ ts.length ∧ i = .int .i64 k ∧ Below w.heap.size w wr) (fun i _ => ts.length - (intOf i).toNat)
  case atStart => exact ⟨0, Nat.zero_le _, rfl, Below.refl _ _⟩
  case round =>
    obtain ⟨k, hk, rfl, hb⟩ := hrel
    clear hneq
    by_cases hlt : k < ts.length
    · obtain ⟨b, off, L, lc, C, cc, rfl, hbl, q0, q1, q2, q3, q4, ht⟩ := (hA.below hb).elem k hlt
      obtain ⟨b', off', L', lc', C', cc', rfl, hbl', q0', q1', q2', q3', q4', ht'⟩ := (hA'.below hb).elem k hlt
      have hbs := hb.size
      have HT := Lib.hid (HALL.out k hlt _ _ wr.drew ((ht.more hbs).up (Below.refl _ _).drew) ((ht'.more hbs).up (Below.refl _ _).drew))
      clear ht ht'
      go_wp2
      go_region_held3 (fun w' => w'.cell? ⟨b, off + k * 5, none⟩ = some (.int .i64 ts[k].kind) ∧ w'.cell? ⟨b, off + k * 5 + 1, none⟩ = some (.int .i64 ts[k].num) ∧ w'.cell? ⟨b, off + k * 5 + 2, none⟩ = some (.string ts[k].name) ∧ w'.cell? ⟨b, off + k * 5 + 3, none⟩ = some (.slice L ts[k].labels.length lc) ∧ w'.cell? ⟨b, off + k * 5 + 4, none⟩ = some (.slice C ts[k].args.length cc) ∧ w'.cell? ⟨b', off' + k * 5, none⟩ = some (.int .i64 ts[k].kind) ∧ w'.cell? ⟨b', off' + k * 5 + 1, none⟩ = some (.int .i64 ts[k].num) ∧ w'.cell? ⟨b', off' + k * 5 + 2, none⟩ = some (.string ts[k].name) ∧ w'.cell? ⟨b', off' + k * 5 + 3, none⟩ = some (.slice L' ts[k].labels.length lc') ∧ w'.cell? ⟨b', off' + k * 5 + 4, none⟩ = some (.slice C' ts[k].args.length cc') ∧ Below wr.heap.size wr w') ((first | exact ⟨q0, q1, q2, q3, q4, q0', q1', q2', q3', q4', (Below.refl _ _).drew⟩ | exact ⟨k0, k1, k2, k3, k4, k0', k1', k2', k3', k4', kb⟩))
        (first | (go_at_call 7; refine HT.out.mono ?_; rintro e w' ⟨rfl, hb1⟩; have kb := (Below.refl wr.heap.size wr).drew.trans hb1; have k0 := (kb.cell (p := ⟨b, off + k * 5, none⟩) (by show b < _; omega)).trans q0; have k1 := (kb.cell (p := ⟨b, off + k * 5 + 1, none⟩) (by show b < _; omega)).trans q1; have k2 := (kb.cell (p := ⟨b, off + k * 5 + 2, none⟩) (by show b < _; omega)).trans q2; have k3 := (kb.cell (p := ⟨b, off + k * 5 + 3, none⟩) (by show b < _; omega)).trans q3; have k4 := (kb.cell (p := ⟨b, off + k * 5 + 4, none⟩) (by show b < _; omega)).trans q4; have k0' := (kb.cell (p := ⟨b', off' + k * 5, none⟩) (by show b' < _; omega)).trans q0'; have k1' := (kb.cell (p := ⟨b', off' + k * 5 + 1, none⟩) (by show b' < _; omega)).trans q1'; have k2' := (kb.cell (p := ⟨b', off' + k * 5 + 2, none⟩) (by show b' < _; omega)).trans q2'; have k3' := (kb.cell (p := ⟨b', off' + k * 5 + 3, none⟩) (by show b' < _; omega)).trans q3'; have k4' := (kb.cell (p := ⟨b', off' + k * 5 + 4, none⟩) (by show b' < _; omega)).trans q4'))
      go_wp2
      go_roundw
      case rel => exact ⟨k + 1, by omega, by go_num, hb.trans (kb.mono hbs)⟩
      case measure => simp [intOf]; omega
    · go_wp2
      go_ret
      exact ⟨rfl, hb⟩

theorem eqValue_any (t : Va) : EqVOne t := by
  induction t using Va.ind with
  | h k n nm ls ts ih => exact eqValue_of k n nm ls ts (eqValueS_of ts ih)

end Go.Proofs.YtceclhndagoddaaDoor
end

section
namespace Go.Proofs.YtceclhndagoddaaDoor
open Go.RowKit

mutual
/-- How many marks a tree bears. -/
def cntTy : Ty → Nat | .mk _ ls ts => ls.length + cntTys ts
def cntTys : List Ty → Nat | [] => 0 | t :: r => 1 + cntTy t + cntTys r
end
def setKind (k : Nat) : Ty → Ty | .mk _ ls ts => .mk k ls ts
mutual
/-- The tree with marks from k on; its own kind stands. -/
def markTy : Ty → Nat → Ty | .mk d ls ts, k => .mk d (marks k ls.length) (markTys ts (k + ls.length))
def markTys : List Ty → Nat → List Ty | [], _ => [] | t :: r, k => setKind k (markTy t (k + 1)) :: markTys r (k + 1 + cntTy t)
end
theorem cntTy_eq (t : Ty) : cntTy t = t.labels.length + cntTys t.args := by cases t; rw [cntTy]; rfl
theorem cntTys_append : ∀ (a b : List Ty), cntTys (a ++ b) = cntTys a + cntTys b
  | [], b => by simp [cntTys]
  | t :: a, b => by
    rw [List.cons_append, cntTys, cntTys, cntTys_append a b]
    omega
theorem cntTys_take (ts : List Ty) (k : Nat) (h : k < ts.length) : cntTys (ts.take (k + 1)) = cntTys (ts.take k) + 1 + cntTy ts[k] := by
  rw [List.take_succ_eq_append_getElem h, cntTys_append, cntTys, cntTys]
  omega
theorem cntTys_le (ts : List Ty) (k : Nat) : cntTys (ts.take k) ≤ cntTys ts := by
  have h := cntTys_append (ts.take k) (ts.drop k)
  rw [List.take_append_drop] at h
  omega
theorem markTys_len : ∀ (ts : List Ty) (k : Nat), (markTys ts k).length = ts.length
  | [], _ => by rw [markTys]
  | t :: r, k => by rw [markTys, List.length_cons, List.length_cons, markTys_len r]
theorem markTys_get : ∀ (ts : List Ty) (k i : Nat) (h : i < ts.length), (markTys ts k)[i]? = some (setKind (k + cntTys (ts.take i)) (markTy ts[i] (k + cntTys (ts.take i) + 1)))
  | [], _, i, h => absurd h (by simp)
  | t :: r, k, 0, _ => by rw [markTys]; simp [cntTys]
  | t :: r, k, i + 1, h => by
    rw [markTys, List.getElem?_cons_succ, markTys_get r _ i (by simpa using h)]
    simp only [List.take_succ_cons, cntTys, List.getElem_cons_succ]
    rw [show k + 1 + cntTy t + cntTys (r.take i) = k + (1 + cntTy t + cntTys (r.take i)) by omega]
mutual
theorem cnt_le_sz : ∀ (t : Ty), cntTy t ≤ szTy t
  | .mk _ ls ts => by
    rw [cntTy, szTy]
    have := cnts_le_szs ts
    omega
theorem cnts_le_szs : ∀ (ts : List Ty), cntTys ts ≤ szTys ts
  | [] => Nat.le_refl _
  | t :: r => by
    rw [cntTys, szTys]
    have := cnt_le_sz t
    have := cnts_le_szs r
    omega
end

/-- Of what was there only blocks in S have turned. -/
structure OnlyIn (S : Nat → Prop) (w w' : World) : Prop where
  os : w'.os = w.os
  tape : w'.tape = w.tape
  output : w'.output = w.output
  size : w.heap.size ≤ w'.heap.size
  block : ∀ b, b < w.heap.size → ¬ S b → w'.heap[b]? = w.heap[b]?
theorem OnlyIn.refl (S : Nat → Prop) (w : World) : OnlyIn S w w := ⟨rfl, rfl, rfl, Nat.le_refl _, fun _ _ _ => rfl⟩
theorem OnlyIn.trans {S : Nat → Prop} {a b c : World} (h : OnlyIn S a b) (k : OnlyIn S b c) : OnlyIn S a c :=
  ⟨k.os.trans h.os, k.tape.trans h.tape, k.output.trans h.output, Nat.le_trans h.size k.size, fun i hi hn => (k.block i (Nat.lt_of_lt_of_le hi h.size) hn).trans (h.block i hi hn)⟩
theorem OnlyIn.wide {S S' : Nat → Prop} {a b : World} (h : OnlyIn S a b) (hS : ∀ q, S q → S' q) : OnlyIn S' a b := ⟨h.os, h.tape, h.output, h.size, fun i hi hn => h.block i hi fun q => hn (hS _ q)⟩
theorem OnlyIn.of_row {a b : World} {g : Nat} (h : a.grownBy b (some g)) : OnlyIn (· = g) a b := ⟨h.os, h.tape, h.output, h.size, fun i hi hn => h.block i hi fun e => hn (Option.some.inj e)⟩
theorem OnlyIn.of_below {S : Nat → Prop} {a b : World} (h : Below a.heap.size a b) : OnlyIn S a b := ⟨h.os, h.tape, h.output, h.size, fun i hi _ => h.block i hi⟩
theorem OnlyIn.set {S : Nat → Prop} {a b : World} (h : OnlyIn S a b) {g : Nat} (hg : S g) (i : Nat) (v : Value) : OnlyIn S a (b.setCell ⟨g, i, none⟩ v) :=
  ⟨h.os, h.tape, h.output, by simpa [World.setCell] using h.size, fun k hk hn => (Below.heap_setCell b ⟨g, i, none⟩ v k (fun e => hn (by rw [e]; exact hg))).trans (h.block k hk hn)⟩
theorem OnlyIn.below {S : Nat → Prop} {B : Nat} {a b c : World} (h : Below B a b) (k : OnlyIn S b c) (hB : B ≤ b.heap.size) (hS : ∀ q, S q → B ≤ q) : Below B a c :=
  h.trans ⟨k.os, k.tape, k.output, k.size, fun i hi => k.block i (by omega) fun q => by have := hS i q; omega⟩

/-- Labels are marked. -/
def MarkedLs (w : World) (g k : Nat) (ls : List ByteArray) (e : Ending) (w' : World) : Prop :=
  e = .returned (.int .i64 ((k + ls.length : Nat) : Int)) ∧ (ls = [] ∨ RowStrs w' g (marks k ls.length)) ∧ OnlyIn (fun b => b = g ∧ ls ≠ []) w w'

theorem markLabels (L : Option Addr) (c k g : Nat) (ls : List ByteArray) (w : World) (hg : ls = [] ∨ L = some ⟨g, 0, none⟩ ∧ RowStrs w g ls) (h0 : 0 < k) (h1 : k + ls.length ≤ 2 ^ 62) :
    Calls Tryd.prog 32 #[.slice L ls.length c, .int .i64 k] w (MarkedLs w g k ls) := by
  by_cases hls : ls = []
  · subst hls
    clear hg
    go_enter Tryd.func32, Tryd.ntmps32
    go_wp2
    go_loop [1, 5] (fun m i => m = .int .i64 (k : Int) ∧ i = .int .i64 0) (fun _ _ => 0)
    case atStart => exact ⟨rfl, rfl⟩
    case round =>
      obtain ⟨rfl, rfl⟩ := hrel
      go_wp2
      go_ret
      exact ⟨rfl, .inl rfl, OnlyIn.refl _ _⟩
  · rcases hg with h | ⟨rfl, hr⟩
    · exact absurd h hls
    · refine (markStringS_row g c k ls w hr h0 h1).mono ?_
      rintro e w' ⟨rfl, h2, h3⟩
      exact ⟨rfl, .inr h2, (OnlyIn.of_row h3).wide fun b hb => ⟨hb, hls⟩⟩

theorem markIn {w : World} {S Sa : Nat → Prop} {L A : Option Addr} {lc ac gl : Nat} {t : Ty} (q : Nat) (hn : t.labels.length ≤ maxLen) (hq : q + t.labels.length ≤ 2 ^ 62)
    (hl : t.labels = [] ∨ L = some ⟨gl, 0, none⟩ ∧ S gl ∧ RowStrs w gl (marks q t.labels.length)) (ha : TysIn w Sa A (markTys t.args (q + t.labels.length))) (hs : ∀ b, Sa b → S b ∧ b ≠ gl) :
    TyIn w S (.agg #[.int .i64 t.kind, .slice L t.labels.length lc, .slice A t.args.length ac]) (markTy t q) := by
  cases t with
  | mk k ls ts =>
    simp only [Ty.labels, Ty.args, Ty.kind] at *
    rw [markTy]
    have hll := marks_len q ls.length
    have hal := markTys_len ts (q + ls.length)
    have h := TyIn.of (w := w) (S := S) (Sa := Sa) (L := L) (A := A) (lc := lc) (ac := ac) (gl := gl) (t := .mk k (marks q ls.length) (markTys ts (q + ls.length))) (by simp only [Ty.labels]; rw [hll]; exact hn)
      (fun x hx => by
        simp only [Ty.labels] at hx ⊢
        rw [hll] at hx
        have h62 := markB_size (q + x) (by omega)
        have e : (marks q ls.length)[x]'(by rw [hll]; exact hx) = markB (q + x) := by simp [marks]
        rw [e]
        unfold maxLen
        omega)
      (by
        simp only [Ty.labels]
        rcases hl with h | h
        · left
          rw [h]
          rfl
        · exact .inr h)
      ha hs
    simp only [Ty.labels, Ty.args, Ty.kind] at h
    rw [hll, hal] at h
    exact h

/-- A list of trees is marked. -/
def MarkedTys (w : World) (S : Nat → Prop) (A : Option Addr) (k : Nat) (ts : List Ty) (e : Ending) (w' : World) : Prop :=
  e = .returned (.int .i64 ((k + cntTys ts : Nat) : Int)) ∧ TysIn w' S A (markTys ts k) ∧ OnlyIn S w w'

/-- The first j elements are marked. -/
def Marking (w : World) (ga : Nat) (Ss : Nat → Nat → Prop) (ts : List Ty) (k j : Nat) : Prop :=
  ∃ vs : Nat → Value, ElemRow 3 35 w ga ts.length vs ∧ (∀ i, (hi : i < ts.length) → i < j → TyIn w (Ss i) (vs i) (setKind (k + cntTys (ts.take i)) (markTy ts[i] (k + cntTys (ts.take i) + 1)))) ∧ (∀ i, (hi : i < ts.length) → j ≤ i → TyIn w (Ss i) (vs i) ts[i])

theorem Marking.done {w : World} {S : Nat → Prop} {ga k : Nat} {Ss : Nat → Nat → Prop} {ts : List Ty} (h : Marking w ga Ss ts k ts.length) (hm : ts.length ≤ maxLen) (hS : S ga) (h2 : ∀ i, i < ts.length → ∀ b, Ss i b → S b ∧ b ≠ ga) (h3 : ∀ i j, i < ts.length → j < ts.length → i ≠ j → ∀ b, Ss i b → ¬ Ss j b) :
    TysIn w S (some ⟨ga, 0, none⟩) (markTys ts k) := by
  obtain ⟨vs, h4, h5, _⟩ := h
  have hl := markTys_len ts k
  refine ⟨by rw [hl]; exact hm, ga, vs, Ss, .inr ⟨rfl, hS, by rw [hl]; exact h4⟩, by rw [hl]; exact h2, by rw [hl]; exact h3, fun i hi => ?_⟩
  have hi' : i < ts.length := by omega
  have hg := markTys_get ts k i hi'
  rw [List.getElem?_eq_getElem hi] at hg
  rw [Option.some.inj hg]
  exact h5 i hi' hi'

theorem TyIn.setKind {w : World} {S : Nat → Prop} {L A : Option Addr} {lc ac : Nat} {k0 : Int} {n m : Nat} {t : Ty} (h : TyIn w S (.agg #[.int .i64 k0, .slice L n lc, .slice A m ac]) t) (k : Nat) : TyIn w S (.agg #[.int .i64 k, .slice L n lc, .slice A m ac]) (setKind k t) := by
  cases h with
  | mk gl ga vs Ss hn hz hm hls hes hne hsub hdis hks => exact .mk gl ga vs Ss hn hz hm hls hes hne hsub hdis hks

theorem ElemRow.set {t : TypeId} {w : World} {g m : Nat} {vs : Nat → Value} {a b c x : Value} {i : Nat} (h : ElemRow 3 t w g m vs) (hi : i < m) (hv : vs i = .agg #[a, b, c]) : ElemRow 3 t (w.setCell ⟨g, i * 3, none⟩ x) g m (fun j => if j = i then .agg #[x, b, c] else vs j) := by
  obtain ⟨cs, h1, h2⟩ := h
  have hsz : i * 3 < cs.size := by
    have := (h2 i hi 0 (by omega)).2
    rw [hv] at this
    exact (Array.getElem?_eq_some_iff.1 this).1
  refine ⟨_, h1.set (i * 3) x, fun q hq j hj => ?_⟩
  dsimp only
  by_cases e : q = i
  · subst e
    rw [if_pos rfl, Array.getElem?_setIfInBounds]
    have h3 := h2 q hi j hj
    rw [hv] at h3
    have : j = 0 ∨ j = 1 ∨ j = 2 := by omega
    rcases this with rfl | rfl | rfl
    · simp [partAt, hsz]
    · refine ⟨rfl, ?_⟩
      rw [if_neg (by omega)]
      exact h3.2
    · refine ⟨rfl, ?_⟩
      rw [if_neg (by omega)]
      exact h3.2
  · rw [if_neg e, Array.getElem?_setIfInBounds, if_neg (by omega)]
    exact h2 q hq j hj

end Go.Proofs.YtceclhndagoddaaDoor
end

section
namespace Go.Proofs.YtceclhndagoddaaDoor
open Go.RowKit

mutual
/-- How many marks a tree bears. -/
def cntVa : Va → Nat | .mk _ _ _ ls ts => ls.length + cntVas ts
def cntVas : List Va → Nat | [] => 0 | t :: r => 3 + cntVa t + cntVas r
end
def setHead (k : Nat) : Va → Va | .mk _ _ _ ls ts => .mk k (k + 1 : Nat) (markB (k + 2)) ls ts
mutual
/-- The tree with marks from k on; its own kind stands. -/
def markVa : Va → Nat → Va | .mk d n nm ls ts, k => .mk d n nm (marks k ls.length) (markVas ts (k + ls.length))
def markVas : List Va → Nat → List Va | [], _ => [] | t :: r, k => setHead k (markVa t (k + 3)) :: markVas r (k + 3 + cntVa t)
end
theorem cntVa_eq (t : Va) : cntVa t = t.labels.length + cntVas t.args := by cases t; rw [cntVa]; rfl
theorem cntVas_append : ∀ (a b : List Va), cntVas (a ++ b) = cntVas a + cntVas b
  | [], b => by simp [cntVas]
  | t :: a, b => by
    rw [List.cons_append, cntVas, cntVas, cntVas_append a b]
    omega
theorem cntVas_take (ts : List Va) (k : Nat) (h : k < ts.length) : cntVas (ts.take (k + 1)) = cntVas (ts.take k) + 3 + cntVa ts[k] := by
  rw [List.take_succ_eq_append_getElem h, cntVas_append, cntVas, cntVas]
  omega
theorem cntVas_le (ts : List Va) (k : Nat) : cntVas (ts.take k) ≤ cntVas ts := by
  have h := cntVas_append (ts.take k) (ts.drop k)
  rw [List.take_append_drop] at h
  omega
theorem markVas_len : ∀ (ts : List Va) (k : Nat), (markVas ts k).length = ts.length
  | [], _ => by rw [markVas]
  | t :: r, k => by rw [markVas, List.length_cons, List.length_cons, markVas_len r]
theorem markVas_get : ∀ (ts : List Va) (k i : Nat) (h : i < ts.length), (markVas ts k)[i]? = some (setHead (k + cntVas (ts.take i)) (markVa ts[i] (k + cntVas (ts.take i) + 3)))
  | [], _, i, h => absurd h (by simp)
  | t :: r, k, 0, _ => by rw [markVas]; simp [cntVas]
  | t :: r, k, i + 1, h => by
    rw [markVas, List.getElem?_cons_succ, markVas_get r _ i (by simpa using h)]
    simp only [List.take_succ_cons, cntVas, List.getElem_cons_succ]
    rw [show k + 3 + cntVa t + cntVas (r.take i) = k + (3 + cntVa t + cntVas (r.take i)) by omega]
mutual
theorem cnt_le_szV : ∀ (t : Va), cntVa t ≤ 3 * szVa t
  | .mk _ _ _ ls ts => by
    rw [cntVa, szVa]
    have := cnts_le_szVs ts
    omega
theorem cnts_le_szVs : ∀ (ts : List Va), cntVas ts ≤ 3 * szVas ts
  | [] => by simp [cntVas]
  | t :: r => by
    rw [cntVas, szVas]
    have := cnt_le_szV t
    have := cnts_le_szVs r
    omega
end

theorem markVIn {w : World} {S Sa : Nat → Prop} {L A : Option Addr} {lc ac gl : Nat} {t : Va} (q : Nat) (hnm : t.name.size ≤ maxLen) (hn : t.labels.length ≤ maxLen) (hq : q + t.labels.length ≤ 2 ^ 62)
    (hl : t.labels = [] ∨ L = some ⟨gl, 0, none⟩ ∧ S gl ∧ RowStrs w gl (marks q t.labels.length)) (ha : VasIn w Sa A (markVas t.args (q + t.labels.length))) (hs : ∀ b, Sa b → S b ∧ b ≠ gl) :
    VaIn w S (.agg #[.int .i64 t.kind, .int .i64 t.num, .string t.name, .slice L t.labels.length lc, .slice A t.args.length ac]) (markVa t q) := by
  cases t with
  | mk k n nm ls ts =>
    simp only [Va.labels, Va.args, Va.kind, Va.num, Va.name] at *
    rw [markVa]
    have hll := marks_len q ls.length
    have hal := markVas_len ts (q + ls.length)
    have h := VaIn.of (w := w) (S := S) (Sa := Sa) (L := L) (A := A) (lc := lc) (ac := ac) (gl := gl) (t := .mk k n nm (marks q ls.length) (markVas ts (q + ls.length))) hnm (by simp only [Va.labels]; rw [hll]; exact hn)
      (fun x hx => by
        simp only [Va.labels] at hx ⊢
        rw [hll] at hx
        have h62 := markB_size (q + x) (by omega)
        have e : (marks q ls.length)[x]'(by rw [hll]; exact hx) = markB (q + x) := by simp [marks]
        rw [e]
        unfold maxLen
        omega)
      (by
        simp only [Va.labels]
        rcases hl with h | h
        · left
          rw [h]
          rfl
        · exact .inr h)
      ha hs
    simp only [Va.labels, Va.args, Va.kind, Va.num, Va.name] at h
    rw [hll, hal] at h
    exact h

/-- A list of trees is marked. -/
def MarkedVas (w : World) (S : Nat → Prop) (A : Option Addr) (k : Nat) (ts : List Va) (e : Ending) (w' : World) : Prop :=
  e = .returned (.int .i64 ((k + cntVas ts : Nat) : Int)) ∧ VasIn w' S A (markVas ts k) ∧ OnlyIn S w w'

def MarkVMany (ts : List Va) : Prop := ∀ (S : Nat → Prop) (A : Option Addr) (c k : Nat) (w : World), VasIn w S A ts → 0 < k → k + cntVas ts ≤ 2 ^ 62 → Calls Tryd.prog 33 #[.slice A ts.length c, .int .i64 k] w (MarkedVas w S A k ts)

/-- The first j elements are marked. -/
def VMarking (w : World) (ga : Nat) (Ss : Nat → Nat → Prop) (ts : List Va) (k j : Nat) : Prop :=
  ∃ vs : Nat → Value, ElemRow 5 25 w ga ts.length vs ∧ (∀ i, (hi : i < ts.length) → i < j → VaIn w (Ss i) (vs i) (setHead (k + cntVas (ts.take i)) (markVa ts[i] (k + cntVas (ts.take i) + 3)))) ∧ (∀ i, (hi : i < ts.length) → j ≤ i → VaIn w (Ss i) (vs i) ts[i])

theorem VMarking.done {w : World} {S : Nat → Prop} {ga k : Nat} {Ss : Nat → Nat → Prop} {ts : List Va} (h : VMarking w ga Ss ts k ts.length) (hm : ts.length ≤ maxLen) (hS : S ga) (h2 : ∀ i, i < ts.length → ∀ b, Ss i b → S b ∧ b ≠ ga) (h3 : ∀ i j, i < ts.length → j < ts.length → i ≠ j → ∀ b, Ss i b → ¬ Ss j b) :
    VasIn w S (some ⟨ga, 0, none⟩) (markVas ts k) := by
  obtain ⟨vs, h4, h5, _⟩ := h
  have hl := markVas_len ts k
  refine ⟨by rw [hl]; exact hm, ga, vs, Ss, .inr ⟨rfl, hS, by rw [hl]; exact h4⟩, by rw [hl]; exact h2, by rw [hl]; exact h3, fun i hi => ?_⟩
  have hi' : i < ts.length := by omega
  have hg := markVas_get ts k i hi'
  rw [List.getElem?_eq_getElem hi] at hg
  rw [Option.some.inj hg]
  exact h5 i hi' hi'

theorem VaIn.setHead {w : World} {S : Nat → Prop} {L A : Option Addr} {lc ac : Nat} {k0 n0 : Int} {nm0 : ByteArray} {n m : Nat} {t : Va} (h : VaIn w S (.agg #[.int .i64 k0, .int .i64 n0, .string nm0, .slice L n lc, .slice A m ac]) t) (k : Nat) (hk : k + 2 ≤ 2 ^ 62) : VaIn w S (.agg #[.int .i64 k, .int .i64 ((k + 1 : Nat) : Int), .string (markB (k + 2)), .slice L n lc, .slice A m ac]) (setHead k t) := by
  have h62 := markB_size (k + 2) (by omega)
  cases h with
  | mk gl ga vs Ss hnm hn hz hm hls hes hne hsub hdis hks => exact .mk gl ga vs Ss (by unfold maxLen; omega) hn hz hm hls hes hne hsub hdis hks

theorem ElemRow.congr {sz : Nat} {t : TypeId} {w : World} {g m : Nat} {vs vs' : Nat → Value} (h : ElemRow sz t w g m vs) (he : ∀ i, vs i = vs' i) : ElemRow sz t w g m vs' := by
  have : vs = vs' := funext he
  rw [← this]
  exact h
theorem ElemRow.set5 {t : TypeId} {w : World} {g m : Nat} {vs : Nat → Value} {cs0 : Array Value} {x : Value} {i o : Nat} (h : ElemRow 5 t w g m vs) (hi : i < m) (hv : vs i = .agg cs0) (ho : o < 5) (hz : cs0.size = 5) : ElemRow 5 t (w.setCell ⟨g, i * 5 + o, none⟩ x) g m (fun j => if j = i then .agg (cs0.setIfInBounds o x) else vs j) := by
  obtain ⟨cs, h1, h2⟩ := h
  have hsz : i * 5 + o < cs.size := by
    have h3 := h2 i hi o ho
    have h4 := h3.1
    rw [← h3.2] at h4
    rcases Nat.lt_or_ge (i * 5 + o) cs.size with h5 | h5
    · exact h5
    · rw [Array.getElem?_eq_none h5] at h4
      cases h4
  refine ⟨_, h1.set (i * 5 + o) x, fun q hq j hj => ?_⟩
  dsimp only
  by_cases e : q = i
  · subst e
    rw [if_pos rfl, Array.getElem?_setIfInBounds]
    have h3 := h2 q hi j hj
    rw [hv] at h3
    by_cases ej : o = j
    · subst ej
      rw [if_pos rfl, if_pos hsz]
      simp [partAt, hz, ho]
    · rw [if_neg (by omega)]
      simp only [partAt] at h3 ⊢
      rw [Array.getElem?_setIfInBounds, if_neg ej]
      exact h3
  · rw [if_neg e, Array.getElem?_setIfInBounds, if_neg (by omega)]
    exact h2 q hq j hj

set_option maxHeartbeats 1000000 in
theorem markValueS_of (ts : List Va) (hall : ∀ i, (h : i < ts.length) → MarkVMany ts[i].args) : MarkVMany ts := by
  intro S A c k w hA h0 h1
  obtain ⟨hm, ga, vs0, Ss, hrow, hsub, hdis, hks⟩ := hA
  have HALL := Lib.hid hall
  clear hall
  rcases hrow with rfl | ⟨rfl, hSa, hrow⟩
  · go_enter Tryd.func33, Tryd.ntmps33
    go_wp2
    go_loop [1, 5] (fun m i => m = .int .i64 (k : Int) ∧ i = .int .i64 0) (fun _ _ => 0)
    case atStart => exact ⟨rfl, rfl⟩
    case round =>
      obtain ⟨rfl, rfl⟩ := hrel
      go_wp2
      go_ret
      refine ⟨rfl, ?_, OnlyIn.refl _ _⟩
      rw [markVas]
      exact ⟨hm, ga, vs0, Ss, .inl rfl, fun i hi => absurd hi (by simp), fun i _ hi => absurd hi (by simp), fun i hi => absurd hi (by simp)⟩
  · have HSUB := Lib.hid hsub
    have HDIS := Lib.hid hdis
    have HM := Lib.hid hm
    have hstart : VMarking w ga Ss ts k 0 := ⟨vs0, hrow, fun i _ hi => absurd hi (by omega), fun i hi _ => hks i hi⟩
    unfold maxLen at hm
    clear hrow hks hsub hdis
    go_enter Tryd.func33, Tryd.ntmps33
    go_wp2
    go_loopw [1, 5] (fun m i wr => ∃ j q : Nat, j ≤ ts.length ∧ i = .int .i64 j ∧ m = .int .i64 (q : Int) ∧ Hid (q = k + cntVas (ts.take j)) ∧ VMarking wr ga Ss ts k j ∧ OnlyIn S w wr) (fun _ i _ => ts.length - (intOf i).toNat)
    case atStart => exact ⟨0, k, Nat.zero_le _, rfl, rfl, Lib.hid (by simp [cntVas]), hstart, OnlyIn.refl _ _⟩
    case round =>
      obtain ⟨j, q, hj, rfl, rfl, hq, hM, ho⟩ := hrel
      clear hstart
      by_cases hlt : j < ts.length
      · have hc1 := Lib.hid (cntVas_take ts j hlt)
        have hc2 := cntVas_le ts (j + 1)
        have hc4 := Lib.hid (cntVa_eq ts[j])
        have hq1 : q + 3 + ts[j].labels.length + cntVas ts[j].args ≤ 2 ^ 62 := by have := hc1.out; have := hc4.out; have := hq.out; omega
        obtain ⟨vs, hrow, hdone, hrest⟩ := hM
        obtain ⟨L, lc, A', ac, gl, hv, hnm, hn, hz, hl, ha⟩ := (hrest j hlt (Nat.le_refl _)).open
        have hglS : ts[j].labels = [] ∨ Ss j gl ∧ gl < wr.heap.size := hl.imp id fun ⟨_, h, h'⟩ => ⟨h, h'.lt⟩
        have hcell := fun (o : Nat) (ho : o < 5) => (hrow.cell j o hlt ho).trans (congrArg (partAt · o) hv)
        have q0 : wr.cell? ⟨ga, j * 5, none⟩ = some (.int .i64 ts[j].kind) := hcell 0 (by omega)
        have q0' : wr.frozen? ⟨ga, j * 5, none⟩ = false := hrow.free _
        have R1 : ElemRow 5 25 (wr.setCell ⟨ga, j * 5, none⟩ (.int .i64 (q : Int))) ga ts.length (fun i => if i = j then .agg #[.int .i64 (q : Int), .int .i64 ts[j].num, .string ts[j].name, .slice L ts[j].labels.length lc, .slice A' ts[j].args.length ac] else vs i) := (hrow.set5 (x := .int .i64 (q : Int)) (o := 0) hlt hv (by omega) rfl).congr fun i => by
          by_cases e : i = j
          · rw [if_pos e, if_pos e]; rfl
          · rw [if_neg e, if_neg e]
        have R2 : ElemRow 5 25 ((wr.setCell ⟨ga, j * 5, none⟩ (.int .i64 (q : Int))).setCell ⟨ga, j * 5 + 1, none⟩ (.int .i64 ((q : Int) + 1))) ga ts.length (fun i => if i = j then .agg #[.int .i64 (q : Int), .int .i64 ((q : Int) + 1), .string ts[j].name, .slice L ts[j].labels.length lc, .slice A' ts[j].args.length ac] else vs i) := (R1.set5 (x := .int .i64 ((q : Int) + 1)) (o := 1) hlt (by rw [if_pos rfl]) (by omega) rfl).congr fun i => by
          by_cases e : i = j
          · rw [if_pos e, if_pos e]; rfl
          · rw [if_neg e, if_neg e, if_neg e]
        have q1 : (wr.setCell ⟨ga, j * 5, none⟩ (.int .i64 (q : Int))).cell? ⟨ga, j * 5 + 1, none⟩ = some (.int .i64 ts[j].num) := by
          have := R1.cell j 1 hlt (by omega)
          rw [if_pos rfl] at this
          exact this
        have q1' : (wr.setCell ⟨ga, j * 5, none⟩ (.int .i64 (q : Int))).frozen? ⟨ga, j * 5 + 1, none⟩ = false := R1.free _
        have hgal := hrow.lt
        have HR2a := Lib.hid R2
        have hkeep0 := Lib.hid (fun b (hb : b ≠ ga) => (Below.heap_setCell (wr.setCell ⟨ga, j * 5, none⟩ (.int .i64 (q : Int))) ⟨ga, j * 5 + 1, none⟩ (.int .i64 ((q : Int) + 1)) b hb).trans (Below.heap_setCell wr ⟨ga, j * 5, none⟩ (.int .i64 (q : Int)) b hb))
        have HD := Lib.hid hdone
        have HV := Lib.hid hv
        have HE := Lib.hid hrest
        have HA' := Lib.hid ha
        have HL := Lib.hid hl
        have HZ := Lib.hid hz
        have ho0 := Lib.hid ((ho.set hSa (j * 5) (.int .i64 (q : Int))).set hSa (j * 5 + 1) (.int .i64 ((q : Int) + 1)))
        have hs0 : wr.heap.size ≤ ((wr.setCell ⟨ga, j * 5, none⟩ (.int .i64 (q : Int))).setCell ⟨ga, j * 5 + 1, none⟩ (.int .i64 ((q : Int) + 1))).heap.size := by simp [World.setCell]
        have HMT := Lib.hid (fun W => (show Calls Tryd.prog 79 #[.int .i64 ((q : Int) + 1 + 1)] W fun e w' => e = .returned (.string (markB (q + 2))) ∧ Below W.heap.size W w' by
          have := markText_any (q + 2) W (by omega) (by omega)
          rw [show ((q + 2 : Nat) : Int) = (q : Int) + 1 + 1 by omega] at this
          exact this))
        have HML := Lib.hid (fun (W : World) (hW : ts[j].labels = [] ∨ L = some ⟨gl, 0, none⟩ ∧ RowStrs W gl ts[j].labels) => (show Calls Tryd.prog 32 #[.slice L ts[j].labels.length lc, .int .i64 ((q : Int) + 1 + 1 + 1)] W (MarkedLs W gl (q + 3) ts[j].labels) by
          have := markLabels L lc (q + 3) gl ts[j].labels W hW (by omega) (by omega)
          rw [show ((q + 3 : Nat) : Int) = (q : Int) + 1 + 1 + 1 by omega] at this
          exact this))
        clear hrow hdone hrest hv ha hl hz hcell R1 R2
        go_wp2_with fail
        clear q0 q0' q1 q1'
        generalize ((wr.setCell ⟨ga, j * 5, none⟩ (.int .i64 (q : Int))).setCell ⟨ga, j * 5 + 1, none⟩ (.int .i64 ((q : Int) + 1))) = w2a at *
        refine (HMT.out w2a).mono ?_
        rintro e wm ⟨rfl, hbm⟩
        have R2m := HR2a.out.keep (hbm.block ga (by omega))
        have q2 : wm.cell? ⟨ga, j * 5 + 2, none⟩ = some (.string ts[j].name) := by
          have := R2m.cell j 2 hlt (by omega)
          rw [if_pos rfl] at this
          exact this
        have q2' : wm.frozen? ⟨ga, j * 5 + 2, none⟩ = false := R2m.free _
        have hrow1 : Hid (ElemRow 5 25 (wm.setCell ⟨ga, j * 5 + 2, none⟩ (.string (markB (q + 2)))) ga ts.length (fun i => if i = j then .agg #[.int .i64 (q : Int), .int .i64 ((q : Int) + 1), .string (markB (q + 2)), .slice L ts[j].labels.length lc, .slice A' ts[j].args.length ac] else vs i)) := Lib.hid ((R2m.set5 (x := .string (markB (q + 2))) (o := 2) hlt (by rw [if_pos rfl]) (by omega) rfl).congr fun i => by
          by_cases e : i = j
          · rw [if_pos e, if_pos e]; rfl
          · rw [if_neg e, if_neg e, if_neg e])
        have q3 : (wm.setCell ⟨ga, j * 5 + 2, none⟩ (.string (markB (q + 2)))).cell? ⟨ga, j * 5 + 3, none⟩ = some (.slice L ts[j].labels.length lc) := by
          have := hrow1.out.cell j 3 hlt (by omega)
          rw [if_pos rfl] at this
          exact this
        have hsm := hbm.size
        have hkeep : Hid (∀ b, b ≠ ga → b < wr.heap.size → (wm.setCell ⟨ga, j * 5 + 2, none⟩ (.string (markB (q + 2)))).heap[b]? = wr.heap[b]?) := Lib.hid fun b hb hlt' => (Below.heap_setCell wm ⟨ga, j * 5 + 2, none⟩ _ b hb).trans ((hbm.block b (by omega)).trans (hkeep0.out b hb))
        have ho1 := Lib.hid ((ho0.out.trans (OnlyIn.of_below hbm)).set hSa (j * 5 + 2) (.string (markB (q + 2))))
        have hs1 : wr.heap.size ≤ (wm.setCell ⟨ga, j * 5 + 2, none⟩ (.string (markB (q + 2)))).heap.size := by simp [World.setCell]; omega
        clear R2m hbm HR2a
        go_wp2_with fail
        clear q2 q2' q3
        generalize wm.setCell ⟨ga, j * 5 + 2, none⟩ (.string (markB (q + 2))) = w1 at *
        have hl1 : ts[j].labels = [] ∨ L = some ⟨gl, 0, none⟩ ∧ RowStrs w1 gl ts[j].labels := HL.out.imp id fun ⟨h1, h2, h3⟩ => ⟨h1, h3.same (hkeep.out gl (HSUB.out j hlt _ h2).2 h3.lt)⟩
        refine (HML.out w1 hl1).mono ?_
        rintro e w2 ⟨rfl, hl2, ho2⟩
        have hs2 := ho2.size
        have hng : ¬ (ga = gl ∧ ts[j].labels ≠ []) := fun ⟨h1, h2⟩ => by
          rcases hglS with h | ⟨h, _⟩
          · exact h2 h
          · exact (HSUB.out j hlt _ h).2 h1.symm
        have hrow2 := hrow1.out.keep (ho2.block ga (by omega) hng)
        have q2 : w2.cell? ⟨ga, j * 5 + 4, none⟩ = some (.slice A' ts[j].args.length ac) := by
          have := hrow2.cell j 4 hlt (by omega)
          rw [if_pos rfl] at this
          exact this
        have ha2 := Lib.hid ((HA'.out.keep (fun b hb hlt' => hkeep.out b (HSUB.out j hlt _ hb.1).2 hlt')).keep (fun b hb hlt' => ho2.block b hlt' fun h => hb.2 h.1))
        have HT := Lib.hid (HALL.out j hlt _ _ ac (q + 3 + ts[j].labels.length) w2 ha2.out (by omega) (by omega))
        have HR2 := Lib.hid hrow2
        clear hrow2
        go_wp2_with fail
        refine HT.out.mono ?_
        rintro e w3 ⟨rfl, ht3, ho3⟩
        have hs3 := ho3.size
        have HT3 := Lib.hid ht3
        have hM3 : Hid (VMarking w3 ga Ss ts k (j + 1)) := by
          apply Lib.hid
          have hqe := hq.out
          refine ⟨_, HR2.out.keep (ho3.block ga (by omega) fun h => (HSUB.out j hlt _ h.1).2 rfl), fun i hi hij => ?_, fun i hi hij => ?_⟩
          · by_cases e : i = j
            · subst e
              rw [if_pos rfl, ← hqe]
              rw [show (q : Int) + 1 = ((q + 1 : Nat) : Int) by omega]
              refine VaIn.setHead (k0 := ts[i].kind) (n0 := ts[i].num) (nm0 := ts[i].name) ?_ q (by omega)
              exact markVIn (Sa := fun b => Ss i b ∧ b ≠ gl) (q + 3) hnm hn (by omega) (by
                rcases hl2 with h | h
                · exact .inl h
                · rcases HL.out with h5 | ⟨h5, h6, _⟩
                  · exact .inl h5
                  · exact .inr ⟨h5, h6, h.same (ho3.block gl h.lt fun h => h.2 rfl)⟩) HT3.out (fun b hb => hb)
            · rw [if_neg e]
              refine (HD.out i hi (by omega)).keep fun b hb hbl => ?_
              rw [ho3.block b (by omega) fun h => HDIS.out i j hi hlt e b hb h.1, ho2.block b (by omega) fun h => by
                rcases hglS with h5 | ⟨h5, _⟩
                · exact h.2 h5
                · exact HDIS.out i j hi hlt e b hb (by rw [h.1]; exact h5)]
              exact hkeep.out b (HSUB.out i hi b hb).2 hbl
          · have e : i ≠ j := by omega
            rw [if_neg e]
            refine (HE.out i hi (by omega)).keep fun b hb hbl => ?_
            rw [ho3.block b (by omega) fun h => HDIS.out i j hi hlt e b hb h.1, ho2.block b (by omega) fun h => by
              rcases hglS with h5 | ⟨h5, _⟩
              · exact h.2 h5
              · exact HDIS.out i j hi hlt e b hb (by rw [h.1]; exact h5)]
            exact hkeep.out b (HSUB.out i hi b hb).2 hbl
        have hO3 := Lib.hid ((ho1.out.trans (ho2.wide fun b hb => by
          rcases hglS with h5 | ⟨h5, _⟩
          · exact absurd h5 hb.2
          · rw [hb.1]; exact (HSUB.out j hlt _ h5).1)).trans (ho3.wide fun b hb => (HSUB.out j hlt _ hb.1).1))
        clear ht3 ho2 ho3 hl1 hl2 q2
        go_wp2
        go_roundw
        case rel => exact ⟨j + 1, q + 3 + ts[j].labels.length + cntVas ts[j].args, by omega, by go_num, rfl, Lib.hid (by have := hc1.out; have := hc4.out; have := hq.out; omega), hM3.out, hO3.out⟩
        case measure => simp [intOf]; omega
      · have hje : j = ts.length := by omega
        subst hje
        rw [List.take_length] at hq
        have hqe := hq.out
        have HQ := Lib.hid hqe
        clear hqe
        have HMk := Lib.hid hM
        clear hM
        go_wp2
        go_ret
        exact ⟨by rw [HQ.out]; rfl, HMk.out.done HM.out hSa HSUB.out HDIS.out, ho⟩

end Go.Proofs.YtceclhndagoddaaDoor
end

section
namespace Go.Proofs.YtceclhndagoddaaDoor
open Go.RowKit

/-- A tree is marked. -/
def MarkedTy (w : World) (S : Nat → Prop) (v : Value) (k : Nat) (t : Ty) (e : Ending) (w' : World) : Prop :=
  e = .returned (.int .i64 ((k + cntTy t : Nat) : Int)) ∧ TyIn w' S v (markTy t k) ∧ OnlyIn S w w'

set_option maxHeartbeats 400000 in
theorem heldLabels (A : Option Addr) (c k n : Nat) (w : World) (hA : StrsAt w w.heap.size A (marks k n)) (h0 : 0 < k) (h1 : k + n ≤ 2 ^ 62) :
    Calls Tryd.prog 34 #[.slice A n c, .int .i64 k] w (HeldTo w (k + n)) := by
  go_enter Tryd.func34, Tryd.ntmps34
  go_wp2
  go_loopw [1, 5] (fun m i wr => ∃ j : Nat, j ≤ n ∧ i = .int .i64 j ∧ m = .int .i64 ((k + j : Nat) : Int) ∧ Below w.heap.size w wr) (fun _ i _ => n - (intOf i).toNat)
  case atStart => exact ⟨0, Nat.zero_le _, rfl, rfl, Below.refl _ _⟩
  case round =>
    obtain ⟨j, hj, rfl, rfl, hb⟩ := hrel
    by_cases hlt : j < n
    · obtain ⟨g, off, rfl, hgl0, hc0⟩ := (hA.below hb) j (by rw [marks_len]; exact hlt)
      have hc : wr.cell? ⟨g, off + j, none⟩ = some (.string (markB (k + j))) := by
        rw [hc0]
        simp [marks]
      have hgl : g < wr.heap.size := by have := hb.size; omega
      clear hc0 hA
      go_wp2
      go_region_held3 (fun w' => w'.cell? ⟨g, off + j, none⟩ = some (.string (markB (k + j))) ∧ Below wr.heap.size wr w') ((first | exact ⟨hc, (Below.refl _ _).drew⟩ | exact ⟨hk1, hk2⟩))
        (first | (go_at_call 79; refine (markText_any (k + j) _ (by omega) (by omega)).mono ?_; rintro e w' ⟨rfl, hb1⟩; have hk2 := (Below.refl wr.heap.size wr).drew.trans hb1; have hk1 := (hk2.cell (p := ⟨g, off + j, none⟩) hgl).trans hc))
      go_wp2
      go_roundw
      case rel => exact ⟨j + 1, by omega, by go_num, by go_num, hb.trans (hk2.mono hb.size)⟩
      case measure => simp [intOf]; omega
    · have hje : j = n := by omega
      subst hje
      go_wp2
      go_ret
      exact ⟨rfl, hb⟩

theorem marked_elem {w : World} {B k : Nat} {A : Option Addr} {ts : List Ty} (h : TysAt w B A (markTys ts k)) (i : Nat) (hi : i < ts.length) :
    ∃ b off L lc A' ac, A = some ⟨b, off, none⟩ ∧ b < B ∧ w.cell? ⟨b, off + i * 3, none⟩ = some (.int .i64 ((k + cntTys (ts.take i) : Nat) : Int)) ∧ w.cell? ⟨b, off + i * 3 + 1, none⟩ = some (.slice L ts[i].labels.length lc) ∧
      w.cell? ⟨b, off + i * 3 + 2, none⟩ = some (.slice A' ts[i].args.length ac) ∧ StrsAt w B L (marks (k + cntTys (ts.take i) + 1) ts[i].labels.length) ∧ TysAt w B A' (markTys ts[i].args (k + cntTys (ts.take i) + 1 + ts[i].labels.length)) := by
  have hl := markTys_len ts k
  have hi' : i < (markTys ts k).length := by omega
  obtain ⟨b, off, L, lc, A', ac, h1, h2, h3, h4, h5, _, _, h6, h7, _⟩ := h.elem i hi'
  have hg := markTys_get ts k i hi
  rw [List.getElem?_eq_getElem hi'] at hg
  have hg' := Option.some.inj hg
  rw [hg'] at h3 h4 h5 h6 h7
  refine ⟨b, off, L, lc, A', ac, h1, h2, ?_, ?_, ?_, ?_, ?_⟩
  · revert h3; cases ts[i]; rw [markTy]; exact id
  · revert h4; cases ts[i]; rw [markTy]; simp only [setKind, Ty.labels, marks_len]; exact id
  · revert h5; cases ts[i]; rw [markTy]; simp only [setKind, Ty.args, markTys_len]; exact id
  · revert h6; cases ts[i]; rw [markTy]; exact id
  · revert h7; cases ts[i]; rw [markTy]; exact id

end Go.Proofs.YtceclhndagoddaaDoor
end
