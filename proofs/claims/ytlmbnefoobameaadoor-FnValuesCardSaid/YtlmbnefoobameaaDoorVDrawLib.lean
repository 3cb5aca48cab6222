/- Values that are drawn, part by part: the cursor turns. -/
import Derived.Test.YtlmbnefoobameaaDoorVGrow
import Derived.Test.YtlmbnefoobameaaDoorSmalls
import Derived.Test.YtlmbnefoobameaaDoorDefVa
import Derived.Test.YtlmbnefoobameaaDoorDraw3
namespace Go.Proofs.YtlmbnefoobameaaDoor
open Go.RowKit

/-- A value of its own, of size n at most, is handed back; only the cursor, and what is new, has turned. -/
def DrawnVa (w : World) (B p n : Nat) (e : Ending) (w' : World) : Prop :=
  (∃ v t, e = .returned v ∧ OwnVa w' w.heap.size v t ∧ szVa t ≤ n ∧ smallB t = true) ∧ CurAt w' B p ∧ w.grownBy w' (some p)

theorem grown_set {w w' : World} {p q : Nat} (h : w.grownBy w' (some p)) (hq : w.heap.size ≤ q) (i : Nat) (v : Value) : w.grownBy (w'.setCell ⟨q, i, none⟩ v) (some p) :=
  ⟨h.os, h.tape, h.output, by simpa [World.setCell] using h.size, fun k hk hne => (Below.heap_setCell w' ⟨q, i, none⟩ v k (fun e => by have : k = q := e; omega)).trans (h.block k hk hne)⟩
theorem grown_own {w w1 w3 : World} {p : Nat} {ob : Option Nat} (h : w.grownBy w1 (some p)) (hg : w1.grownBy w3 ob) (ho : ∀ q, ob = some q → w.heap.size ≤ q) : w.grownBy w3 (some p) :=
  ⟨hg.os.trans h.os, hg.tape.trans h.tape, hg.output.trans h.output, Nat.le_trans h.size hg.size, fun i hi hne => (hg.block i (Nat.lt_of_lt_of_le hi h.size) (fun e => by have := ho i e.symm; omega)).trans (h.block i hi hne)⟩
theorem grown_alloc {w w1 : World} {p : Nat} (h : w.grownBy w1 (some p)) (o : Obj) : w.grownBy (w1.alloc o) (some p) := only_below h ((Below.refl _ _).alloc (Nat.le_refl _) o)
theorem TyIn.grown {w w' : World} {p : Nat} {S : Nat → Prop} {v : Value} {t : Ty} (h : TyIn w S v t) (hg : w.grownBy w' (some p)) (hp : ¬ S p) : TyIn w' S v t :=
  h.keep fun b hb hl => hg.block b hl (fun e => by cases e; exact hp hb)
theorem TysIn.grown {w w' : World} {p : Nat} {S : Nat → Prop} {A : Option Addr} {ts : List Ty} (h : TysIn w S A ts) (hg : w.grownBy w' (some p)) (hp : ¬ S p) : TysIn w' S A ts :=
  h.keep fun b hb hl => hg.block b hl (fun e => by cases e; exact hp hb)
theorem RowStrs.grown {w w' : World} {p g : Nat} {ss : List ByteArray} (h : RowStrs w g ss) (hg : w.grownBy w' (some p)) (hp : g ≠ p) : RowStrs w' g ss := h.same (hg.block g h.lt (fun e => by cases e; exact hp rfl))
theorem Whole1.grown {w w' : World} {p g : Nat} {t : TypeId} {cs : Array Value} (h : Whole1 w g t cs) (hg : w.grownBy w' (some p)) (hp : g ≠ p) : Whole1 w' g t cs := (hg.block g h.lt (fun e => by cases e; exact hp rfl)).trans h
theorem VGather.grown {w w' : World} {base k p : Nat} {v : Value} {ts : List Va} (h : VGather w base v k ts) (hg : w.grownBy w' (some p)) (hp : p < base) : VGather w' base v k ts :=
  h.keep hg.size fun g h1 h2 => hg.block g h2 (fun e => by cases e; omega)

theorem smallBs_snoc : ∀ (us : List Va) (u : Va), smallBs us = true → smallB u = true → smallBs (us ++ [u]) = true
  | [], u, _, h => by simp [smallBs, h]
  | t :: r, u, h, h2 => by
    rw [smallBs, Bool.and_eq_true] at h
    rw [List.cons_append, smallBs, h.1, smallBs_snoc r u h.2 h2]
    rfl
theorem drawSzs_part : ∀ (ts : List Ty) (i : Nat) (h : i < ts.length), drawSz ts[i] ≤ drawSzs ts
  | t :: r, 0, _ => by
    rw [drawSzs]
    exact Nat.le_add_right _ _
  | t :: r, i + 1, h => by
    have := drawSzs_part r i (by simpa using h)
    rw [drawSzs]
    exact Nat.le_trans this (Nat.le_add_left _ _)
theorem drawSzs_take (ts : List Ty) (k : Nat) (h : k < ts.length) : drawSzs (ts.take (k + 1)) = drawSzs (ts.take k) + drawSz ts[k] := by
  have key : ∀ (a b : List Ty), drawSzs (a ++ b) = drawSzs a + drawSzs b := fun a b => by
    induction a with
    | nil => simp [drawSzs]
    | cons t r ih => rw [List.cons_append, drawSzs, drawSzs, ih]; omega
  rw [List.take_succ_eq_append_getElem h, key]
  simp [drawSzs]

/-- A part of a tree: its cells, and its own blocks. -/
theorem TysIn.elem {w : World} {S : Nat → Prop} {A : Option Addr} {ts : List Ty} (h : TysIn w S A ts) (i : Nat) (hi : i < ts.length) :
    ∃ ga off M mc C cc S', A = some ⟨ga, off, none⟩ ∧ S ga ∧ ga < w.heap.size ∧ w.cell? ⟨ga, off + i * 3, none⟩ = some (.int .i64 ts[i].kind) ∧ w.cell? ⟨ga, off + i * 3 + 1, none⟩ = some (.slice M ts[i].labels.length mc) ∧ w.cell? ⟨ga, off + i * 3 + 2, none⟩ = some (.slice C ts[i].args.length cc) ∧
      TyIn w S' (.agg #[.int .i64 ts[i].kind, .slice M ts[i].labels.length mc, .slice C ts[i].args.length cc]) ts[i] ∧ ∀ b, S' b → S b := by
  obtain ⟨h0, ga, vs, Ss, h1, h2, h3, h4⟩ := h
  rcases h1 with rfl | ⟨rfl, h5, h6⟩
  · exact absurd hi (by simp)
  · have hk := h4 i hi
    obtain ⟨M, mc, C, cc, gl, e, _⟩ := hk.open
    have c0 := h6.cell i 0 hi (by omega)
    have c1 := h6.cell i 1 hi (by omega)
    have c2 := h6.cell i 2 hi (by omega)
    rw [e] at c0 c1 c2 hk
    rw [← Nat.zero_add (i * 3)] at c0 c1 c2
    exact ⟨ga, 0, M, mc, C, cc, Ss i, rfl, h5, h6.lt, c0, c1, c2, hk, fun b hb => (h2 i hi b hb).1⟩

/-- One more tree is appended. -/
theorem VGatherAt.stepB {w w1 w3 : World} {base k g cap : Nat} {v a b c d e : Value} {ts : List Va} {xs : List Value} {vs : Nat → Value} {lo hi : Nat → Nat} (h : VGatherAt w base v k ts xs vs lo hi) (hs1 : w.heap.size ≤ w1.heap.size) (hb : ∀ q, base ≤ q → q < w.heap.size → w1.heap[q]? = w.heap[q]?) (hbase : base ≤ w.heap.size) (hk : k < ts.length)
    (ht : VaIn w1 (Span w.heap.size w1.heap.size) (.agg #[a, b, c, d, e]) ts[k]) (hown : w3.ownsRow base 27 5 (.slice (some ⟨g, 0, none⟩) (k + 1) cap) (k + 1) (xs ++ [a, b, c, d, e]))
    (hg : (w1.alloc (.cells #[a, b, c, d, e] 27)).grownBy w3 v.ownBlock) (hat : v.ownBlock = some g ∨ g = w1.heap.size + 1) : VGather w3 base (.slice (some ⟨g, 0, none⟩) (k + 1) cap) (k + 1) ts := by
  have hs3 : w1.heap.size + 1 ≤ w3.heap.size := by have := hg.size; simp at this; exact this
  have hxl : xs.length = k * 5 := h.own.1
  have hkeep : ∀ q, q < w1.heap.size → v.ownBlock ≠ some q → w3.heap[q]? = w1.heap[q]? := fun q hq hne =>
    (hg.block q (by simp; omega) (fun e => hne e.symm)).trans (Below.heap_alloc _ _ _ hq)
  refine ⟨xs ++ [a, b, c, d, e], fun i => if i = k then .agg #[a, b, c, d, e] else vs i, fun i => if i = k then w.heap.size else lo i, fun i => if i = k then w1.heap.size else hi i, hown, fun i hi' j hj => ?_, fun i hi' => ?_, fun i j hij hj => ?_, fun i hi' q hq => ?_, fun i hi' hik => ?_⟩
  · by_cases ek : i = k
    · subst ek
      rw [if_pos rfl, List.getElem?_append_right (by omega), hxl]
      have : j = 0 ∨ j = 1 ∨ j = 2 ∨ j = 3 ∨ j = 4 := by omega
      rcases this with rfl | rfl | rfl | rfl | rfl
      · simp [partAt]
      · simp [partAt]
      · simp [partAt]
      · simp [partAt]
      · simp [partAt]
    · rw [if_neg ek, List.getElem?_append_left (by omega)]
      exact h.cells i (by omega) j hj
  · by_cases ek : i = k
    · rw [if_pos ek, if_pos ek]
      omega
    · rw [if_neg ek, if_neg ek]
      have := h.low i (by omega)
      omega
  · rw [if_neg (show i ≠ k by omega)]
    by_cases ek : j = k
    · rw [if_pos ek]
      exact (h.low i (by omega)).2
    · rw [if_neg ek]
      exact h.apart i j hij (by omega)
  · have hqg : q = g := (Option.some.inj hq).symm
    subst hqg
    by_cases ek : i = k
    · rw [if_pos ek, if_pos ek]
      intro hs
      have a1 := hs.1
      have a2 := hs.2
      rcases hat with hat | hat
      · have := (h.own.lt q hat).2
        omega
      · omega
    · rw [if_neg ek, if_neg ek]
      rcases hat with hat | hat
      · exact h.free i (by omega) q hat
      · intro hs
        have := hs.2
        have := (h.low i (by omega)).2
        omega
  · by_cases ek : i = k
    · subst ek
      rw [if_pos rfl, if_pos rfl, if_pos rfl]
      refine ht.keep fun q hq _ => hkeep q hq.2 fun hv => ?_
      have := (h.own.lt q hv).2
      have := hq.1
      omega
    · rw [if_neg ek, if_neg ek, if_neg ek]
      refine (h.kids i hi' (by omega)).keep fun q hq hql => ?_
      rw [hkeep q (by omega) fun hv => h.free i (by omega) q hv hq]
      exact hb q (by have := (h.low i (by omega)).1; have := hq.1; omega) hql


/-- The draw of a part is appended to the parts of the value under way. -/
theorem vdraw_rel {w wc wr w1 w3 : World} {p po k g cap : Nat} {A2 : Option Addr} {c2 : Nat} {ts : List Va} {u : Va} {xs : List Value} {vs : Nat → Value} {lo hi : Nat → Nat} {a b c d e : Value} {x0 x1 x2 x3 : Value} {B : Nat} (hk : k = ts.length) (hol : po < wc.heap.size) (hpo : w.heap.size ≤ po) (hpw : p < w.heap.size) (hsz : wc.heap.size ≤ wr.heap.size)
    (hG : VGatherAt wr wc.heap.size (.slice A2 k c2) k ts xs vs lo hi) (hb1 : wr.grownBy w1 (some p)) (hc1 : CurAt w1 B p) (ht : VaIn w1 (Span wr.heap.size w1.heap.size) (.agg #[a, b, c, d, e]) u)
    (hown3 : w3.ownsRow wc.heap.size 27 5 (.slice (some ⟨g, 0, none⟩) (k + 1) cap) (k + 1) (xs ++ [a, b, c, d, e])) (hg3 : (w1.alloc (.cells #[a, b, c, d, e] 27)).grownBy w3 (Value.slice A2 k c2).ownBlock) (hat3 : (Value.slice A2 k c2).ownBlock = some g ∨ g = w1.heap.size + 1)
    (ho3 : Whole1 w3 po 27 #[x0, x1, x2, x3, .slice A2 k c2]) (hold : ∀ q, q < wc.heap.size → q ≠ po → q ≠ p → wr.heap[q]? = wc.heap[q]?) (hb : w.grownBy wr (some p)) :
    Whole1 (w3.setCell ⟨po, 4, none⟩ (.slice (some ⟨g, 0, none⟩) (k + 1) cap)) po 27 #[x0, x1, x2, x3, .slice (some ⟨g, 0, none⟩) (k + 1) cap] ∧ VGather (w3.setCell ⟨po, 4, none⟩ (.slice (some ⟨g, 0, none⟩) (k + 1) cap)) wc.heap.size (.slice (some ⟨g, 0, none⟩) (k + 1) cap) (k + 1) (ts ++ [u]) ∧
      (∀ q, q < wc.heap.size → q ≠ po → q ≠ p → (w3.setCell ⟨po, 4, none⟩ (.slice (some ⟨g, 0, none⟩) (k + 1) cap)).heap[q]? = wc.heap[q]?) ∧ CurAt (w3.setCell ⟨po, 4, none⟩ (.slice (some ⟨g, 0, none⟩) (k + 1) cap)) B p ∧ w.grownBy (w3.setCell ⟨po, 4, none⟩ (.slice (some ⟨g, 0, none⟩) (k + 1) cap)) (some p) ∧ wc.heap.size ≤ (w3.setCell ⟨po, 4, none⟩ (.slice (some ⟨g, 0, none⟩) (k + 1) cap)).heap.size := by
  have hs1 := hb1.size
  have hs3 := hg3.size
  simp only [World.size_alloc] at hs3
  have hw0 := hb.size
  have hvb := fun q (hq : (Value.slice A2 k c2).ownBlock = some q) => (hG.own.lt q hq)
  have hG1 : VGatherAt wr wc.heap.size (.slice A2 k c2) k (ts ++ [u]) xs vs lo hi := ⟨hG.own, hG.cells, hG.low, hG.apart, hG.free, fun i hi' hik => by
    rw [List.getElem_append_left (by omega)]
    exact hG.kids i (by omega) hik⟩
  -- the cursor's block apart, the call's world is one in which all stands
  have hst : VGather w3 wc.heap.size (.slice (some ⟨g, 0, none⟩) (k + 1) cap) (k + 1) (ts ++ [u]) := VGatherAt.stepB hG1 hs1 (fun q h1 h2 => hb1.block q h2 (fun e => by cases e; omega)) hsz (by simp [hk]) (by simpa [hk] using ht) hown3 hg3 hat3
  have hgp : w.grownBy w3 (some p) := grown_own (grown_alloc (only_trans hb hb1) _) hg3 (fun q hq => by have := (hvb q hq).1; omega)
  have hcB : Below (p + 1) w1 w3 := ⟨hg3.os, hg3.tape, hg3.output, by omega, fun q hq => (hg3.block q (by simp; omega) (fun e => by have := (hvb q e.symm).1; omega)).trans (Below.heap_alloc _ _ _ (by omega))⟩
  have hcS := hcB.setCell (p := ⟨po, 4, none⟩) (show p + 1 ≤ po by omega) (.slice (some ⟨g, 0, none⟩) (k + 1) cap)
  refine ⟨ho3.set 4 _, hst.set hol, fun q hq hqp hqq => ?_, hc1.belowP hcS (by omega), grown_set hgp hpo _ _, ?_⟩
  · rw [Below.heap_setCell _ _ _ _ hqp, hg3.block q (by simp; omega) (fun e => by have := (hvb q e.symm).1; omega), Below.heap_alloc _ _ _ (by omega), hb1.block q (by omega) (fun e => by cases e; exact hqq rfl)]
    exact hold q hq hqp hqq
  · show wc.heap.size ≤ (w3.setCell _ _).heap.size
    simp [World.setCell]
    omega

end Go.Proofs.YtlmbnefoobameaaDoor
