/- Lemmas: VDrawLib, VDraw1, VDraw3. -/
import Derived.Test.YtceclhndagoddaaGreatDoorLawFnValueText_6
import Derived.Test.YtceclhndagoddaaGreatDoorLawFnValueText_8
import Derived.Test.YtceclhndagoddaaGreatDoorLawFnValueText_9
import Derived.Deep.DeepCutAuto
import Derived.Deep.DrawnRows

section
namespace Go.Proofs.YtceclhndagoddaaGreatDoor
open Go.RowKit

/-- A value of its own, of size n at most, is handed back; only the cursor, and what is new, has turned. -/
def DrawnVa (w : World) (B p n : Nat) (e : Ending) (w' : World) : Prop :=
  (∃ v t, e = .returned v ∧ OwnVa w' w.heap.size v t ∧ szVa t ≤ n ∧ smallB t = true) ∧ CurAt w' B p ∧ w.grownBy w' (some p)

theorem grown_set {w w' : World} {p q : Nat} (h : w.grownBy w' (some p)) (hq : w.heap.size ≤ q) (i : Nat) (v : Value) : w.grownBy (w'.setCell ⟨q, i, none⟩ v) (some p) :=
  ⟨h.os, h.tape, h.output, by simpa [World.setCell] using h.size, fun k hk hne => (Below.heap_setCell w' ⟨q, i, none⟩ v k (fun e => by have : k = q := e; omega)).trans (h.block k hk hne)⟩
theorem grown_own {w w1 w3 : World} {p : Nat} {ob : Option Nat} (h : w.grownBy w1 (some p)) (hg : w1.grownBy w3 ob) (ho : ∀ q, ob = some q → w.heap.size ≤ q) : w.grownBy w3 (some p) :=
  ⟨hg.os.trans h.os, hg.tape.trans h.tape, hg.output.trans h.output, Nat.le_trans h.size hg.size, fun i hi hne => (hg.block i (Nat.lt_of_lt_of_le hi h.size) (fun e => by have := ho i e.symm; omega)).trans (h.block i hi hne)⟩
theorem grown_alloc {w w1 : World} {p : Nat} (h : w.grownBy w1 (some p)) (o : Obj) : w.grownBy (w1.alloc o) (some p) := only_below h ((Below.refl _ _).alloc (Nat.le_refl _) o)
theorem TyIn.grown {w w' : World} {p : Nat} {S : Nat → Prop} {v : Value} {t : Ty} (h : TyIn w S v t) (hg : w.grownBy w' (some p)) (hp : ¬ S p) : TyIn w' S v t :=
  h.keep fun b hb hl => hg.block b hl (fun e => by cases e; exact hp hb)
theorem TysIn.grown {w w' : World} {p : Nat} {S : Nat → Prop} {A : Option Addr} {ts : List Ty} (h : TysIn w S A ts) (hg : w.grownBy w' (some p)) (hp : ¬ S p) : TysIn w' S A ts :=
  h.keep fun b hb hl => hg.block b hl (fun e => by cases e; exact hp hb)
theorem RowStrs.grown {w w' : World} {p g : Nat} {ss : List ByteArray} (h : RowStrs w g ss) (hg : w.grownBy w' (some p)) (hp : g ≠ p) : RowStrs w' g ss := h.same (hg.block g h.lt (fun e => by cases e; exact hp rfl))
theorem Whole1.grown {w w' : World} {p g : Nat} {t : TypeId} {cs : Array Value} (h : Whole1 w g t cs) (hg : w.grownBy w' (some p)) (hp : g ≠ p) : Whole1 w' g t cs := (hg.block g h.lt (fun e => by cases e; exact hp rfl)).trans h
theorem VGather.grown {w w' : World} {base k p : Nat} {v : Value} {ts : List Va} (h : VGather w base v k ts) (hg : w.grownBy w' (some p)) (hp : p < base) : VGather w' base v k ts :=
  h.keep hg.size fun g h1 h2 => hg.block g h2 (fun e => by cases e; omega)

theorem smallBs_snoc : ∀ (us : List Va) (u : Va), smallBs us = true → smallB u = true → smallBs (us ++ [u]) = true
  | [], u, _, h => by simp [smallBs, h]
  | t :: r, u, h, h2 => by
    rw [smallBs, Bool.and_eq_true] at h
    rw [List.cons_append, smallBs, h.1, smallBs_snoc r u h.2 h2]
    rfl
theorem drawSzs_part : ∀ (ts : List Ty) (i : Nat) (h : i < ts.length), drawSz ts[i] ≤ drawSzs ts
  | t :: r, 0, _ => by
    rw [drawSzs]
    exact Nat.le_add_right _ _
  | t :: r, i + 1, h => by
    have := drawSzs_part r i (by simpa using h)
    rw [drawSzs]
    exact Nat.le_trans this (Nat.le_add_left _ _)
theorem drawSzs_take (ts : List Ty) (k : Nat) (h : k < ts.length) : drawSzs (ts.take (k + 1)) = drawSzs (ts.take k) + drawSz ts[k] := by
  have key : ∀ (a b : List Ty), drawSzs (a ++ b) = drawSzs a + drawSzs b := fun a b => by
    induction a with
    | nil => simp [drawSzs]
    | cons t r ih => rw [List.cons_append, drawSzs, drawSzs, ih]; omega
  rw [List.take_succ_eq_append_getElem h, key]
  simp [drawSzs]

/-- A part of a tree: its cells, and its own blocks. -/
theorem TysIn.elem {w : World} {S : Nat → Prop} {A : Option Addr} {ts : List Ty} (h : TysIn w S A ts) (i : Nat) (hi : i < ts.length) :
    ∃ ga off M mc C cc S', A = some ⟨ga, off, none⟩ ∧ S ga ∧ ga < w.heap.size ∧ w.cell? ⟨ga, off + i * 3, none⟩ = some (.int .i64 ts[i].kind) ∧ w.cell? ⟨ga, off + i * 3 + 1, none⟩ = some (.slice M ts[i].labels.length mc) ∧ w.cell? ⟨ga, off + i * 3 + 2, none⟩ = some (.slice C ts[i].args.length cc) ∧
      TyIn w S' (.agg #[.int .i64 ts[i].kind, .slice M ts[i].labels.length mc, .slice C ts[i].args.length cc]) ts[i] ∧ ∀ b, S' b → S b := by
  obtain ⟨h0, ga, vs, Ss, h1, h2, h3, h4⟩ := h
  rcases h1 with rfl | ⟨rfl, h5, h6⟩
  · exact absurd hi (by simp)
  · have hk := h4 i hi
    obtain ⟨M, mc, C, cc, gl, e, _⟩ := hk.open
    have c0 := h6.cell i 0 hi (by omega)
    have c1 := h6.cell i 1 hi (by omega)
    have c2 := h6.cell i 2 hi (by omega)
    rw [e] at c0 c1 c2 hk
    rw [← Nat.zero_add (i * 3)] at c0 c1 c2
    exact ⟨ga, 0, M, mc, C, cc, Ss i, rfl, h5, h6.lt, c0, c1, c2, hk, fun b hb => (h2 i hi b hb).1⟩

/-- One more tree is appended. -/
theorem VGatherAt.stepB {w w1 w3 : World} {base k g cap : Nat} {v a b c d e : Value} {ts : List Va} {xs : List Value} {vs : Nat → Value} {lo hi : Nat → Nat} (h : VGatherAt w base v k ts xs vs lo hi) (hs1 : w.heap.size ≤ w1.heap.size) (hb : ∀ q, base ≤ q → q < w.heap.size → w1.heap[q]? = w.heap[q]?) (hbase : base ≤ w.heap.size) (hk : k < ts.length)
    (ht : VaIn w1 (Span w.heap.size w1.heap.size) (.agg #[a, b, c, d, e]) ts[k]) (hown : w3.ownsRow base 27 5 (.slice (some ⟨g, 0, none⟩) (k + 1) cap) (k + 1) (xs ++ [a, b, c, d, e]))
    (hg : (w1.alloc (.cells #[a, b, c, d, e] 27)).grownBy w3 v.ownBlock) (hat : v.ownBlock = some g ∨ g = w1.heap.size + 1) : VGather w3 base (.slice (some ⟨g, 0, none⟩) (k + 1) cap) (k + 1) ts := by
  have hs3 : w1.heap.size + 1 ≤ w3.heap.size := by have := hg.size; simp at this; exact this
  have hxl : xs.length = k * 5 := h.own.1
  have hkeep : ∀ q, q < w1.heap.size → v.ownBlock ≠ some q → w3.heap[q]? = w1.heap[q]? := fun q hq hne =>
    (hg.block q (by simp; omega) (fun e => hne e.symm)).trans (Below.heap_alloc _ _ _ hq)
  refine ⟨xs ++ [a, b, c, d, e], fun i => if i = k then .agg #[a, b, c, d, e] else vs i, fun i => if i = k then w.heap.size else lo i, fun i => if i = k then w1.heap.size else hi i, hown, fun i hi' j hj => ?_, fun i hi' => ?_, fun i j hij hj => ?_, fun i hi' q hq => ?_, fun i hi' hik => ?_⟩
  · by_cases ek : i = k
    · subst ek
      rw [if_pos rfl, List.getElem?_append_right (by omega), hxl]
      have : j = 0 ∨ j = 1 ∨ j = 2 ∨ j = 3 ∨ j = 4 := by omega
      rcases this with rfl | rfl | rfl | rfl | rfl
      · simp [partAt]
      · simp [partAt]
      · simp [partAt]
      · simp [partAt]
      · simp [partAt]
    · rw [if_neg ek, List.getElem?_append_left (by omega)]
      exact h.cells i (by omega) j hj
  · by_cases ek : i = k
    · rw [if_pos ek, if_pos ek]
      omega
    · rw [if_neg ek, if_neg ek]
      have := h.low i (by omega)
      omega
  · rw [if_neg (show i ≠ k by omega)]
    by_cases ek : j = k
    · rw [if_pos ek]
      exact (h.low i (by omega)).2
    · rw [if_neg ek]
      exact h.apart i j hij (by omega)
  · have hqg : q = g := (Option.some.inj hq).symm
    subst hqg
    by_cases ek : i = k
    · rw [if_pos ek, if_pos ek]
      intro hs
      have a1 := hs.1
      have a2 := hs.2
      rcases hat with hat | hat
      · have := (h.own.lt q hat).2
        omega
      · omega
    · rw [if_neg ek, if_neg ek]
      rcases hat with hat | hat
      · exact h.free i (by omega) q hat
      · intro hs
        have := hs.2
        have := (h.low i (by omega)).2
        omega
  · by_cases ek : i = k
    · subst ek
      rw [if_pos rfl, if_pos rfl, if_pos rfl]
      refine ht.keep fun q hq _ => hkeep q hq.2 fun hv => ?_
      have := (h.own.lt q hv).2
      have := hq.1
      omega
    · rw [if_neg ek, if_neg ek, if_neg ek]
      refine (h.kids i hi' (by omega)).keep fun q hq hql => ?_
      rw [hkeep q (by omega) fun hv => h.free i (by omega) q hv hq]
      exact hb q (by have := (h.low i (by omega)).1; have := hq.1; omega) hql


/-- The draw of a part is appended to the parts of the value under way. -/
theorem vdraw_rel {w wc wr w1 w3 : World} {p po k g cap : Nat} {A2 : Option Addr} {c2 : Nat} {ts : List Va} {u : Va} {xs : List Value} {vs : Nat → Value} {lo hi : Nat → Nat} {a b c d e : Value} {x0 x1 x2 x3 : Value} {B : Nat} (hk : k = ts.length) (hol : po < wc.heap.size) (hpo : w.heap.size ≤ po) (hpw : p < w.heap.size) (hsz : wc.heap.size ≤ wr.heap.size)
    (hG : VGatherAt wr wc.heap.size (.slice A2 k c2) k ts xs vs lo hi) (hb1 : wr.grownBy w1 (some p)) (hc1 : CurAt w1 B p) (ht : VaIn w1 (Span wr.heap.size w1.heap.size) (.agg #[a, b, c, d, e]) u)
    (hown3 : w3.ownsRow wc.heap.size 27 5 (.slice (some ⟨g, 0, none⟩) (k + 1) cap) (k + 1) (xs ++ [a, b, c, d, e])) (hg3 : (w1.alloc (.cells #[a, b, c, d, e] 27)).grownBy w3 (Value.slice A2 k c2).ownBlock) (hat3 : (Value.slice A2 k c2).ownBlock = some g ∨ g = w1.heap.size + 1)
    (ho3 : Whole1 w3 po 27 #[x0, x1, x2, x3, .slice A2 k c2]) (hold : ∀ q, q < wc.heap.size → q ≠ po → q ≠ p → wr.heap[q]? = wc.heap[q]?) (hb : w.grownBy wr (some p)) :
    Whole1 (w3.setCell ⟨po, 4, none⟩ (.slice (some ⟨g, 0, none⟩) (k + 1) cap)) po 27 #[x0, x1, x2, x3, .slice (some ⟨g, 0, none⟩) (k + 1) cap] ∧ VGather (w3.setCell ⟨po, 4, none⟩ (.slice (some ⟨g, 0, none⟩) (k + 1) cap)) wc.heap.size (.slice (some ⟨g, 0, none⟩) (k + 1) cap) (k + 1) (ts ++ [u]) ∧
      (∀ q, q < wc.heap.size → q ≠ po → q ≠ p → (w3.setCell ⟨po, 4, none⟩ (.slice (some ⟨g, 0, none⟩) (k + 1) cap)).heap[q]? = wc.heap[q]?) ∧ CurAt (w3.setCell ⟨po, 4, none⟩ (.slice (some ⟨g, 0, none⟩) (k + 1) cap)) B p ∧ w.grownBy (w3.setCell ⟨po, 4, none⟩ (.slice (some ⟨g, 0, none⟩) (k + 1) cap)) (some p) ∧ wc.heap.size ≤ (w3.setCell ⟨po, 4, none⟩ (.slice (some ⟨g, 0, none⟩) (k + 1) cap)).heap.size := by
  have hs1 := hb1.size
  have hs3 := hg3.size
  simp only [World.size_alloc] at hs3
  have hw0 := hb.size
  have hvb := fun q (hq : (Value.slice A2 k c2).ownBlock = some q) => (hG.own.lt q hq)
  have hG1 : VGatherAt wr wc.heap.size (.slice A2 k c2) k (ts ++ [u]) xs vs lo hi := ⟨hG.own, hG.cells, hG.low, hG.apart, hG.free, fun i hi' hik => by
    rw [List.getElem_append_left (by omega)]
    exact hG.kids i (by omega) hik⟩
  -- the cursor's block apart, the call's world is one in which all stands
  have hst : VGather w3 wc.heap.size (.slice (some ⟨g, 0, none⟩) (k + 1) cap) (k + 1) (ts ++ [u]) := VGatherAt.stepB hG1 hs1 (fun q h1 h2 => hb1.block q h2 (fun e => by cases e; omega)) hsz (by simp [hk]) (by simpa [hk] using ht) hown3 hg3 hat3
  have hgp : w.grownBy w3 (some p) := grown_own (grown_alloc (only_trans hb hb1) _) hg3 (fun q hq => by have := (hvb q hq).1; omega)
  have hcB : Below (p + 1) w1 w3 := ⟨hg3.os, hg3.tape, hg3.output, by omega, fun q hq => (hg3.block q (by simp; omega) (fun e => by have := (hvb q e.symm).1; omega)).trans (Below.heap_alloc _ _ _ (by omega))⟩
  have hcS := hcB.setCell (p := ⟨po, 4, none⟩) (show p + 1 ≤ po by omega) (.slice (some ⟨g, 0, none⟩) (k + 1) cap)
  refine ⟨ho3.set 4 _, hst.set hol, fun q hq hqp hqq => ?_, hc1.belowP hcS (by omega), grown_set hgp hpo _ _, ?_⟩
  · rw [Below.heap_setCell _ _ _ _ hqp, hg3.block q (by simp; omega) (fun e => by have := (hvb q e.symm).1; omega), Below.heap_alloc _ _ _ (by omega), hb1.block q (by omega) (fun e => by cases e; exact hqq rfl)]
    exact hold q hq hqp hqq
  · show wc.heap.size ≤ (w3.setCell _ _).heap.size
    simp [World.setCell]
    omega

end Go.Proofs.YtceclhndagoddaaGreatDoor
end

section
namespace Go.Proofs.YtceclhndagoddaaGreatDoor
set_option maxRecDepth 100000
open Go.RowKit
attribute [local go_sem ↓] Go.wp_at_zero Go.wp_at_succ

theorem szVa_leaf (k n : Int) (m : Nat) : szVa (.mk k n ⟨#[]⟩ [] []) ≤ m := by
  rw [szVa, szVas]
  exact Nat.zero_le m
theorem drawnV_fin {w w3 : World} {B p n : Nat} {v : Value} {t : Va} (h : OwnVa w3 (w.heap.size + 2) v t) (hn : szVa t ≤ n) (hq : smallB t = true) (hc : CurAt w3 B p) (hp : p < w.heap.size) (hg : w.grownBy w3 (some p)) (a b c d e : Value) :
    DrawnVa w B p n (.returned v) (((((w3.setCell ⟨w.heap.size + 1, 0, none⟩ a).setCell ⟨w.heap.size + 1, 1, none⟩ b).setCell ⟨w.heap.size + 1, 2, none⟩ c).setCell ⟨w.heap.size + 1, 3, none⟩ d).setCell ⟨w.heap.size + 1, 4, none⟩ e) := by
  have hb : Below (w.heap.size + 1) w3 (((((w3.setCell ⟨w.heap.size + 1, 0, none⟩ a).setCell ⟨w.heap.size + 1, 1, none⟩ b).setCell ⟨w.heap.size + 1, 2, none⟩ c).setCell ⟨w.heap.size + 1, 3, none⟩ d).setCell ⟨w.heap.size + 1, 4, none⟩ e) := (((((Below.refl (w.heap.size + 1) w3).setCell (by simp) _).setCell (by simp) _).setCell (by simp) _).setCell (by simp) _).setCell (by simp) _
  have hk : ∀ g, g ≠ w.heap.size + 1 → (((((w3.setCell ⟨w.heap.size + 1, 0, none⟩ a).setCell ⟨w.heap.size + 1, 1, none⟩ b).setCell ⟨w.heap.size + 1, 2, none⟩ c).setCell ⟨w.heap.size + 1, 3, none⟩ d).setCell ⟨w.heap.size + 1, 4, none⟩ e).heap[g]? = w3.heap[g]? := fun g hg => by
    rw [Below.heap_setCell _ _ _ _ hg, Below.heap_setCell _ _ _ _ hg, Below.heap_setCell _ _ _ _ hg, Below.heap_setCell _ _ _ _ hg, Below.heap_setCell _ _ _ _ hg]
  exact ⟨⟨v, t, rfl, (h.keep hb.size (fun g h1 _ => hk g (by omega))).base (by omega), hn, hq⟩, hc.belowP hb (by omega), ⟨hb.os.trans hg.os, hb.tape.trans hg.tape, hb.output.trans hg.output, Nat.le_trans hg.size hb.size, fun i hi hne => (hk i (by omega)).trans (hg.block i hi hne)⟩⟩

set_option maxHeartbeats 1000000 in
theorem specDrawV_1 (ls : List ByteArray) (ts : List Ty) (L A : Option Addr) (lc ac p B n : Nat) (w : World) (hc : CurAt w B p) : Calls Tryz.prog 27 #[.pointer (some ⟨p, 0, none⟩), .agg #[.int .i64 1, .slice L ls.length lc, .slice A ts.length ac]] w (DrawnVa w B p n) := by
  have hpl := hc.lt
  obtain ⟨hb0, p0, r0, hs0⟩ := boxes2 w 58 27 #[.int .i64 1, .slice L ls.length lc, .slice A ts.length ac] #[.int .i64 0, .int .i64 0, .string ⟨#[]⟩, .slice none 0 0, .slice none 0 0]
  have HB := Lib.hid (fun W h => l1Below_any p B 6 W h (by omega) (by omega))
  have hc0 := hc.belowP hb0 hpl
  have hg0 := only_below (only_refl w (some p)) hb0
  clear hc
  go_enter Tryz.func27, Tryz.ntmps27
  go_wp2_with fail
  generalize (w.alloc (.cells #[.int .i64 1, .slice L ls.length lc, .slice A ts.length ac] 58)).alloc (.cells #[.int .i64 0, .int .i64 0, .string ⟨#[]⟩, .slice none 0 0, .slice none 0 0] 27) = w0 at *
  refine (HB.out w0 hc0).mono ?_
  rintro e w1 ⟨⟨x, rfl, hx0, hx1⟩, hc1, hg1⟩
  have hg1' := only_trans hg0 hg1
  have r1 := r0.grown hg1 (by omega)
  have hs1 := hg1.size
  clear r0 p0 hg0 hg1 hc0
  go_wp2_with fail
  refine (l5Int_any (x - 1) w1).mono ?_
  rintro e w2 ⟨rfl, hb2⟩
  have r2 := r1.below hb2 r1.lt
  have d0 : w2.cell? ⟨w.heap.size + 1, 0, none⟩ = some (.int .i64 0) := r2.cell 0
  have e0 : w2.frozen? ⟨w.heap.size + 1, 0, none⟩ = false := r2.free 0
  have d1 : w2.cell? ⟨w.heap.size + 1, 1, none⟩ = some (.int .i64 0) := r2.cell 1
  have e1 : w2.frozen? ⟨w.heap.size + 1, 1, none⟩ = false := r2.free 1
  have d2 : w2.cell? ⟨w.heap.size + 1, 2, none⟩ = some (.string ⟨#[]⟩) := r2.cell 2
  have e2 : w2.frozen? ⟨w.heap.size + 1, 2, none⟩ = false := r2.free 2
  have d3 : w2.cell? ⟨w.heap.size + 1, 3, none⟩ = some (.slice none 0 0) := r2.cell 3
  have e3 : w2.frozen? ⟨w.heap.size + 1, 3, none⟩ = false := r2.free 3
  have d4 : w2.cell? ⟨w.heap.size + 1, 4, none⟩ = some (.slice none 0 0) := r2.cell 4
  have e4 : w2.frozen? ⟨w.heap.size + 1, 4, none⟩ = false := r2.free 4
  have HF := Lib.hid (drawnV_fin (n := n) (OwnVa.leaf w2 (w.heap.size + 2) 1 (x - 1) ⟨#[]⟩ (by simp [ByteArray.size])) (szVa_leaf _ _ _) (by simp [smallB, smallBs]; omega) (hc1.belowP hb2 hc1.lt) hpl (only_below hg1' hb2))
  clear r1 r2 hc1 hg1' hb2 hb0
  go_wp2
  exact bodyPost_ret (v := .agg #[.int .i64 1, .int .i64 (x - 1), .string ⟨#[]⟩, .slice none 0 0, .slice none 0 0]) (by simp [results, Tryz.results27, go_sem, d0, d1, d2, d3, d4]) rfl (HF.out _ _ _ _ _)

set_option maxHeartbeats 1000000 in
theorem specDrawV_2 (ls : List ByteArray) (ts : List Ty) (L A : Option Addr) (lc ac p B n : Nat) (w : World) (hc : CurAt w B p) : Calls Tryz.prog 27 #[.pointer (some ⟨p, 0, none⟩), .agg #[.int .i64 2, .slice L ls.length lc, .slice A ts.length ac]] w (DrawnVa w B p n) := by
  have hpl := hc.lt
  obtain ⟨hb0, p0, r0, hs0⟩ := boxes2 w 58 27 #[.int .i64 2, .slice L ls.length lc, .slice A ts.length ac] #[.int .i64 0, .int .i64 0, .string ⟨#[]⟩, .slice none 0 0, .slice none 0 0]
  have HB := Lib.hid (fun W h => l1Once_any p B 2 W h (by omega) (by omega))
  have hc0 := hc.belowP hb0 hpl
  have hg0 := only_below (only_refl w (some p)) hb0
  clear hc
  go_enter Tryz.func27, Tryz.ntmps27
  go_wp2_with fail
  generalize (w.alloc (.cells #[.int .i64 2, .slice L ls.length lc, .slice A ts.length ac] 58)).alloc (.cells #[.int .i64 0, .int .i64 0, .string ⟨#[]⟩, .slice none 0 0, .slice none 0 0] 27) = w0 at *
  refine (HB.out w0 hc0).mono ?_
  rintro e w1 ⟨⟨x, rfl⟩, hc1, hg1⟩
  have hg1' := only_trans hg0 hg1
  have r1 := r0.grown hg1 (by omega)
  have hs1 := hg1.size
  clear r0 p0 hg0 hg1 hc0
  have HX := l5Bool_any x w1
  obtain ⟨y, hy, hyb⟩ : ∃ y : Int, (if x then (1 : Int) else 0) = y ∧ (y = 0 ∨ y = 1) := ⟨_, rfl, by cases x <;> simp⟩
  rw [hy] at HX
  clear hy
  go_wp2_with fail
  refine HX.mono ?_
  rintro e w2 ⟨rfl, hb2⟩
  have r2 := r1.below hb2 r1.lt
  have d0 : w2.cell? ⟨w.heap.size + 1, 0, none⟩ = some (.int .i64 0) := r2.cell 0
  have e0 : w2.frozen? ⟨w.heap.size + 1, 0, none⟩ = false := r2.free 0
  have d1 : w2.cell? ⟨w.heap.size + 1, 1, none⟩ = some (.int .i64 0) := r2.cell 1
  have e1 : w2.frozen? ⟨w.heap.size + 1, 1, none⟩ = false := r2.free 1
  have d2 : w2.cell? ⟨w.heap.size + 1, 2, none⟩ = some (.string ⟨#[]⟩) := r2.cell 2
  have e2 : w2.frozen? ⟨w.heap.size + 1, 2, none⟩ = false := r2.free 2
  have d3 : w2.cell? ⟨w.heap.size + 1, 3, none⟩ = some (.slice none 0 0) := r2.cell 3
  have e3 : w2.frozen? ⟨w.heap.size + 1, 3, none⟩ = false := r2.free 3
  have d4 : w2.cell? ⟨w.heap.size + 1, 4, none⟩ = some (.slice none 0 0) := r2.cell 4
  have e4 : w2.frozen? ⟨w.heap.size + 1, 4, none⟩ = false := r2.free 4
  have HF := Lib.hid (drawnV_fin (n := n) (OwnVa.leaf w2 (w.heap.size + 2) 2 y ⟨#[]⟩ (by simp [ByteArray.size])) (szVa_leaf _ _ _) (by simp [smallB, smallBs]; omega) (hc1.belowP hb2 hc1.lt) hpl (only_below hg1' hb2))
  clear r1 r2 hc1 hg1' hb2 hb0
  go_wp2
  exact bodyPost_ret (v := .agg #[.int .i64 2, .int .i64 y, .string ⟨#[]⟩, .slice none 0 0, .slice none 0 0]) (by simp [results, Tryz.results27, go_sem, d0, d1, d2, d3, d4]) rfl (HF.out _ _ _ _ _)

end Go.Proofs.YtceclhndagoddaaGreatDoor
end

section
namespace Go.Proofs.YtceclhndagoddaaGreatDoor
set_option maxRecDepth 100000
open Go.RowKit
attribute [local go_sem ↓] Go.wp_at_zero Go.wp_at_succ

set_option maxHeartbeats 8000000 in
theorem specDrawV_3 (ls : List ByteArray) (ts : List Ty) (L A : Option Addr) (lc ac p B n : Nat) (S : Nat → Prop) (w : World) (hc : CurAt w B p) (hA : TysIn w S A ts) (hpS : ¬ S p) (hl : StrsAt w w.heap.size L ls) (hls : ls.length ≤ 1048576) (hz : ∀ i, (h : i < ls.length) → ls[i].size ≤ maxLen) (hle : ts.length ≤ 1048576) (hn : sumSizes ls + ls.length + drawSzs ts + ts.length ≤ n)
    (hall : ∀ i, (h : i < ts.length) → ∀ (v : Value) (S' : Nat → Prop) (W : World), TyIn W S' v ts[i] → ¬ S' p → CurAt W B p → Calls Tryz.prog 27 #[.pointer (some ⟨p, 0, none⟩), v] W (DrawnVa W B p (drawSz ts[i]))) :
    Calls Tryz.prog 27 #[.pointer (some ⟨p, 0, none⟩), .agg #[.int .i64 3, .slice L ls.length lc, .slice A ts.length ac]] w (DrawnVa w B p n) := by
  have hpl := hc.lt
  have HALL := Lib.hid hall
  have HN := Lib.hid hz
  obtain ⟨i0, hi, hz0, hz1, hz2⟩ := info_parts infoString
  obtain ⟨hb0, p0, r0, hs0⟩ := boxes2 w 58 27 #[.int .i64 3, .slice L ls.length lc, .slice A ts.length ac] #[.int .i64 0, .int .i64 0, .string ⟨#[]⟩, .slice none 0 0, .slice none 0 0]
  have hc0 := hc.belowP hb0 hpl
  have hg0 := only_below (only_refl w (some p)) hb0
  clear hc hall hz
  go_enter Tryz.func27, Tryz.ntmps27
  go_upto_region 7 with fail
  generalize (w.alloc (.cells #[.int .i64 3, .slice L ls.length lc, .slice A ts.length ac] 58)).alloc (.cells #[.int .i64 0, .int .i64 0, .string ⟨#[]⟩, .slice none 0 0, .slice none 0 0] 27) = w0 at *
  have hl0 := hl.up' hb0
  have HZ := Lib.hid hs0
  have HNH := Lib.hid hn
  clear hs0 hl hb0 hn
  have hpl0 := p0.lt
  have hE0b : Below w0.heap.size w0 (w0.alloc (.cells #[] 9)) := (Below.refl _ _).alloc (Nat.le_refl _) _
  have hE0 : (w0.alloc (.cells #[] 9)).ownsRow w0.heap.size 9 1 (.slice (some ⟨w0.heap.size, 0, none⟩) 0 0) 0 [] := World.ownsRow_lit w0 #[] 0 (Nat.le_refl _) (Nat.zero_le _) rfl
  have q1 : (w0.alloc (.cells #[] 9)).cell? ⟨w.heap.size, 1, none⟩ = some (.slice L ls.length lc) := (hE0b.cell (p := ⟨w.heap.size, 1, none⟩) hpl0).trans (p0.cell 1)
  go_wp2_with (at_builtin; refine wpList_append_cells _ rfl (.tmp 26) (.tmp 28) _ rfl w0.heap.size 9 i0 (.string ⟨#[]⟩) 1 16 Tryz.underlying24 hi hz0 hz1 hz2 rfl (by decide) _ 0 [] rfl hE0 L ls.length lc (strVals ls) rfl (by simp [strVals]) (hl0.up' hE0b).cells (strVals_one _) (by unfold maxLen; omega) (by omega) hE0b.size ?_; intro v1 w1 hown1 hg1; obtain ⟨A1, c1, rfl, hrow0⟩ := own_form (ss := ls) hown1 (by simp))
  have hB1 := hE0b.grown hg1 hE0b.size (fun q hq => (hE0.lt q hq).1)
  have hzz := HZ.out
  have hlo1 : w1.ownsRow (w.heap.size + 2) 9 1 (.slice A1 ls.length c1) ls.length (strVals ls) := own_base (by simpa using hown1) (by omega)
  clear q1 hg1 hE0 hE0b hown1 hrow0
  have ho0 : Whole1 (w1.alloc (.cells #[.int .i64 3, .int .i64 0, .string ⟨#[]⟩, .slice A1 ls.length c1, .slice none 0 0] 27)) w1.heap.size 27 #[.int .i64 3, .int .i64 0, .string ⟨#[]⟩, .slice A1 ls.length c1, .slice none 0 0] := Whole1.new _ _ _
  have hbA : Below w0.heap.size w0 (w1.alloc (.cells #[.int .i64 3, .int .i64 0, .string ⟨#[]⟩, .slice A1 ls.length c1, .slice none 0 0] 27)) := hB1.alloc hB1.size _
  have hsA : (w1.alloc (.cells #[.int .i64 3, .int .i64 0, .string ⟨#[]⟩, .slice A1 ls.length c1, .slice none 0 0] 27)).heap.size = w1.heap.size + 1 := by simp
  have hpo : w.heap.size + 2 ≤ w1.heap.size := by have := hB1.size; omega
  clear hzz
  have HLO := Lib.hid (World.ownsRow.alloc hlo1 (.cells #[.int .i64 3, .int .i64 0, .string ⟨#[]⟩, .slice A1 ls.length c1, .slice none 0 0] 27))
  have HGPO : Hid (∀ g, (Value.slice A1 ls.length c1).ownBlock = some g → g ≠ w1.heap.size) := Lib.hid (fun g hg e => by have := (hlo1.lt g hg).2; omega)
  have hgc := only_below hg0 hbA
  have hcc := hc0.belowP hbA hc0.lt
  have p1 := p0.below hbA p0.lt
  have r1 := r0.below hbA r0.lt
  have HO0 := Lib.hid ho0
  clear ho0 hlo1 hB1 hbA p0 r0 hg0 hc0 hl0
  go_wp2
  generalize w1.alloc (.cells #[.int .i64 3, .int .i64 0, .string ⟨#[]⟩, .slice A1 ls.length c1, .slice none 0 0] 27) = wc at *
  generalize w1.heap.size = po at *
  have ho0 := HO0.out
  have hol : po < wc.heap.size := ho0.lt
  have hplc : w.heap.size < wc.heap.size := p1.lt
  have hrl : w.heap.size + 1 < wc.heap.size := r1.lt
  have hgaz := hA.1
  have HA := Lib.hid hA
  have HPS := Lib.hid hpS
  have HGC := Lib.hid hgc
  obtain ⟨i1, hi1, hy0, hy1, hy2⟩ := info_parts infoValue
  clear hA hpS hgc
  go_wp2
  go_loopw [6] (fun i wr => ∃ (k c2 : Nat) (A2 : Option Addr) (us : List Va), k = us.length ∧ k ≤ ts.length ∧ i = .int .i64 k ∧ szVas us ≤ drawSzs (ts.take k) + k ∧ smallBs us = true ∧ Whole1 wr po 27 #[.int .i64 3, .int .i64 0, .string ⟨#[]⟩, .slice A1 ls.length c1, .slice A2 k c2] ∧ VGather wr wc.heap.size (.slice A2 k c2) k us ∧ (∀ q, q < wc.heap.size → q ≠ po → q ≠ p → wr.heap[q]? = wc.heap[q]?) ∧ CurAt wr B p ∧ w.grownBy wr (some p) ∧ wc.heap.size ≤ wr.heap.size) (fun i _ => ts.length - (intOf i).toNat)
  case atStart => exact ⟨0, 0, none, [], rfl, Nat.zero_le _, rfl, by simp [szVas], by rw [smallBs], ho0, VGather.start _ _ _, fun _ _ _ _ => rfl, hcc, HGC.out, Nat.le_refl _⟩
  case round =>
    obtain ⟨k, c2, A2, us, hul, hk, rfl, hszu, hnbu, ho, hga, hold, hcr, hb, hsz1⟩ := hrel
    have HOLD := Lib.hid hold
    have HSZU := Lib.hid hszu
    have HNBU := Lib.hid hnbu
    have HCR := Lib.hid hcr
    have HB9 := Lib.hid hb
    have p2 : Whole1 wr w.heap.size 58 #[.int .i64 3, .slice L ls.length lc, .slice A ts.length ac] := (hold _ hplc (by omega) (by omega)).trans p1
    have q2 : wr.cell? ⟨w.heap.size, 2, none⟩ = some (.slice A ts.length ac) := p2.cell 2
    have hpr : p < wr.heap.size := hcr.lt
    have HUL := Lib.hid hul
    clear hold hszu hnbu hcr hb hul
    by_cases hlt : k < ts.length
    · have hltI : (k : Int) < (ts.length : Int) := by omega
      obtain ⟨xs, vs, lo, hi', hG⟩ := hga
      obtain ⟨ga, off, M, mc, C, cc, S', rfl, hSga, hgal, e0, e1, e2, ht, hss⟩ := (HA.out.grown HB9.out HPS.out).elem k hlt
      skip
      have HT := Lib.hid (HALL.out k hlt _ S' wr.drew (ht.keep fun _ _ _ => rfl) (fun h => HPS.out (hss _ h)) (HCR.out.belowP ((Below.refl _ wr).drew) hpr))
      have HG := Lib.hid hG
      have HO := Lib.hid ho
      have o2 : wr.cell? ⟨po, 4, none⟩ = some (.slice A2 k c2) := ho.cell 4
      have f2 : wr.frozen? ⟨po, 4, none⟩ = false := ho.free 4
      have how : po < wr.heap.size := by omega
      have HOWN := Lib.hid hG.own
      clear hG ho ht p2 hss hSga
      go_wp2
      go_region_law (first
        | (go_simp; go_at_call 27; refine HT.out.mono ?_; rintro e w1 ⟨⟨v1, u, rfl, ho1, hz1, hn1⟩, hc1, hg1⟩; have hg1' : wr.grownBy w1 (some p) := ⟨hg1.os, hg1.tape, hg1.output, hg1.size, hg1.block⟩; have HC1 := Lib.hid hc1; have HT1 := Lib.hid ho1.owned; obtain ⟨T1, U1, T2, U2, rfl⟩ := ho1.open; clear ho1 hc1; have hs1 := hg1'.size; have y1 := HO.out.grown hg1' (by omega); have y2 : w1.cell? ⟨po, 4, none⟩ = some (.slice A2 k c2) := y1.cell 4; have y4 := y1.below ((Below.refl w1.heap.size w1).alloc (Nat.le_refl _) (.cells #[.int .i64 u.kind, .int .i64 u.num, .string u.name, .slice T1 u.labels.length U1, .slice T2 u.args.length U2] 27)) y1.lt; have y3 : (w1.alloc (.cells #[.int .i64 u.kind, .int .i64 u.num, .string u.name, .slice T1 u.labels.length U1, .slice T2 u.args.length U2] 27)).cell? ⟨po, 4, none⟩ = some (.slice A2 k c2) := y4.cell 4; clear y1 y4; have hown2 := World.ownsRow.alloc (own_keep5 HOWN.out (fun g hg => hg1'.block g (HOWN.out.lt g hg).2 (fun e => by cases e; have := (HOWN.out.lt p hg).1; omega))) (.cells #[.int .i64 u.kind, .int .i64 u.num, .string u.name, .slice T1 u.labels.length U1, .slice T2 u.args.length U2] 27); have hnews := news5 w1 27 (.int .i64 u.kind) (.int .i64 u.num) (.string u.name) (.slice T1 u.labels.length U1) (.slice T2 u.args.length U2))
        | (refine step_append_lies _ (by rfl) (.tmp 39) (.tmp 47) _ (by rfl) wc.heap.size 27 i1 (.agg #[.int .i64 0, .int .i64 0, .string ⟨#[]⟩, .slice none 0 0, .slice none 0 0]) 5 80 Tryz.underlying25 hi1 hy0 hy1 hy2 rfl (by decide) _ k xs (by rfl) hown2 ⟨w1.heap.size, 0, none⟩ 1 1 [.int .i64 u.kind, .int .i64 u.num, .string u.name, .slice T1 u.labels.length U1, .slice T2 u.args.length U2] (by rfl) rfl hnews.1 hnews.2 (by omega) (by unfold maxLen; omega) (by omega) (by simp; omega) (w1.heap.size + 1) (by simp) ?_; intro g cap w3 hown3 hg3 hat3 hlt3; have hvb := fun q (hq : (Value.slice A2 k c2).ownBlock = some q) => (HOWN.out.lt q hq).1; have ho3 : Whole1 w3 po 27 #[.int .i64 3, .int .i64 0, .string ⟨#[]⟩, .slice A1 ls.length c1, .slice A2 k c2] := ((hg3.block po (by simp; omega) (fun e => by have := hvb po e.symm; omega)).trans (Below.heap_alloc _ _ _ (by omega))).trans (HO.out.grown hg1' (by omega)); have m2 : w3.cell? ⟨po, 4, none⟩ = some (.slice A2 k c2) := ho3.cell 4; have n2 : w3.frozen? ⟨po, 4, none⟩ = false := ho3.free 4))
      all_goals
        go_wp2
        go_roundw
        case rel => exact ⟨k + 1, cap, some ⟨g, 0, none⟩, us ++ [u], by simp [HUL.out], by omega, by go_num, (by rw [szVas_append, szVas, szVas, drawSzs_take ts k hlt]; have := HSZU.out; omega), smallBs_snoc us u HNBU.out hn1, vdraw_rel HUL.out hol (by omega) hpl hsz1 HG.out hg1' HC1.out HT1.out hown3 hg3 hat3 ho3 HOLD.out HB9.out⟩
        case measure => simp [intOf]; omega
    · have hke : ts.length = k := by omega
      subst hke
      have hul := HUL.out
      have hltI : ¬ ((ts.length : Nat) : Int) < (ts.length : Int) := by omega
      have r2 : Whole1 wr (w.heap.size + 1) 27 #[.int .i64 0, .int .i64 0, .string ⟨#[]⟩, .slice none 0 0, .slice none 0 0] := (HOLD.out _ hrl (by omega) (by omega)).trans r1
      have o0 : wr.cell? ⟨po, 0, none⟩ = some (.int .i64 3) := ho.cell 0
      have o1 : wr.cell? ⟨po, 1, none⟩ = some (.int .i64 0) := ho.cell 1
      have o2 : wr.cell? ⟨po, 2, none⟩ = some (.string ⟨#[]⟩) := ho.cell 2
      have o3 : wr.cell? ⟨po, 3, none⟩ = some (.slice A1 ls.length c1) := ho.cell 3
      have o4 : wr.cell? ⟨po, 4, none⟩ = some (.slice A2 ts.length c2) := ho.cell 4
      have d0 : wr.cell? ⟨w.heap.size + 1, 0, none⟩ = some (.int .i64 0) := r2.cell 0
      have f0 : wr.frozen? ⟨w.heap.size + 1, 0, none⟩ = false := r2.free 0
      have d1 : wr.cell? ⟨w.heap.size + 1, 1, none⟩ = some (.int .i64 0) := r2.cell 1
      have f1 : wr.frozen? ⟨w.heap.size + 1, 1, none⟩ = false := r2.free 1
      have d2 : wr.cell? ⟨w.heap.size + 1, 2, none⟩ = some (.string ⟨#[]⟩) := r2.cell 2
      have f2 : wr.frozen? ⟨w.heap.size + 1, 2, none⟩ = false := r2.free 2
      have d3 : wr.cell? ⟨w.heap.size + 1, 3, none⟩ = some (.slice none 0 0) := r2.cell 3
      have f3 : wr.frozen? ⟨w.heap.size + 1, 3, none⟩ = false := r2.free 3
      have d4 : wr.cell? ⟨w.heap.size + 1, 4, none⟩ = some (.slice none 0 0) := r2.cell 4
      have f4 : wr.frozen? ⟨w.heap.size + 1, 4, none⟩ = false := r2.free 4
      have HF : Hid (∀ a b c d e : Value, DrawnVa w B p n (.returned (.agg #[.int .i64 3, .int .i64 0, .string ⟨#[]⟩, .slice A1 ls.length c1, .slice A2 ts.length c2])) (((((wr.setCell ⟨w.heap.size + 1, 0, none⟩ a).setCell ⟨w.heap.size + 1, 1, none⟩ b).setCell ⟨w.heap.size + 1, 2, none⟩ c).setCell ⟨w.heap.size + 1, 3, none⟩ d).setCell ⟨w.heap.size + 1, 4, none⟩ e)) := by
        obtain ⟨xs, vs, lo, hi', hG⟩ := hga
        have hlo9 : wr.ownsRow (w.heap.size + 2) 9 1 (.slice A1 ls.length c1) ls.length (strVals ls) := own_keep1 HLO.out (fun g hg => HOLD.out g (HLO.out.lt g hg).2 (HGPO.out g hg) (fun e => by have := (HLO.out.lt g hg).1; omega))
        have hown9 : OwnVa wr (w.heap.size + 2) _ (.mk 3 0 ⟨#[]⟩ ls us) := ⟨A1, c1, A2, c2, xs, vs, lo, hi', rfl, Nat.zero_le _, HN.out, by simp only [Va.args]; rw [← hul]; exact hgaz, hlo9, by simp only [Va.args]; rw [← hul]; exact hG.base (by omega), fun gl hgl => by
          have hglt := (HLO.out.lt gl (by rw [hgl]; rfl)).2
          refine ⟨fun e => by have := (hG.own.lt gl (by rw [e]; rfl)).1; omega, fun i hi' hsp => ?_⟩
          have := (hG.low i (by simp only [Va.args] at hi'; omega)).1
          have := hsp.1
          omega⟩
        have hfin := fun a b c d e => drawnV_fin (w := w) (w3 := wr) (B := B) (p := p) (n := n) hown9 (by rw [szVa]; have := HSZU.out; rw [List.take_length] at this; have := HNH.out; have h0 : (⟨#[]⟩ : ByteArray).size = 0 := rfl; rw [h0]; omega) (smallB_mk _ _ _ _ _ (by omega) (smallBs_at us HNBU.out)) HCR.out hpl HB9.out a b c d e
        exact Lib.hid (by intro a b c d e; have := hfin a b c d e; simp only [Va.kind, Va.num, Va.name, Va.labels, Va.args, ← hul] at this; exact this)
      clear p2 r2 ho hga q2 hul
      have q2 : wr.cell? ⟨w.heap.size, 2, none⟩ = some (.slice A ts.length ac) := by
        have : Whole1 wr w.heap.size 58 #[.int .i64 3, .slice L ls.length lc, .slice A ts.length ac] := (HOLD.out _ hplc (by omega) (by omega)).trans p1
        exact this.cell 2
      go_wp2
      exact bodyPost_ret (v := .agg #[.int .i64 3, .int .i64 0, .string ⟨#[]⟩, .slice A1 ls.length c1, .slice A2 ts.length c2]) (by simp [results, Tryz.results27, go_sem, d0, d1, d2, d3, d4]) rfl (HF.out _ _ _ _ _)

end Go.Proofs.YtceclhndagoddaaGreatDoor
end
