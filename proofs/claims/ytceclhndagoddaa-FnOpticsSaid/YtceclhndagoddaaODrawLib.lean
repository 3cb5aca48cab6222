/- Optics that are built and drawn: new, stored, grown by append. -/
import Derived.Test.YtceclhndagoddaaOGather
import Derived.Test.YtceclhndagoddaaEqOt
import Derived.Test.YtceclhndagoddaaPickInt
import Derived.Test.YtceclhndagoddaaSpecOtForm
namespace Go.Proofs.Ytceclhndagoddaa
open Go.RowKit

theorem own_baseO {w : World} {base base' size k : Nat} {e : TypeId} {v : Value} {xs : List Value} (h : w.ownsRow base' e size v k xs) (hb : base ≤ base') : w.ownsRow base e size v k xs :=
  ⟨h.1, h.2.imp id fun ⟨g, cap, cur, h1, h2, h3⟩ => ⟨g, cap, cur, h1, Nat.le_trans hb h2, h3⟩⟩
theorem CurAt.belowO {w w' : World} {B p b : Nat} (h : CurAt w B p) (hb : Below b w w') (hp : p < b) : CurAt w' B p := by
  obtain ⟨A, n, cap, i, x, h1, h2, h3, h4, h5⟩ := h
  exact ⟨A, n, cap, i, x, h1.below hb hp, h2, h3, h4.below (hb.mono (by omega)), h5⟩
theorem CurAt.allocO {w : World} {B p : Nat} (h : CurAt w B p) (o : Obj) : CurAt (w.alloc o) B p := h.belowO ((Below.refl w.heap.size w).alloc (Nat.le_refl _) o) h.lt
theorem ints_newO (w : World) (t : TypeId) (zs : List Int) : IntsAt (w.alloc (.cells (zs.map (Value.int .i64)).toArray t)) (some ⟨w.heap.size, 0, none⟩) zs := fun i hi => by
  refine ⟨_, _, rfl, ?_⟩
  rw [(Whole1.new w t _).cell]
  simp [hi]
theorem grown_setO {w w' : World} {p q : Nat} (h : w.grownBy w' (some p)) (hq : w.heap.size ≤ q) (i : Nat) (v : Value) : w.grownBy (w'.setCell ⟨q, i, none⟩ v) (some p) :=
  ⟨h.os, h.tape, h.output, by simpa [World.setCell] using h.size, fun k hk hne => (Below.heap_setCell w' ⟨q, i, none⟩ v k (fun e => by have : k = q := e; omega)).trans (h.block k hk hne)⟩
theorem grown_ownO {w w1 w3 : World} {p : Nat} {ob : Option Nat} (h : w.grownBy w1 (some p)) (hg : w1.grownBy w3 ob) (ho : ∀ q, ob = some q → w.heap.size ≤ q) : w.grownBy w3 (some p) :=
  ⟨hg.os.trans h.os, hg.tape.trans h.tape, hg.output.trans h.output, Nat.le_trans h.size hg.size, fun i hi hne => (hg.block i (Nat.lt_of_lt_of_le hi h.size) (fun e => by have := ho i e.symm; omega)).trans (h.block i hi hne)⟩
theorem grown_allocO {w w1 : World} {p : Nat} (h : w.grownBy w1 (some p)) (o : Obj) : w.grownBy (w1.alloc o) (some p) := only_below h ((Below.refl _ _).alloc (Nat.le_refl _) o)
theorem Whole1.grownO {w w' : World} {p g : Nat} {t : TypeId} {cs : Array Value} (h : Whole1 w g t cs) (hg : w.grownBy w' (some p)) (hp : g ≠ p) : Whole1 w' g t cs := (hg.block g h.lt (fun e => by cases e; exact hp rfl)).trans h
theorem below_d0 {w w' : World} (h : Below w.drew.heap.size w.drew w') : Below w.heap.size w w' := (Below.refl w.heap.size w).drew.trans h

theorem OGatherAt.base {w : World} {base base' k : Nat} {v : Value} {ts : List Ot} {xs : List Value} {vs : Nat → Value} {lo hi : Nat → Nat} (h : OGatherAt w base' v k ts xs vs lo hi) (hb : base ≤ base') : OGatherAt w base v k ts xs vs lo hi :=
  ⟨own_baseO h.own hb, h.cells, fun i hi' => ⟨Nat.le_trans hb (h.low i hi').1, (h.low i hi').2⟩, h.apart, h.free, h.kids⟩

/-- The optic's parts are a row from base on; all is named. -/
structure OwnOAt (w : World) (base : Nat) (A : Option Addr) (ac : Nat) (t : Ot) (xs : List Value) (vs : Nat → Value) (lo hi : Nat → Nat) : Prop where
  name : t.name.size ≤ maxLen
  len : t.args.length ≤ maxLen
  parts : OGatherAt w base (.slice A t.args.length ac) t.args.length t.args xs vs lo hi
/-- The value reads as the tree; its root's slice is a row from base on. -/
def OwnOt (w : World) (base : Nat) (v : Value) (t : Ot) : Prop :=
  ∃ A ac xs vs lo hi, v = .agg #[.int .i64 t.kind, .string t.name, .int .i64 t.num, .slice A t.args.length ac] ∧ OwnOAt w base A ac t xs vs lo hi
section
variable {w w' : World} {base ac : Nat} {A : Option Addr} {t : Ot} {xs : List Value} {vs : Nat → Value} {lo hi : Nat → Nat}
theorem OwnOAt.own (h : OwnOAt w base A ac t xs vs lo hi) : OwnOt w base (.agg #[.int .i64 t.kind, .string t.name, .int .i64 t.num, .slice A t.args.length ac]) t := ⟨A, ac, xs, vs, lo, hi, rfl, h⟩
theorem OwnOAt.root (h : OwnOAt w base A ac t xs vs lo hi) (k n : Int) (nm : ByteArray) (hnm : nm.size ≤ maxLen) : OwnOAt w base A ac (.mk k n nm t.args) xs vs lo hi := ⟨hnm, h.len, h.parts⟩
theorem OwnOAt.keep (h : OwnOAt w base A ac t xs vs lo hi) (hs : w.heap.size ≤ w'.heap.size) (hk : ∀ g, base ≤ g → g < w.heap.size → w'.heap[g]? = w.heap[g]?) : OwnOAt w' base A ac t xs vs lo hi := ⟨h.name, h.len, h.parts.keep hs hk⟩
/-- What lies from base on stands, but for a block that is none of the tree's. -/
theorem OwnOAt.but (h : OwnOAt w base A ac t xs vs lo hi) (q : Nat) (hs : w.heap.size ≤ w'.heap.size) (hk : ∀ g, base ≤ g → g < w.heap.size → g ≠ q → w'.heap[g]? = w.heap[g]?) (hA : (Value.slice A t.args.length ac).ownBlock ≠ some q) (hS : ∀ i, i < t.args.length → ¬ Span (lo i) (hi i) q) : OwnOAt w' base A ac t xs vs lo hi :=
  ⟨h.name, h.len, own_keep4o h.parts.own (fun g hg => hk g (h.parts.own.lt g hg).1 (h.parts.own.lt g hg).2 (fun e => hA (by rw [hg, e]))), h.parts.cells, fun i hi' => ⟨(h.parts.low i hi').1, Nat.le_trans (h.parts.low i hi').2 hs⟩, h.parts.apart, h.parts.free,
    fun i hi' hik => (h.parts.kids i hi' hik).keep fun b hb hl => hk b (Nat.le_trans (h.parts.low i hik).1 hb.1) hl (fun e => hS i hik (by rw [← e]; exact hb))⟩
theorem OwnOAt.grown {p : Nat} (h : OwnOAt w base A ac t xs vs lo hi) (hg : w.grownBy w' (some p)) (hp : p < base) : OwnOAt w' base A ac t xs vs lo hi :=
  h.keep hg.size fun g h1 h2 => hg.block g h2 (fun e => by injection e with e; omega)
end
theorem OwnOAt.base {w : World} {base base0 ac : Nat} {A : Option Addr} {t : Ot} {xs : List Value} {vs : Nat → Value} {lo hi : Nat → Nat} (h : OwnOAt w base A ac t xs vs lo hi) (hb : base0 ≤ base) : OwnOAt w base0 A ac t xs vs lo hi := ⟨h.name, h.len, h.parts.base hb⟩
theorem OwnOt.owned {w : World} {base : Nat} {v : Value} {t : Ot} (h : OwnOt w base v t) : OtIn w (Span base w.heap.size) v t := by
  obtain ⟨A, ac, xs, vs, lo, hi, rfl, h1, h2, h3⟩ := h
  exact OtIn.of h1 (OGather.done ⟨xs, vs, lo, hi, h3⟩ h2) fun b hb => hb
theorem OwnOt.keep {w w' : World} {base : Nat} {v : Value} {t : Ot} (h : OwnOt w base v t) (hs : w.heap.size ≤ w'.heap.size) (hk : ∀ g, base ≤ g → g < w.heap.size → w'.heap[g]? = w.heap[g]?) : OwnOt w' base v t := by
  obtain ⟨A, ac, xs, vs, lo, hi, hv, h1⟩ := h
  exact ⟨A, ac, xs, vs, lo, hi, hv, h1.keep hs hk⟩
theorem OwnOt.base {w : World} {base base0 : Nat} {v : Value} {t : Ot} (h : OwnOt w base v t) (hb : base0 ≤ base) : OwnOt w base0 v t := by
  obtain ⟨A, ac, xs, vs, lo, hi, hv, h1⟩ := h
  exact ⟨A, ac, xs, vs, lo, hi, hv, h1.base hb⟩
theorem OwnOt.open {w : World} {base : Nat} {v : Value} {t : Ot} (h : OwnOt w base v t) : ∃ A ac, v = .agg #[.int .i64 t.kind, .string t.name, .int .i64 t.num, .slice A t.args.length ac] := by
  obtain ⟨A, ac, xs, vs, lo, hi, hv, _⟩ := h
  exact ⟨A, ac, hv⟩
theorem OwnOt.leaf (w : World) (base : Nat) (k n : Int) (nm : ByteArray) (hnm : nm.size ≤ maxLen) : OwnOt w base (.agg #[.int .i64 k, .string nm, .int .i64 n, .slice none 0 0]) (.mk k n nm []) := by
  obtain ⟨xs, vs, lo, hi, hg⟩ := OGather.start w base []
  exact ⟨none, 0, xs, vs, lo, hi, rfl, hnm, Nat.zero_le _, hg⟩
theorem OwnOt.of {w : World} {base ac k : Nat} {A : Option Addr} {t : Ot} (hnm : t.name.size ≤ maxLen) (hl : t.args.length ≤ maxLen) (hk : t.args.length = k) (hg : OGather w base (.slice A k ac) k t.args) : OwnOt w base (.agg #[.int .i64 t.kind, .string t.name, .int .i64 t.num, .slice A k ac]) t := by
  subst hk
  obtain ⟨xs, vs, lo, hi, hg⟩ := hg
  exact ⟨A, ac, xs, vs, lo, hi, rfl, hnm, hl, hg⟩
theorem newsO (w : World) (t : TypeId) (a b c d : Value) (h1 : a.oneCell' = true := by rfl) (h2 : b.oneCell' = true := by rfl) (h3 : c.oneCell' = true := by rfl) (h4 : d.oneCell' = true := by rfl) :
    (∀ j u, [a, b, c, d][j]? = some u → (w.alloc (.cells #[a, b, c, d] t)).cell? ((⟨w.heap.size, 0, none⟩ : Addr).add j) = some u) ∧ ∀ u ∈ [a, b, c, d], u.oneCell' = true := by
  constructor
  · intro j u hj
    rw [WideShapes.add_plain, World.cell?_alloc_at _ _ _ _ rfl, Nat.zero_add]
    simpa using hj
  · intro u hu
    simp at hu
    rcases hu with rfl | rfl | rfl | rfl
    · exact h1
    · exact h2
    · exact h3
    · exact h4
theorem OGather.grown {w w' : World} {base k p : Nat} {v : Value} {ts : List Ot} (h : OGather w base v k ts) (hg : w.grownBy w' (some p)) (hp : p < base) : OGather w' base v k ts :=
  h.keep hg.size fun g h1 h2 => hg.block g h2 (fun e => by cases e; omega)

/-- One more tree is appended. -/
theorem OGatherAt.stepB {w w1 w3 : World} {base k g cap : Nat} {v a b c d : Value} {ts : List Ot} {xs : List Value} {vs : Nat → Value} {lo hi : Nat → Nat} (h : OGatherAt w base v k ts xs vs lo hi) (hs1 : w.heap.size ≤ w1.heap.size) (hb : ∀ q, base ≤ q → q < w.heap.size → w1.heap[q]? = w.heap[q]?) (hbase : base ≤ w.heap.size) (hk : k < ts.length)
    (ht : OtIn w1 (Span w.heap.size w1.heap.size) (.agg #[a, b, c, d]) ts[k]) (hown : w3.ownsRow base 26 4 (.slice (some ⟨g, 0, none⟩) (k + 1) cap) (k + 1) (xs ++ [a, b, c, d]))
    (hg : (w1.alloc (.cells #[a, b, c, d] 26)).grownBy w3 v.ownBlock) (hat : v.ownBlock = some g ∨ g = w1.heap.size + 1) : OGather w3 base (.slice (some ⟨g, 0, none⟩) (k + 1) cap) (k + 1) ts := by
  have hs3 : w1.heap.size + 1 ≤ w3.heap.size := by have := hg.size; simp at this; exact this
  have hxl : xs.length = k * 4 := h.own.1
  have hkeep : ∀ q, q < w1.heap.size → v.ownBlock ≠ some q → w3.heap[q]? = w1.heap[q]? := fun q hq hne =>
    (hg.block q (by simp; omega) (fun e => hne e.symm)).trans (Below.heap_alloc _ _ _ hq)
  refine ⟨xs ++ [a, b, c, d], fun i => if i = k then .agg #[a, b, c, d] else vs i, fun i => if i = k then w.heap.size else lo i, fun i => if i = k then w1.heap.size else hi i, hown, fun i hi' j hj => ?_, fun i hi' => ?_, fun i j hij hj => ?_, fun i hi' q hq => ?_, fun i hi' hik => ?_⟩
  · by_cases ek : i = k
    · subst ek
      rw [if_pos rfl, List.getElem?_append_right (by omega), hxl]
      have : j = 0 ∨ j = 1 ∨ j = 2 ∨ j = 3 := by omega
      rcases this with rfl | rfl | rfl | rfl
      · simp [partAt]
      · simp [partAt]
      · simp [partAt]
      · simp [partAt]
    · rw [if_neg ek, List.getElem?_append_left (by omega)]
      exact h.cells i (by omega) j hj
  · by_cases ek : i = k
    · rw [if_pos ek, if_pos ek]
      omega
    · rw [if_neg ek, if_neg ek]
      have := h.low i (by omega)
      omega
  · rw [if_neg (show i ≠ k by omega)]
    by_cases ek : j = k
    · rw [if_pos ek]
      exact (h.low i (by omega)).2
    · rw [if_neg ek]
      exact h.apart i j hij (by omega)
  · have hqg : q = g := (Option.some.inj hq).symm
    subst hqg
    by_cases ek : i = k
    · rw [if_pos ek, if_pos ek]
      intro hs
      have a1 := hs.1
      have a2 := hs.2
      rcases hat with hat | hat
      · have := (h.own.lt q hat).2
        omega
      · omega
    · rw [if_neg ek, if_neg ek]
      rcases hat with hat | hat
      · exact h.free i (by omega) q hat
      · intro hs
        have := hs.2
        have := (h.low i (by omega)).2
        omega
  · by_cases ek : i = k
    · subst ek
      rw [if_pos rfl, if_pos rfl, if_pos rfl]
      refine ht.keep fun q hq _ => hkeep q hq.2 fun hv => ?_
      have := (h.own.lt q hv).2
      have := hq.1
      omega
    · rw [if_neg ek, if_neg ek, if_neg ek]
      refine (h.kids i hi' (by omega)).keep fun q hq hql => ?_
      rw [hkeep q (by omega) fun hv => h.free i (by omega) q hv hq]
      exact hb q (by have := (h.low i (by omega)).1; have := hq.1; omega) hql


/-- The draw of a part is appended to the parts of the value under way. -/
theorem odraw_rel {w wc wr w1 w3 : World} {p po k g cap : Nat} {A2 : Option Addr} {c2 : Nat} {ts : List Ot} {u : Ot} {xs : List Value} {vs : Nat → Value} {lo hi : Nat → Nat} {a b c d : Value} {x0 x1 x2 : Value} {B : Nat} (hk : k = ts.length) (hol : po < wc.heap.size) (hpo : w.heap.size ≤ po) (hpw : p < w.heap.size) (hsz : wc.heap.size ≤ wr.heap.size)
    (hG : OGatherAt wr wc.heap.size (.slice A2 k c2) k ts xs vs lo hi) (hb1 : wr.grownBy w1 (some p)) (hc1 : CurAt w1 B p) (ht : OtIn w1 (Span wr.heap.size w1.heap.size) (.agg #[a, b, c, d]) u)
    (hown3 : w3.ownsRow wc.heap.size 26 4 (.slice (some ⟨g, 0, none⟩) (k + 1) cap) (k + 1) (xs ++ [a, b, c, d])) (hg3 : (w1.alloc (.cells #[a, b, c, d] 26)).grownBy w3 (Value.slice A2 k c2).ownBlock) (hat3 : (Value.slice A2 k c2).ownBlock = some g ∨ g = w1.heap.size + 1)
    (ho3 : Whole1 w3 po 26 #[x0, x1, x2, .slice A2 k c2]) (hold : ∀ q, q < wc.heap.size → q ≠ po → q ≠ p → wr.heap[q]? = wc.heap[q]?) (hb : w.grownBy wr (some p)) :
    Whole1 (w3.setCell ⟨po, 3, none⟩ (.slice (some ⟨g, 0, none⟩) (k + 1) cap)) po 26 #[x0, x1, x2, .slice (some ⟨g, 0, none⟩) (k + 1) cap] ∧ OGather (w3.setCell ⟨po, 3, none⟩ (.slice (some ⟨g, 0, none⟩) (k + 1) cap)) wc.heap.size (.slice (some ⟨g, 0, none⟩) (k + 1) cap) (k + 1) (ts ++ [u]) ∧
      (∀ q, q < wc.heap.size → q ≠ po → q ≠ p → (w3.setCell ⟨po, 3, none⟩ (.slice (some ⟨g, 0, none⟩) (k + 1) cap)).heap[q]? = wc.heap[q]?) ∧ CurAt (w3.setCell ⟨po, 3, none⟩ (.slice (some ⟨g, 0, none⟩) (k + 1) cap)) B p ∧ w.grownBy (w3.setCell ⟨po, 3, none⟩ (.slice (some ⟨g, 0, none⟩) (k + 1) cap)) (some p) ∧ wc.heap.size ≤ (w3.setCell ⟨po, 3, none⟩ (.slice (some ⟨g, 0, none⟩) (k + 1) cap)).heap.size := by
  have hs1 := hb1.size
  have hs3 := hg3.size
  simp only [World.size_alloc] at hs3
  have hw0 := hb.size
  have hvb := fun q (hq : (Value.slice A2 k c2).ownBlock = some q) => (hG.own.lt q hq)
  have hG1 : OGatherAt wr wc.heap.size (.slice A2 k c2) k (ts ++ [u]) xs vs lo hi := ⟨hG.own, hG.cells, hG.low, hG.apart, hG.free, fun i hi' hik => by
    rw [List.getElem_append_left (by omega)]
    exact hG.kids i (by omega) hik⟩
  -- the cursor's block apart, the call's world is one in which all stands
  have hst : OGather w3 wc.heap.size (.slice (some ⟨g, 0, none⟩) (k + 1) cap) (k + 1) (ts ++ [u]) := OGatherAt.stepB hG1 hs1 (fun q h1 h2 => hb1.block q h2 (fun e => by cases e; omega)) hsz (by simp [hk]) (by simpa [hk] using ht) hown3 hg3 hat3
  have hgp : w.grownBy w3 (some p) := grown_ownO (grown_allocO (only_trans hb hb1) _) hg3 (fun q hq => by have := (hvb q hq).1; omega)
  have hcB : Below (p + 1) w1 w3 := ⟨hg3.os, hg3.tape, hg3.output, by omega, fun q hq => (hg3.block q (by simp; omega) (fun e => by have := (hvb q e.symm).1; omega)).trans (Below.heap_alloc _ _ _ (by omega))⟩
  have hcS := hcB.setCell (p := ⟨po, 3, none⟩) (show p + 1 ≤ po by omega) (.slice (some ⟨g, 0, none⟩) (k + 1) cap)
  refine ⟨ho3.set 3 _, hst.set hol, fun q hq hqp hqq => ?_, hc1.belowO hcS (by omega), grown_setO hgp hpo _ _, ?_⟩
  · rw [Below.heap_setCell _ _ _ _ hqp, hg3.block q (by simp; omega) (fun e => by have := (hvb q e.symm).1; omega), Below.heap_alloc _ _ _ (by omega), hb1.block q (by omega) (fun e => by cases e; exact hqq rfl)]
    exact hold q hq hqp hqq
  · show wc.heap.size ≤ (w3.setCell _ _).heap.size
    simp [World.setCell]
    omega


/-- An optic of its own, of size n at most, is handed back; only the cursor, and what is new, has turned. -/
def DrawnOt (w : World) (B p n : Nat) (e : Ending) (w' : World) : Prop :=
  (∃ v t, e = .returned v ∧ OwnOt w' w.heap.size v t ∧ szOt t ≤ n) ∧ CurAt w' B p ∧ w.grownBy w' (some p)
/-- The result's box is w.heap.size. -/
theorem drawnO_fin0 {w w3 : World} {B p n : Nat} {v : Value} {t : Ot} (h : OwnOt w3 (w.heap.size + 1) v t) (hn : szOt t ≤ n) (hc : CurAt w3 B p) (hp : p < w.heap.size) (hg : w.grownBy w3 (some p)) (a b c d : Value) :
    DrawnOt w B p n (.returned v) ((((w3.setCell ⟨w.heap.size, 0, none⟩ a).setCell ⟨w.heap.size, 1, none⟩ b).setCell ⟨w.heap.size, 2, none⟩ c).setCell ⟨w.heap.size, 3, none⟩ d) := by
  have hb : Below w.heap.size w3 ((((w3.setCell ⟨w.heap.size, 0, none⟩ a).setCell ⟨w.heap.size, 1, none⟩ b).setCell ⟨w.heap.size, 2, none⟩ c).setCell ⟨w.heap.size, 3, none⟩ d) := ((((Below.refl w.heap.size w3).setCell (by simp) _).setCell (by simp) _).setCell (by simp) _).setCell (by simp) _
  have hk : ∀ g, g ≠ w.heap.size → ((((w3.setCell ⟨w.heap.size, 0, none⟩ a).setCell ⟨w.heap.size, 1, none⟩ b).setCell ⟨w.heap.size, 2, none⟩ c).setCell ⟨w.heap.size, 3, none⟩ d).heap[g]? = w3.heap[g]? := fun g hg => by
    rw [Below.heap_setCell _ _ _ _ hg, Below.heap_setCell _ _ _ _ hg, Below.heap_setCell _ _ _ _ hg, Below.heap_setCell _ _ _ _ hg]
  exact ⟨⟨v, t, rfl, (h.keep hb.size (fun g h1 _ => hk g (by omega))).base (by omega), hn⟩, hc.belowO hb hp, ⟨hb.os.trans hg.os, hb.tape.trans hg.tape, hb.output.trans hg.output, Nat.le_trans hg.size hb.size, fun i hi hne => (hk i (by omega)).trans (hg.block i hi hne)⟩⟩
theorem szOt_root (t : Ot) (k n : Int) (nm : ByteArray) : szOt (.mk k n nm t.args) + t.name.size = szOt t + nm.size := by
  cases t
  simp only [szOt, Ot.args, Ot.name]
  omega

end Go.Proofs.Ytceclhndagoddaa
