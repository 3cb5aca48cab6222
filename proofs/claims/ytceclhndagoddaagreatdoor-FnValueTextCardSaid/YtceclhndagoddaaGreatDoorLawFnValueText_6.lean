/- Lemmas: Grow, VGrow, Nums, Smalls, SzTy, SzVa, EqVa. -/
import Derived.Test.YtceclhndagoddaaGreatDoorLawFnValueText_5
import Derived.Test.YtceclhndagoddaaGreatDoorLawFnValueText_3
import Derived.Test.YtceclhndagoddaaGreatDoorProg
import Derived.Test.YtceclhndagoddaaGreatDoorLawFnValueText_2
import Derived.Outline
import Derived.Test.YtceclhndagoddaaGreatDoorLawFnValueText_4
import Derived.Deep.RegionHeld3

section
namespace Go.Proofs.YtceclhndagoddaaGreatDoor
open Go.RowKit

/-- OwnTy, with all that it speaks of named. -/
structure OwnAt (w : World) (base : Nat) (L : Option Addr) (lc : Nat) (A : Option Addr) (ac : Nat) (t : Ty) (xs : List Value) (vs : Nat → Value) (lo hi : Nat → Nat) : Prop where
  size : ∀ i, (h : i < t.labels.length) → t.labels[i].size ≤ maxLen
  len : t.args.length ≤ maxLen
  row : w.ownsRow base 9 1 (.slice L t.labels.length lc) t.labels.length (strVals t.labels)
  parts : GatherAt w base (.slice A t.args.length ac) t.args.length t.args xs vs lo hi
  far : ∀ gl, L = some ⟨gl, 0, none⟩ → A ≠ some ⟨gl, 0, none⟩ ∧ ∀ i, i < t.args.length → ¬ Span (lo i) (hi i) gl
theorem OwnTy.named {w : World} {base : Nat} {v : Value} {t : Ty} (h : OwnTy w base v t) : ∃ L lc A ac xs vs lo hi, v = .agg #[.int .i64 t.kind, .slice L t.labels.length lc, .slice A t.args.length ac] ∧ OwnAt w base L lc A ac t xs vs lo hi := by
  obtain ⟨L, lc, A, ac, xs, vs, lo, hi, hv, h1, h2, h3, h4, h5⟩ := h
  exact ⟨L, lc, A, ac, xs, vs, lo, hi, hv, h1, h2, h3, h4, h5⟩

section
variable {w w' : World} {base lc ac : Nat} {L A : Option Addr} {t : Ty} {xs : List Value} {vs : Nat → Value} {lo hi : Nat → Nat}

theorem OwnAt.own (h : OwnAt w base L lc A ac t xs vs lo hi) : OwnTy w base (.agg #[.int .i64 t.kind, .slice L t.labels.length lc, .slice A t.args.length ac]) t :=
  ⟨L, lc, A, ac, xs, vs, lo, hi, rfl, h.size, h.len, h.row, h.parts, h.far⟩
theorem OwnAt.kind (h : OwnAt w base L lc A ac t xs vs lo hi) (k : Int) : OwnAt w base L lc A ac (.mk k t.labels t.args) xs vs lo hi :=
  ⟨h.size, h.len, h.row, h.parts, h.far⟩
/-- Only the two rows' own blocks and the parts' count. -/
theorem OwnAt.keep (h : OwnAt w base L lc A ac t xs vs lo hi) (hs : w.heap.size ≤ w'.heap.size) (hL : ∀ g, (Value.slice L t.labels.length lc).ownBlock = some g → g < w.heap.size → w'.heap[g]? = w.heap[g]?) (hA : ∀ g, (Value.slice A t.args.length ac).ownBlock = some g → g < w.heap.size → w'.heap[g]? = w.heap[g]?)
    (hS : ∀ i, i < t.args.length → ∀ b, Span (lo i) (hi i) b → b < w.heap.size → w'.heap[b]? = w.heap[b]?) : OwnAt w' base L lc A ac t xs vs lo hi :=
  ⟨h.size, h.len, own_keep1 h.row fun g hg => hL g hg (h.row.lt g hg).2,
    ⟨own_keep h.parts.own fun g hg => hA g hg (h.parts.own.lt g hg).2, h.parts.cells, fun i hi' => ⟨(h.parts.low i hi').1, Nat.le_trans (h.parts.low i hi').2 hs⟩, h.parts.apart, h.parts.free, fun i hi' hik => (h.parts.kids i hi' hik).keep fun b hb hbl => hS i hik b hb hbl⟩, h.far⟩
/-- What lies from base on stands, but for a block that is none of the tree's. -/
theorem OwnAt.but (h : OwnAt w base L lc A ac t xs vs lo hi) (q : Nat) (hs : w.heap.size ≤ w'.heap.size) (hk : ∀ g, base ≤ g → g < w.heap.size → g ≠ q → w'.heap[g]? = w.heap[g]?) (hL : (Value.slice L t.labels.length lc).ownBlock ≠ some q) (hA : (Value.slice A t.args.length ac).ownBlock ≠ some q) (hS : ∀ i, i < t.args.length → ¬ Span (lo i) (hi i) q) : OwnAt w' base L lc A ac t xs vs lo hi :=
  h.keep hs (fun g hg hl => hk g (h.row.lt g hg).1 hl (fun e => hL (by rw [hg, e]))) (fun g hg hl => hk g (h.parts.own.lt g hg).1 hl (fun e => hA (by rw [hg, e]))) (fun i hi' b hb hl => hk b (Nat.le_trans (h.parts.low i hi').1 hb.1) hl (fun e => hS i hi' (by rw [← e]; exact hb)))

theorem own_addr {n k : Nat} {A : Option Addr} {c sz : Nat} {e : TypeId} {ys : List Value} (h : w.ownsRow base e sz (.slice A n c) k ys) (g : Nat) (hg : (Value.slice A n c).ownBlock = some g) : A = some ⟨g, 0, none⟩ := by
  rcases h.2 with ⟨h1, _⟩ | ⟨g', cap, cur, h1, _⟩
  · injection h1 with e1
    subst e1
    cases hg
  · injection h1 with e1
    subst e1
    cases hg
    rfl

/-- A label is appended. -/
theorem OwnAt.label {w3 : World} {g cap : Nat} (h : OwnAt w base L lc A ac t xs vs lo hi) (s : ByteArray) (hz : s.size ≤ maxLen) (hown : w3.ownsRow base 9 1 (.slice (some ⟨g, 0, none⟩) (t.labels.length + 1) cap) (t.labels.length + 1) (strVals t.labels ++ [.string s]))
    (hgr : w.grownBy w3 (Value.slice L t.labels.length lc).ownBlock) (hat : (Value.slice L t.labels.length lc).ownBlock = some g ∨ w.heap.size ≤ g) : OwnAt w3 base (some ⟨g, 0, none⟩) cap A ac (.mk t.kind (t.labels ++ [s]) t.args) xs vs lo hi := by
  have hAL : ∀ q, (Value.slice A t.args.length ac).ownBlock = some q → (Value.slice L t.labels.length lc).ownBlock ≠ some q := fun q hq e => (h.far q (own_addr h.row q e)).1 (own_addr h.parts.own q hq)
  have hSL : ∀ i, i < t.args.length → ∀ b, Span (lo i) (hi i) b → (Value.slice L t.labels.length lc).ownBlock ≠ some b := fun i hi' b hb e => (h.far b (own_addr h.row b e)).2 i hi' hb
  refine ⟨fun i hi' => ?_, h.len, ?_, ⟨own_keep h.parts.own fun q hq => hgr.block q (h.parts.own.lt q hq).2 (fun e => hAL q hq e.symm), h.parts.cells, fun i hi' => ⟨(h.parts.low i hi').1, Nat.le_trans (h.parts.low i hi').2 hgr.size⟩, h.parts.apart, h.parts.free, fun i hi' hik => (h.parts.kids i hi' hik).keep fun b hb hbl => hgr.block b hbl (fun e => hSL i hik b hb e.symm)⟩, fun gl hgl => ?_⟩
  · have key : ∀ j, (hj : j < (t.labels ++ [s]).length) → (t.labels ++ [s])[j].size ≤ maxLen := fun j hj => by
      by_cases e : j < t.labels.length
      · rw [List.getElem_append_left e]
        exact h.size j e
      · rw [List.getElem_append_right (by omega)]
        simp
        exact hz
    exact key i hi'
  · show w3.ownsRow base _ 1 (.slice _ (t.labels ++ [s]).length cap) (t.labels ++ [s]).length (strVals (t.labels ++ [s]))
    have e1 : (t.labels ++ [s]).length = t.labels.length + 1 := by simp
    have e2 : strVals (t.labels ++ [s]) = strVals t.labels ++ [.string s] := by simp [strVals]
    rw [e1, e2]
    exact hown
  · have e : g = gl := by injection hgl with e; injection e
    subst e
    rcases hat with hat | hat
    · exact h.far g (own_addr h.row g hat)
    · refine ⟨fun e => ?_, fun i hi' hb => ?_⟩
      · have := (h.parts.own.lt g (by rw [e]; rfl)).2
        omega
      · have := (h.parts.low i hi').2
        have := hb.2
        omega
end

/-- One more tree is appended. -/
theorem GatherAt.stepAt {w w1 w3 : World} {base k g cap : Nat} {v a b c : Value} {ts : List Ty} {xs : List Value} {vs : Nat → Value} {lo hi : Nat → Nat} (h : GatherAt w base v k ts xs vs lo hi) (hb : Below w.heap.size w w1) (hbase : base ≤ w.heap.size) (hk : k < ts.length)
    (ht : TyIn w1 (Span w.heap.size w1.heap.size) (.agg #[a, b, c]) ts[k]) (hown : w3.ownsRow base 58 3 (.slice (some ⟨g, 0, none⟩) (k + 1) cap) (k + 1) (xs ++ [a, b, c]))
    (hg : (w1.alloc (.cells #[a, b, c] 58)).grownBy w3 v.ownBlock) (hat : v.ownBlock = some g ∨ g = w1.heap.size + 1) : GatherAt w3 base (.slice (some ⟨g, 0, none⟩) (k + 1) cap) (k + 1) ts (xs ++ [a, b, c]) (fun i => if i = k then .agg #[a, b, c] else vs i) (fun i => if i = k then w.heap.size else lo i) (fun i => if i = k then w1.heap.size else hi i) := by
  have hs1 := hb.size
  have hs3 : w1.heap.size + 1 ≤ w3.heap.size := by have := hg.size; simp at this; exact this
  have hxl : xs.length = k * 3 := h.own.1
  have hkeep : ∀ q, q < w1.heap.size → v.ownBlock ≠ some q → w3.heap[q]? = w1.heap[q]? := fun q hq hne =>
    (hg.block q (by simp; omega) (fun e => hne e.symm)).trans (Below.heap_alloc _ _ _ hq)
  refine ⟨hown, fun i hi' j hj => ?_, fun i hi' => ?_, fun i j hij hj => ?_, fun i hi' q hq => ?_, fun i hi' hik => ?_⟩
  · by_cases e : i = k
    · subst e
      rw [if_pos rfl, List.getElem?_append_right (by omega), hxl]
      have : j = 0 ∨ j = 1 ∨ j = 2 := by omega
      rcases this with rfl | rfl | rfl
      · simp [partAt]
      · simp [partAt]
      · simp [partAt]
    · rw [if_neg e, List.getElem?_append_left (by omega)]
      exact h.cells i (by omega) j hj
  · by_cases e : i = k
    · rw [if_pos e, if_pos e]
      omega
    · rw [if_neg e, if_neg e]
      have := h.low i (by omega)
      omega
  · rw [if_neg (show i ≠ k by omega)]
    by_cases e : j = k
    · rw [if_pos e]
      exact (h.low i (by omega)).2
    · rw [if_neg e]
      exact h.apart i j hij (by omega)
  · have hqg : q = g := (Option.some.inj hq).symm
    subst hqg
    by_cases e : i = k
    · rw [if_pos e, if_pos e]
      intro hs
      have a1 := hs.1
      have a2 := hs.2
      rcases hat with hat | hat
      · have := (h.own.lt q hat).2
        omega
      · omega
    · rw [if_neg e, if_neg e]
      rcases hat with hat | hat
      · exact h.free i (by omega) q hat
      · intro hs
        have := hs.2
        have := (h.low i (by omega)).2
        omega
  · by_cases e : i = k
    · subst e
      rw [if_pos rfl, if_pos rfl, if_pos rfl]
      refine ht.keep fun q hq _ => hkeep q hq.2 fun hv => ?_
      have := (h.own.lt q hv).2
      have := hq.1
      omega
    · rw [if_neg e, if_neg e, if_neg e]
      refine (h.kids i hi' (by omega)).keep fun q hq hql => ?_
      rw [hkeep q (by omega) fun hv => h.free i (by omega) q hv hq]
      exact hb.block q hql

/-- A part is appended. -/
theorem OwnAt.arg {w w1 w3 : World} {base lc ac : Nat} {L A : Option Addr} {t : Ty} {xs : List Value} {vs : Nat → Value} {lo hi : Nat → Nat} {g cap : Nat} {a b c : Value} (h : OwnAt w base L lc A ac t xs vs lo hi) (u : Ty) (hb : Below w.heap.size w w1) (hbase : base ≤ w.heap.size) (hm : t.args.length + 1 ≤ maxLen)
    (hu : TyIn w1 (Span w.heap.size w1.heap.size) (.agg #[a, b, c]) u) (hown : w3.ownsRow base 58 3 (.slice (some ⟨g, 0, none⟩) (t.args.length + 1) cap) (t.args.length + 1) (xs ++ [a, b, c]))
    (hg : (w1.alloc (.cells #[a, b, c] 58)).grownBy w3 (Value.slice A t.args.length ac).ownBlock) (hat : (Value.slice A t.args.length ac).ownBlock = some g ∨ g = w1.heap.size + 1) :
    OwnAt w3 base L lc (some ⟨g, 0, none⟩) cap (.mk t.kind t.labels (t.args ++ [u])) (xs ++ [a, b, c]) (fun i => if i = t.args.length then .agg #[a, b, c] else vs i) (fun i => if i = t.args.length then w.heap.size else lo i) (fun i => if i = t.args.length then w1.heap.size else hi i) := by
  have hs1 := hb.size
  have e1 : (t.args ++ [u]).length = t.args.length + 1 := by simp
  have hp : GatherAt w base (.slice A t.args.length ac) t.args.length (t.args ++ [u]) xs vs lo hi :=
    ⟨h.parts.own, h.parts.cells, h.parts.low, h.parts.apart, h.parts.free, fun i hi' hik => by rw [List.getElem_append_left hik]; exact h.parts.kids i hik hik⟩
  have hst := hp.stepAt hb hbase (by simp) (by simpa using hu) hown hg hat
  have hL : ∀ q, (Value.slice L t.labels.length lc).ownBlock = some q → w3.heap[q]? = w.heap[q]? := fun q hq => by
    have hql := (h.row.lt q hq).2
    have hne : (Value.slice A t.args.length ac).ownBlock ≠ some q := fun e => (h.far q (own_addr h.row q hq)).1 (own_addr h.parts.own q e)
    exact ((hg.block q (by simp; omega) (fun e => hne e.symm)).trans (Below.heap_alloc _ _ _ (by omega))).trans (hb.block q hql)
  refine ⟨h.size, by show (t.args ++ [u]).length ≤ maxLen; omega, own_keep1 h.row hL, ?_, fun gl hgl => ?_⟩
  · show GatherAt w3 base (.slice _ (t.args ++ [u]).length cap) (t.args ++ [u]).length (t.args ++ [u]) _ _ _ _
    rw [e1]
    exact hst
  · have hlt : gl < w.heap.size := (h.row.lt gl (by rw [hgl]; rfl)).2
    refine ⟨fun e => ?_, fun i hi' hsp => ?_⟩
    · have eg : g = gl := by injection e with e; injection e
      subst eg
      rcases hat with hat | hat
      · exact (h.far g hgl).1 (own_addr h.parts.own g hat)
      · omega
    · have hi2 : i < t.args.length + 1 := by rw [← e1]; exact hi'
      by_cases e : i = t.args.length
      · simp only [e, if_true] at hsp
        have := hsp.1
        omega
      · simp only [e, if_false] at hsp
        exact (h.far gl hgl).2 i (by omega) hsp

theorem OwnAt.grown {w w' : World} {base lc ac p : Nat} {L A : Option Addr} {t : Ty} {xs : List Value} {vs : Nat → Value} {lo hi : Nat → Nat} (h : OwnAt w base L lc A ac t xs vs lo hi) (hg : w.grownBy w' (some p)) (hp : p < base) : OwnAt w' base L lc A ac t xs vs lo hi :=
  h.but p hg.size (fun g _ hl hne => hg.block g hl (fun e => by injection e with e; exact hne e)) (fun e => by have := (h.row.lt p e).1; omega) (fun e => by have := (h.parts.own.lt p e).1; omega) (fun i hi' hb => by have := (h.parts.low i hi').1; have := hb.1; omega)

theorem grown_low {w w4 w5 : World} {p b : Nat} (hg : w.grownBy w4 (some p)) (hb : Below b w4 w5) (h : w.heap.size ≤ b) : w.grownBy w5 (some p) :=
  ⟨hb.os.trans hg.os, hb.tape.trans hg.tape, hb.output.trans hg.output, Nat.le_trans hg.size hb.size, fun i hi hne => (hb.block i (by omega)).trans (hg.block i hi hne)⟩
theorem news1 (w : World) (t : TypeId) (a : Value) (h : a.oneCell' = true) : (∀ j u, [a][j]? = some u → (w.alloc (.cells #[a] t)).cell? ((⟨w.heap.size, 0, none⟩ : Addr).add j) = some u) ∧ ∀ u ∈ [a], u.oneCell' = true :=
  ⟨World.news_of_block (cs := #[a]) (Whole1.new w t #[a]), fun u hu => by simp at hu; subst hu; exact h⟩
theorem sz_label (t : Ty) (s : ByteArray) : szTy (.mk t.kind (t.labels ++ [s]) t.args) = szTy t + 1 + s.size := by
  cases t
  simp [szTy, sumSizes, Ty.labels, Ty.args]
  omega
theorem sz_arg (t u : Ty) : szTy (.mk t.kind t.labels (t.args ++ [u])) = szTy t + 1 + szTy u := by
  cases t
  simp [szTy, Ty.labels, Ty.args, szTys_append, szTys]
  omega

theorem span_snoc {lo hi : Nat → Nat} {ts : List Ty} {u : Ty} {z a b : Nat} {k : Int} {ls : List ByteArray} (h : ∀ i, i < ts.length → ¬ Span (lo i) (hi i) z) (hz : z < a) : ∀ i, i < (Ty.mk k ls (ts ++ [u])).args.length → ¬ Span ((fun i => if i = ts.length then a else lo i) i) ((fun i => if i = ts.length then b else hi i) i) z := fun i hi' hsp => by
  have h1 : i < (ts ++ [u]).length := hi'
  rw [List.length_append, List.length_singleton] at h1
  by_cases e : i = ts.length
  · simp only [e, if_true] at hsp
    have := hsp.1
    omega
  · simp only [e, if_false] at hsp
    exact h i (by omega) hsp

theorem box_grown {w w3 : World} {p z : Nat} (hg : w.grownBy w3 (some p)) (hz : w.heap.size ≤ z) (a b c : Value) : w.grownBy (((w3.setCell ⟨z, 0, none⟩ a).setCell ⟨z, 1, none⟩ b).setCell ⟨z, 2, none⟩ c) (some p) := by
  have hb : Below w.heap.size w3 (((w3.setCell ⟨z, 0, none⟩ a).setCell ⟨z, 1, none⟩ b).setCell ⟨z, 2, none⟩ c) := (((Below.refl w.heap.size w3).setCell hz _).setCell hz _).setCell hz _
  exact ⟨hb.os.trans hg.os, hb.tape.trans hg.tape, hb.output.trans hg.output, Nat.le_trans hg.size hb.size, fun i hi hne => (hb.block i hi).trans (hg.block i hi hne)⟩


end Go.Proofs.YtceclhndagoddaaGreatDoor
end

section
namespace Go.Proofs.YtceclhndagoddaaGreatDoor
open Go.RowKit

theorem VGatherAt.base {w : World} {base base' k : Nat} {v : Value} {ts : List Va} {xs : List Value} {vs : Nat → Value} {lo hi : Nat → Nat} (h : VGatherAt w base' v k ts xs vs lo hi) (hb : base ≤ base') : VGatherAt w base v k ts xs vs lo hi :=
  ⟨own_base h.own hb, h.cells, fun i hi' => ⟨Nat.le_trans hb (h.low i hi').1, (h.low i hi').2⟩, h.apart, h.free, h.kids⟩

/-- The value reads as the tree; its root's slices are rows from base on, apart from each other and from the parts. -/
def OwnVa (w : World) (base : Nat) (v : Value) (t : Va) : Prop :=
  ∃ L lc A ac xs vs lo hi, v = .agg #[.int .i64 t.kind, .int .i64 t.num, .string t.name, .slice L t.labels.length lc, .slice A t.args.length ac] ∧ t.name.size ≤ maxLen ∧ (∀ i, (h : i < t.labels.length) → t.labels[i].size ≤ maxLen) ∧ t.args.length ≤ maxLen ∧
    w.ownsRow base 9 1 (.slice L t.labels.length lc) t.labels.length (strVals t.labels) ∧ VGatherAt w base (.slice A t.args.length ac) t.args.length t.args xs vs lo hi ∧
    ∀ gl, L = some ⟨gl, 0, none⟩ → A ≠ some ⟨gl, 0, none⟩ ∧ ∀ i, i < t.args.length → ¬ Span (lo i) (hi i) gl

theorem OwnVa.owned {w : World} {base : Nat} {v : Value} {t : Va} (h : OwnVa w base v t) : VaIn w (Span base w.heap.size) v t := by
  obtain ⟨L, lc, A, ac, xs, vs, lo, hi, rfl, hnm, hz, hm, hl, hg, hap⟩ := h
  have hn := own_len hl
  have hdone := VGather.done ⟨xs, vs, lo, hi, hg⟩ hm
  rcases RowStrs.of_own hl with ⟨h1, h2⟩ | ⟨g, cap, h1, h2, h3⟩
  · obtain ⟨hd0, ga, vs', Ss, d1, d2, d3, d4⟩ := hdone
    refine VaIn.of (gl := w.heap.size) hnm hn hz (.inl h2) (Sa := Span base w.heap.size) ⟨hd0, ga, vs', Ss, d1, d2, d3, d4⟩ fun b hb => ⟨hb, by have := hb.2; omega⟩
  · have e1 : L = some ⟨g, 0, none⟩ := by injection h1
    have hgl := h3.lt
    -- the parts, in the blocks but for the labels' own
    have hsub : VasIn w (fun b => Span base w.heap.size b ∧ b ≠ g) A t.args := by
      obtain ⟨hAg, hsp⟩ := hap g e1
      rcases hg.own.2 with ⟨_, k2⟩ | ⟨ga, cap2, cur, k1, k2, k3, k4, k5, k6, k7⟩
      · have ht : t.args = [] := List.length_eq_zero_iff.1 k2
        refine ⟨hm, 0, vs, fun _ _ => False, .inl ht, fun i hi => ?_, fun i _ hi => ?_, fun i hi => ?_⟩
        all_goals rw [ht] at hi; simp at hi
      · have e2 : A = some ⟨ga, 0, none⟩ := by injection k1
        have hgal := (hg.own.lt ga (by rw [e2]; rfl)).2
        refine ⟨hm, ga, vs, fun i => Span (lo i) (hi i), .inr ⟨e2, ⟨⟨k2, hgal⟩, fun e => hAg (by rw [e2, e])⟩, cur, k3, fun i hi' j hj => ?_⟩, fun i hi' b hb => ⟨⟨⟨?_, ?_⟩, fun e => hsp i hi' (by rw [← e]; exact hb)⟩, fun e => hg.free i hi' ga (by rw [e2]; rfl) (by rw [← e]; exact hb)⟩, ?_, fun i hi' => hg.kids i hi' hi'⟩
        · have hc := hg.cells i hi' j hj
          refine ⟨hc.1, ?_⟩
          rw [← hc.2, ← k7, List.getElem?_take, if_pos (by omega)]
          simp
        · have := (hg.low i hi').1
          have := hb.1
          omega
        · have := (hg.low i hi').2
          have := hb.2
          omega
        · intro i j hi' hj hne b hb hb'
          have := hb.1
          have := hb.2
          have := hb'.1
          have := hb'.2
          rcases Nat.lt_or_gt_of_ne hne with hlt | hlt
          · have := hg.apart i j hlt hj
            omega
          · have := hg.apart j i hlt hi'
            omega
    exact VaIn.of (gl := g) hnm hn hz (.inr ⟨e1, ⟨h2, hgl⟩, h3⟩) hsub fun b hb => hb

/-- Where the blocks from base on stand, the tree stands. -/
theorem OwnVa.keep {w w' : World} {base : Nat} {v : Value} {t : Va} (h : OwnVa w base v t) (hs : w.heap.size ≤ w'.heap.size) (hk : ∀ g, base ≤ g → g < w.heap.size → w'.heap[g]? = w.heap[g]?) : OwnVa w' base v t := by
  obtain ⟨L, lc, A, ac, xs, vs, lo, hi, hv, hnm, hz, hm, hl, hg, hap⟩ := h
  refine ⟨L, lc, A, ac, xs, vs, lo, hi, hv, hnm, hz, hm, ⟨hl.1, ?_⟩, hg.keep hs hk, hap⟩
  rcases hl.2 with h2 | ⟨g, cap, cur, h1, h2, h3, h4⟩
  · exact .inl h2
  · exact .inr ⟨g, cap, cur, h1, h2, (hk g h2 (Whole1.lt (t := 9) (cs := cur) h3)).trans h3, h4⟩
theorem OwnVa.base {w : World} {base base' : Nat} {v : Value} {t : Va} (h : OwnVa w base' v t) (hb : base ≤ base') : OwnVa w base v t := by
  obtain ⟨L, lc, A, ac, xs, vs, lo, hi, hv, hnm, hz, hm, hl, hg, hap⟩ := h
  exact ⟨L, lc, A, ac, xs, vs, lo, hi, hv, hnm, hz, hm, own_base hl hb, hg.base hb, hap⟩
theorem OwnVa.open {w : World} {base : Nat} {v : Value} {t : Va} (h : OwnVa w base v t) : ∃ L lc A ac, v = .agg #[.int .i64 t.kind, .int .i64 t.num, .string t.name, .slice L t.labels.length lc, .slice A t.args.length ac] := by
  obtain ⟨L, lc, A, ac, xs, vs, lo, hi, hv, _⟩ := h
  exact ⟨L, lc, A, ac, hv⟩

/-- Without labels and parts. -/
theorem OwnVa.leaf (w : World) (base : Nat) (k n : Int) (nm : ByteArray) (hnm : nm.size ≤ maxLen) : OwnVa w base (.agg #[.int .i64 k, .int .i64 n, .string nm, .slice none 0 0, .slice none 0 0]) (.mk k n nm [] []) := by
  obtain ⟨xs, vs, lo, hi, hg⟩ := VGather.start w base []
  exact ⟨none, 0, none, 0, xs, vs, lo, hi, rfl, hnm, fun i h => absurd h (by simp [Va.labels]), Nat.zero_le _, World.ownsRow_nil w base _ 1, hg, fun gl h => by cases h⟩


/-- OwnVa, with all that it speaks of named. -/
structure OwnVAt (w : World) (base : Nat) (L : Option Addr) (lc : Nat) (A : Option Addr) (ac : Nat) (t : Va) (xs : List Value) (vs : Nat → Value) (lo hi : Nat → Nat) : Prop where
  name : t.name.size ≤ maxLen
  size : ∀ i, (h : i < t.labels.length) → t.labels[i].size ≤ maxLen
  len : t.args.length ≤ maxLen
  row : w.ownsRow base 9 1 (.slice L t.labels.length lc) t.labels.length (strVals t.labels)
  parts : VGatherAt w base (.slice A t.args.length ac) t.args.length t.args xs vs lo hi
  far : ∀ gl, L = some ⟨gl, 0, none⟩ → A ≠ some ⟨gl, 0, none⟩ ∧ ∀ i, i < t.args.length → ¬ Span (lo i) (hi i) gl
theorem OwnVa.named {w : World} {base : Nat} {v : Value} {t : Va} (h : OwnVa w base v t) : ∃ L lc A ac xs vs lo hi, v = .agg #[.int .i64 t.kind, .int .i64 t.num, .string t.name, .slice L t.labels.length lc, .slice A t.args.length ac] ∧ OwnVAt w base L lc A ac t xs vs lo hi := by
  obtain ⟨L, lc, A, ac, xs, vs, lo, hi, hv, h0, h1, h2, h3, h4, h5⟩ := h
  exact ⟨L, lc, A, ac, xs, vs, lo, hi, hv, h0, h1, h2, h3, h4, h5⟩

section
variable {w w' : World} {base lc ac : Nat} {L A : Option Addr} {t : Va} {xs : List Value} {vs : Nat → Value} {lo hi : Nat → Nat}

theorem OwnVAt.own (h : OwnVAt w base L lc A ac t xs vs lo hi) : OwnVa w base (.agg #[.int .i64 t.kind, .int .i64 t.num, .string t.name, .slice L t.labels.length lc, .slice A t.args.length ac]) t :=
  ⟨L, lc, A, ac, xs, vs, lo, hi, rfl, h.name, h.size, h.len, h.row, h.parts, h.far⟩
theorem OwnVAt.root (h : OwnVAt w base L lc A ac t xs vs lo hi) (k n : Int) (nm : ByteArray) (hnm : nm.size ≤ maxLen) : OwnVAt w base L lc A ac (.mk k n nm t.labels t.args) xs vs lo hi :=
  ⟨hnm, h.size, h.len, h.row, h.parts, h.far⟩
/-- Only the two rows' own blocks and the parts' count. -/
theorem OwnVAt.keep (h : OwnVAt w base L lc A ac t xs vs lo hi) (hs : w.heap.size ≤ w'.heap.size) (hL : ∀ g, (Value.slice L t.labels.length lc).ownBlock = some g → g < w.heap.size → w'.heap[g]? = w.heap[g]?) (hA : ∀ g, (Value.slice A t.args.length ac).ownBlock = some g → g < w.heap.size → w'.heap[g]? = w.heap[g]?)
    (hS : ∀ i, i < t.args.length → ∀ b, Span (lo i) (hi i) b → b < w.heap.size → w'.heap[b]? = w.heap[b]?) : OwnVAt w' base L lc A ac t xs vs lo hi :=
  ⟨h.name, h.size, h.len, own_keep1 h.row fun g hg => hL g hg (h.row.lt g hg).2,
    ⟨own_keep5 h.parts.own fun g hg => hA g hg (h.parts.own.lt g hg).2, h.parts.cells, fun i hi' => ⟨(h.parts.low i hi').1, Nat.le_trans (h.parts.low i hi').2 hs⟩, h.parts.apart, h.parts.free, fun i hi' hik => (h.parts.kids i hi' hik).keep fun b hb hbl => hS i hik b hb hbl⟩, h.far⟩
/-- What lies from base on stands, but for a block that is none of the tree's. -/
theorem OwnVAt.but (h : OwnVAt w base L lc A ac t xs vs lo hi) (q : Nat) (hs : w.heap.size ≤ w'.heap.size) (hk : ∀ g, base ≤ g → g < w.heap.size → g ≠ q → w'.heap[g]? = w.heap[g]?) (hL : (Value.slice L t.labels.length lc).ownBlock ≠ some q) (hA : (Value.slice A t.args.length ac).ownBlock ≠ some q) (hS : ∀ i, i < t.args.length → ¬ Span (lo i) (hi i) q) : OwnVAt w' base L lc A ac t xs vs lo hi :=
  h.keep hs (fun g hg hl => hk g (h.row.lt g hg).1 hl (fun e => hL (by rw [hg, e]))) (fun g hg hl => hk g (h.parts.own.lt g hg).1 hl (fun e => hA (by rw [hg, e]))) (fun i hi' b hb hl => hk b (Nat.le_trans (h.parts.low i hi').1 hb.1) hl (fun e => hS i hi' (by rw [← e]; exact hb)))

/-- A label is appended. -/
theorem OwnVAt.label {w3 : World} {g cap : Nat} (h : OwnVAt w base L lc A ac t xs vs lo hi) (s : ByteArray) (hz : s.size ≤ maxLen) (hown : w3.ownsRow base 9 1 (.slice (some ⟨g, 0, none⟩) (t.labels.length + 1) cap) (t.labels.length + 1) (strVals t.labels ++ [.string s]))
    (hgr : w.grownBy w3 (Value.slice L t.labels.length lc).ownBlock) (hat : (Value.slice L t.labels.length lc).ownBlock = some g ∨ w.heap.size ≤ g) : OwnVAt w3 base (some ⟨g, 0, none⟩) cap A ac (.mk t.kind t.num t.name (t.labels ++ [s]) t.args) xs vs lo hi := by
  have hAL : ∀ q, (Value.slice A t.args.length ac).ownBlock = some q → (Value.slice L t.labels.length lc).ownBlock ≠ some q := fun q hq e => (h.far q (own_addr h.row q e)).1 (own_addr h.parts.own q hq)
  have hSL : ∀ i, i < t.args.length → ∀ b, Span (lo i) (hi i) b → (Value.slice L t.labels.length lc).ownBlock ≠ some b := fun i hi' b hb e => (h.far b (own_addr h.row b e)).2 i hi' hb
  refine ⟨h.name, fun i hi' => ?_, h.len, ?_, ⟨own_keep5 h.parts.own fun q hq => hgr.block q (h.parts.own.lt q hq).2 (fun e => hAL q hq e.symm), h.parts.cells, fun i hi' => ⟨(h.parts.low i hi').1, Nat.le_trans (h.parts.low i hi').2 hgr.size⟩, h.parts.apart, h.parts.free, fun i hi' hik => (h.parts.kids i hi' hik).keep fun b hb hbl => hgr.block b hbl (fun e => hSL i hik b hb e.symm)⟩, fun gl hgl => ?_⟩
  · have key : ∀ j, (hj : j < (t.labels ++ [s]).length) → (t.labels ++ [s])[j].size ≤ maxLen := fun j hj => by
      by_cases e : j < t.labels.length
      · rw [List.getElem_append_left e]
        exact h.size j e
      · rw [List.getElem_append_right (by omega)]
        simp
        exact hz
    exact key i hi'
  · show w3.ownsRow base _ 1 (.slice _ (t.labels ++ [s]).length cap) (t.labels ++ [s]).length (strVals (t.labels ++ [s]))
    have e1 : (t.labels ++ [s]).length = t.labels.length + 1 := by simp
    have e2 : strVals (t.labels ++ [s]) = strVals t.labels ++ [.string s] := by simp [strVals]
    rw [e1, e2]
    exact hown
  · have e : g = gl := by injection hgl with e; injection e
    subst e
    rcases hat with hat | hat
    · exact h.far g (own_addr h.row g hat)
    · refine ⟨fun e => ?_, fun i hi' hb => ?_⟩
      · have := (h.parts.own.lt g (by rw [e]; rfl)).2
        omega
      · have := (h.parts.low i hi').2
        have := hb.2
        omega
end

/-- One more tree is appended. -/
theorem VGatherAt.stepAt {w w1 w3 : World} {base k g cap : Nat} {v a b c d e : Value} {ts : List Va} {xs : List Value} {vs : Nat → Value} {lo hi : Nat → Nat} (h : VGatherAt w base v k ts xs vs lo hi) (hb : Below w.heap.size w w1) (hbase : base ≤ w.heap.size) (hk : k < ts.length)
    (ht : VaIn w1 (Span w.heap.size w1.heap.size) (.agg #[a, b, c, d, e]) ts[k]) (hown : w3.ownsRow base 27 5 (.slice (some ⟨g, 0, none⟩) (k + 1) cap) (k + 1) (xs ++ [a, b, c, d, e]))
    (hg : (w1.alloc (.cells #[a, b, c, d, e] 27)).grownBy w3 v.ownBlock) (hat : v.ownBlock = some g ∨ g = w1.heap.size + 1) : VGatherAt w3 base (.slice (some ⟨g, 0, none⟩) (k + 1) cap) (k + 1) ts (xs ++ [a, b, c, d, e]) (fun i => if i = k then .agg #[a, b, c, d, e] else vs i) (fun i => if i = k then w.heap.size else lo i) (fun i => if i = k then w1.heap.size else hi i) := by
  have hs1 := hb.size
  have hs3 : w1.heap.size + 1 ≤ w3.heap.size := by have := hg.size; simp at this; exact this
  have hxl : xs.length = k * 5 := h.own.1
  have hkeep : ∀ q, q < w1.heap.size → v.ownBlock ≠ some q → w3.heap[q]? = w1.heap[q]? := fun q hq hne =>
    (hg.block q (by simp; omega) (fun e => hne e.symm)).trans (Below.heap_alloc _ _ _ hq)
  refine ⟨hown, fun i hi' j hj => ?_, fun i hi' => ?_, fun i j hij hj => ?_, fun i hi' q hq => ?_, fun i hi' hik => ?_⟩
  · by_cases e0 : i = k
    · subst e0
      rw [if_pos rfl, List.getElem?_append_right (by omega), hxl]
      have : j = 0 ∨ j = 1 ∨ j = 2 ∨ j = 3 ∨ j = 4 := by omega
      rcases this with rfl | rfl | rfl | rfl | rfl
      · simp [partAt]
      · simp [partAt]
      · simp [partAt]
      · simp [partAt]
      · simp [partAt]
    · rw [if_neg e0, List.getElem?_append_left (by omega)]
      exact h.cells i (by omega) j hj
  · by_cases e0 : i = k
    · rw [if_pos e0, if_pos e0]
      omega
    · rw [if_neg e0, if_neg e0]
      have := h.low i (by omega)
      omega
  · rw [if_neg (show i ≠ k by omega)]
    by_cases e0 : j = k
    · rw [if_pos e0]
      exact (h.low i (by omega)).2
    · rw [if_neg e0]
      exact h.apart i j hij (by omega)
  · have hqg : q = g := (Option.some.inj hq).symm
    subst hqg
    by_cases e0 : i = k
    · rw [if_pos e0, if_pos e0]
      intro hs
      have a1 := hs.1
      have a2 := hs.2
      rcases hat with hat | hat
      · have := (h.own.lt q hat).2
        omega
      · omega
    · rw [if_neg e0, if_neg e0]
      rcases hat with hat | hat
      · exact h.free i (by omega) q hat
      · intro hs
        have := hs.2
        have := (h.low i (by omega)).2
        omega
  · by_cases e0 : i = k
    · subst e0
      rw [if_pos rfl, if_pos rfl, if_pos rfl]
      refine ht.keep fun q hq _ => hkeep q hq.2 fun hv => ?_
      have := (h.own.lt q hv).2
      have := hq.1
      omega
    · rw [if_neg e0, if_neg e0, if_neg e0]
      refine (h.kids i hi' (by omega)).keep fun q hq hql => ?_
      rw [hkeep q (by omega) fun hv => h.free i (by omega) q hv hq]
      exact hb.block q hql

/-- A part is appended. -/
theorem OwnVAt.arg {w w1 w3 : World} {base lc ac : Nat} {L A : Option Addr} {t : Va} {xs : List Value} {vs : Nat → Value} {lo hi : Nat → Nat} {g cap : Nat} {a b c d e : Value} (h : OwnVAt w base L lc A ac t xs vs lo hi) (u : Va) (hb : Below w.heap.size w w1) (hbase : base ≤ w.heap.size) (hm : t.args.length + 1 ≤ maxLen)
    (hu : VaIn w1 (Span w.heap.size w1.heap.size) (.agg #[a, b, c, d, e]) u) (hown : w3.ownsRow base 27 5 (.slice (some ⟨g, 0, none⟩) (t.args.length + 1) cap) (t.args.length + 1) (xs ++ [a, b, c, d, e]))
    (hg : (w1.alloc (.cells #[a, b, c, d, e] 27)).grownBy w3 (Value.slice A t.args.length ac).ownBlock) (hat : (Value.slice A t.args.length ac).ownBlock = some g ∨ g = w1.heap.size + 1) :
    OwnVAt w3 base L lc (some ⟨g, 0, none⟩) cap (.mk t.kind t.num t.name t.labels (t.args ++ [u])) (xs ++ [a, b, c, d, e]) (fun i => if i = t.args.length then .agg #[a, b, c, d, e] else vs i) (fun i => if i = t.args.length then w.heap.size else lo i) (fun i => if i = t.args.length then w1.heap.size else hi i) := by
  have hs1 := hb.size
  have e1 : (t.args ++ [u]).length = t.args.length + 1 := by simp
  have hp : VGatherAt w base (.slice A t.args.length ac) t.args.length (t.args ++ [u]) xs vs lo hi :=
    ⟨h.parts.own, h.parts.cells, h.parts.low, h.parts.apart, h.parts.free, fun i hi' hik => by rw [List.getElem_append_left hik]; exact h.parts.kids i hik hik⟩
  have hst := hp.stepAt hb hbase (by simp) (by simpa using hu) hown hg hat
  have hL : ∀ q, (Value.slice L t.labels.length lc).ownBlock = some q → w3.heap[q]? = w.heap[q]? := fun q hq => by
    have hql := (h.row.lt q hq).2
    have hne : (Value.slice A t.args.length ac).ownBlock ≠ some q := fun e => (h.far q (own_addr h.row q hq)).1 (own_addr h.parts.own q e)
    exact ((hg.block q (by simp; omega) (fun e => hne e.symm)).trans (Below.heap_alloc _ _ _ (by omega))).trans (hb.block q hql)
  refine ⟨h.name, h.size, by show (t.args ++ [u]).length ≤ maxLen; omega, own_keep1 h.row hL, ?_, fun gl hgl => ?_⟩
  · show VGatherAt w3 base (.slice _ (t.args ++ [u]).length cap) (t.args ++ [u]).length (t.args ++ [u]) _ _ _ _
    rw [e1]
    exact hst
  · have hlt : gl < w.heap.size := (h.row.lt gl (by rw [hgl]; rfl)).2
    refine ⟨fun e => ?_, fun i hi' hsp => ?_⟩
    · have eg : g = gl := by injection e with e; injection e
      subst eg
      rcases hat with hat | hat
      · exact (h.far g hgl).1 (own_addr h.parts.own g hat)
      · omega
    · have hi2 : i < t.args.length + 1 := by rw [← e1]; exact hi'
      by_cases e : i = t.args.length
      · simp only [e, if_true] at hsp
        have := hsp.1
        omega
      · simp only [e, if_false] at hsp
        exact (h.far gl hgl).2 i (by omega) hsp

theorem OwnVAt.grown {w w' : World} {base lc ac p : Nat} {L A : Option Addr} {t : Va} {xs : List Value} {vs : Nat → Value} {lo hi : Nat → Nat} (h : OwnVAt w base L lc A ac t xs vs lo hi) (hg : w.grownBy w' (some p)) (hp : p < base) : OwnVAt w' base L lc A ac t xs vs lo hi :=
  h.but p hg.size (fun g _ hl hne => hg.block g hl (fun e => by injection e with e; exact hne e)) (fun e => by have := (h.row.lt p e).1; omega) (fun e => by have := (h.parts.own.lt p e).1; omega) (fun i hi' hb => by have := (h.parts.low i hi').1; have := hb.1; omega)

theorem vsz_label (t : Va) (s : ByteArray) : szVa (.mk t.kind t.num t.name (t.labels ++ [s]) t.args) = szVa t + 1 + s.size := by
  cases t
  simp [szVa, sumSizes, Va.labels, Va.args, Va.name]
  omega
theorem vsz_arg (t u : Va) : szVa (.mk t.kind t.num t.name t.labels (t.args ++ [u])) = szVa t + 1 + szVa u := by
  cases t
  simp [szVa, Va.labels, Va.args, Va.name, szVas_append, szVas]
  omega


end Go.Proofs.YtceclhndagoddaaGreatDoor
end

section
namespace Go.Proofs.YtceclhndagoddaaGreatDoor
open Go.RowKit

mutual
/-- Every number fits an int. -/
def numsB : Va → Bool | .mk _ n _ _ ts => decide (-9223372036854775808 ≤ n ∧ n ≤ 9223372036854775807) && numsBs ts
def numsBs : List Va → Bool | [] => true | t :: r => numsB t && numsBs r
end
theorem numsBs_all : ∀ (ts : List Va), (∀ i, (h : i < ts.length) → numsB ts[i] = true) → numsBs ts = true
  | [], _ => by rw [numsBs]
  | t :: r, h => by
    rw [numsBs, show numsB t = true from h 0 (by simp), numsBs_all r fun i hi => h (i + 1) (by simpa using hi)]
    rfl
theorem numsBs_at : ∀ (ts : List Va), numsBs ts = true → ∀ i, (h : i < ts.length) → numsB ts[i] = true
  | [], _, i, h => absurd h (by simp)
  | t :: r, e, i, h => by
    rw [numsBs, Bool.and_eq_true] at e
    cases i with
    | zero => exact e.1
    | succ i => exact numsBs_at r e.2 i (by simpa using h)
theorem numsB_mk (k n : Int) (nm : ByteArray) (ls : List ByteArray) (ts : List Va) (h : -9223372036854775808 ≤ n ∧ n ≤ 9223372036854775807) (h2 : ∀ i, (h : i < ts.length) → numsB ts[i] = true) : numsB (.mk k n nm ls ts) = true := by
  rw [numsB, numsBs_all ts h2]
  simp [h]
theorem numsB_of (t : Va) (h : numsB t = true) : (-9223372036854775808 ≤ t.num ∧ t.num ≤ 9223372036854775807) ∧ ∀ i, (h : i < t.args.length) → numsB t.args[i] = true := by
  cases t
  rw [numsB, Bool.and_eq_true, decide_eq_true_eq] at h
  exact ⟨h.1, numsBs_at _ h.2⟩

end Go.Proofs.YtceclhndagoddaaGreatDoor
end

section
namespace Go.Proofs.YtceclhndagoddaaGreatDoor
open Go.RowKit

mutual
/-- Every number is small. -/
def smallB : Va → Bool | .mk _ n _ _ ts => decide (-999999999999 ≤ n ∧ n ≤ 999999999999) && smallBs ts
def smallBs : List Va → Bool | [] => true | t :: r => smallB t && smallBs r
end
theorem smallBs_all : ∀ (ts : List Va), (∀ i, (h : i < ts.length) → smallB ts[i] = true) → smallBs ts = true
  | [], _ => by rw [smallBs]
  | t :: r, h => by
    rw [smallBs, show smallB t = true from h 0 (by simp), smallBs_all r fun i hi => h (i + 1) (by simpa using hi)]
    rfl
theorem smallBs_at : ∀ (ts : List Va), smallBs ts = true → ∀ i, (h : i < ts.length) → smallB ts[i] = true
  | [], _, i, h => absurd h (by simp)
  | t :: r, e, i, h => by
    rw [smallBs, Bool.and_eq_true] at e
    cases i with
    | zero => exact e.1
    | succ i => exact smallBs_at r e.2 i (by simpa using h)
theorem smallB_mk (k n : Int) (nm : ByteArray) (ls : List ByteArray) (ts : List Va) (h : -999999999999 ≤ n ∧ n ≤ 999999999999) (h2 : ∀ i, (h : i < ts.length) → smallB ts[i] = true) : smallB (.mk k n nm ls ts) = true := by
  rw [smallB, smallBs_all ts h2]
  simp [h]
theorem smallB_of (t : Va) (h : smallB t = true) : (-999999999999 ≤ t.num ∧ t.num ≤ 999999999999) ∧ ∀ i, (h : i < t.args.length) → smallB t.args[i] = true := by
  cases t
  rw [smallB, Bool.and_eq_true, decide_eq_true_eq] at h
  exact ⟨h.1, smallBs_at _ h.2⟩
theorem smallB_nums (t : Va) : smallB t = true → numsB t = true := by
  induction t using Va.ind with
  | h k n nm ls ts ih =>
    intro h
    obtain ⟨h1, h2⟩ := smallB_of _ h
    simp only [Va.num, Va.args] at h1 h2
    exact numsB_mk _ _ _ _ _ (by omega) fun i hi => ih i hi (h2 i hi)
theorem smallBs_mem : ∀ {ts : List Va}, smallBs ts = true → ∀ t ∈ ts, smallB t = true
  | [], _, t, h => by cases h
  | a :: r, h, t, ht => by
    rw [smallBs, Bool.and_eq_true] at h
    rcases List.mem_cons.1 ht with rfl | h2
    · exact h.1
    · exact smallBs_mem h.2 t h2
theorem smallBs_of : ∀ (ts : List Va), (∀ t ∈ ts, smallB t = true) → smallBs ts = true := fun ts h => smallBs_all ts fun _ hi => h _ (List.getElem_mem hi)

end Go.Proofs.YtceclhndagoddaaGreatDoor
end

section
namespace Go.Proofs.YtceclhndagoddaaGreatDoor
open Go.RowKit

/-- What is left of n. -/
def leftOf (left : Int) (n : Nat) : Int := if left - n < 0 then -1 else left - n
theorem leftOf_cases (left : Int) (n : Nat) : leftOf left n = -1 ∨ 0 ≤ leftOf left n := by unfold leftOf; split <;> omega
/-- A number is handed back; what was there stands. -/
def IntBelow (x : Int) (w : World) (e : Ending) (w' : World) : Prop := e = .returned (.int .i64 x) ∧ Below w.heap.size w w'

end Go.Proofs.YtceclhndagoddaaGreatDoor
end

section
namespace Go.Proofs.YtceclhndagoddaaGreatDoor
open Go.RowKit

end Go.Proofs.YtceclhndagoddaaGreatDoor
end

section
namespace Go.Proofs.YtceclhndagoddaaGreatDoor
open Go.RowKit

end Go.Proofs.YtceclhndagoddaaGreatDoor
end
