/- A tree of its own grows: its kind, a label, a part. -/
import Derived.Test.YtlmbnefoobameaaDoorLabeled
namespace Go.Proofs.YtlmbnefoobameaaDoor
open Go.RowKit

/-- OwnTy, with all that it speaks of named. -/
structure OwnAt (w : World) (base : Nat) (L : Option Addr) (lc : Nat) (A : Option Addr) (ac : Nat) (t : Ty) (xs : List Value) (vs : Nat → Value) (lo hi : Nat → Nat) : Prop where
  size : ∀ i, (h : i < t.labels.length) → t.labels[i].size ≤ maxLen
  len : t.args.length ≤ maxLen
  row : w.ownsRow base 9 1 (.slice L t.labels.length lc) t.labels.length (strVals t.labels)
  parts : GatherAt w base (.slice A t.args.length ac) t.args.length t.args xs vs lo hi
  far : ∀ gl, L = some ⟨gl, 0, none⟩ → A ≠ some ⟨gl, 0, none⟩ ∧ ∀ i, i < t.args.length → ¬ Span (lo i) (hi i) gl
theorem OwnTy.named {w : World} {base : Nat} {v : Value} {t : Ty} (h : OwnTy w base v t) : ∃ L lc A ac xs vs lo hi, v = .agg #[.int .i64 t.kind, .slice L t.labels.length lc, .slice A t.args.length ac] ∧ OwnAt w base L lc A ac t xs vs lo hi := by
  obtain ⟨L, lc, A, ac, xs, vs, lo, hi, hv, h1, h2, h3, h4, h5⟩ := h
  exact ⟨L, lc, A, ac, xs, vs, lo, hi, hv, h1, h2, h3, h4, h5⟩

section
variable {w w' : World} {base lc ac : Nat} {L A : Option Addr} {t : Ty} {xs : List Value} {vs : Nat → Value} {lo hi : Nat → Nat}

theorem OwnAt.own (h : OwnAt w base L lc A ac t xs vs lo hi) : OwnTy w base (.agg #[.int .i64 t.kind, .slice L t.labels.length lc, .slice A t.args.length ac]) t :=
  ⟨L, lc, A, ac, xs, vs, lo, hi, rfl, h.size, h.len, h.row, h.parts, h.far⟩
theorem OwnAt.kind (h : OwnAt w base L lc A ac t xs vs lo hi) (k : Int) : OwnAt w base L lc A ac (.mk k t.labels t.args) xs vs lo hi :=
  ⟨h.size, h.len, h.row, h.parts, h.far⟩
/-- Only the two rows' own blocks and the parts' count. -/
theorem OwnAt.keep (h : OwnAt w base L lc A ac t xs vs lo hi) (hs : w.heap.size ≤ w'.heap.size) (hL : ∀ g, (Value.slice L t.labels.length lc).ownBlock = some g → g < w.heap.size → w'.heap[g]? = w.heap[g]?) (hA : ∀ g, (Value.slice A t.args.length ac).ownBlock = some g → g < w.heap.size → w'.heap[g]? = w.heap[g]?)
    (hS : ∀ i, i < t.args.length → ∀ b, Span (lo i) (hi i) b → b < w.heap.size → w'.heap[b]? = w.heap[b]?) : OwnAt w' base L lc A ac t xs vs lo hi :=
  ⟨h.size, h.len, own_keep1 h.row fun g hg => hL g hg (h.row.lt g hg).2,
    ⟨own_keep h.parts.own fun g hg => hA g hg (h.parts.own.lt g hg).2, h.parts.cells, fun i hi' => ⟨(h.parts.low i hi').1, Nat.le_trans (h.parts.low i hi').2 hs⟩, h.parts.apart, h.parts.free, fun i hi' hik => (h.parts.kids i hi' hik).keep fun b hb hbl => hS i hik b hb hbl⟩, h.far⟩
/-- What lies from base on stands, but for a block that is none of the tree's. -/
theorem OwnAt.but (h : OwnAt w base L lc A ac t xs vs lo hi) (q : Nat) (hs : w.heap.size ≤ w'.heap.size) (hk : ∀ g, base ≤ g → g < w.heap.size → g ≠ q → w'.heap[g]? = w.heap[g]?) (hL : (Value.slice L t.labels.length lc).ownBlock ≠ some q) (hA : (Value.slice A t.args.length ac).ownBlock ≠ some q) (hS : ∀ i, i < t.args.length → ¬ Span (lo i) (hi i) q) : OwnAt w' base L lc A ac t xs vs lo hi :=
  h.keep hs (fun g hg hl => hk g (h.row.lt g hg).1 hl (fun e => hL (by rw [hg, e]))) (fun g hg hl => hk g (h.parts.own.lt g hg).1 hl (fun e => hA (by rw [hg, e]))) (fun i hi' b hb hl => hk b (Nat.le_trans (h.parts.low i hi').1 hb.1) hl (fun e => hS i hi' (by rw [← e]; exact hb)))

theorem own_addr {n k : Nat} {A : Option Addr} {c sz : Nat} {e : TypeId} {ys : List Value} (h : w.ownsRow base e sz (.slice A n c) k ys) (g : Nat) (hg : (Value.slice A n c).ownBlock = some g) : A = some ⟨g, 0, none⟩ := by
  rcases h.2 with ⟨h1, _⟩ | ⟨g', cap, cur, h1, _⟩
  · injection h1 with e1
    subst e1
    cases hg
  · injection h1 with e1
    subst e1
    cases hg
    rfl

/-- A label is appended. -/
theorem OwnAt.label {w3 : World} {g cap : Nat} (h : OwnAt w base L lc A ac t xs vs lo hi) (s : ByteArray) (hz : s.size ≤ maxLen) (hown : w3.ownsRow base 9 1 (.slice (some ⟨g, 0, none⟩) (t.labels.length + 1) cap) (t.labels.length + 1) (strVals t.labels ++ [.string s]))
    (hgr : w.grownBy w3 (Value.slice L t.labels.length lc).ownBlock) (hat : (Value.slice L t.labels.length lc).ownBlock = some g ∨ w.heap.size ≤ g) : OwnAt w3 base (some ⟨g, 0, none⟩) cap A ac (.mk t.kind (t.labels ++ [s]) t.args) xs vs lo hi := by
  have hAL : ∀ q, (Value.slice A t.args.length ac).ownBlock = some q → (Value.slice L t.labels.length lc).ownBlock ≠ some q := fun q hq e => (h.far q (own_addr h.row q e)).1 (own_addr h.parts.own q hq)
  have hSL : ∀ i, i < t.args.length → ∀ b, Span (lo i) (hi i) b → (Value.slice L t.labels.length lc).ownBlock ≠ some b := fun i hi' b hb e => (h.far b (own_addr h.row b e)).2 i hi' hb
  refine ⟨fun i hi' => ?_, h.len, ?_, ⟨own_keep h.parts.own fun q hq => hgr.block q (h.parts.own.lt q hq).2 (fun e => hAL q hq e.symm), h.parts.cells, fun i hi' => ⟨(h.parts.low i hi').1, Nat.le_trans (h.parts.low i hi').2 hgr.size⟩, h.parts.apart, h.parts.free, fun i hi' hik => (h.parts.kids i hi' hik).keep fun b hb hbl => hgr.block b hbl (fun e => hSL i hik b hb e.symm)⟩, fun gl hgl => ?_⟩
  · have key : ∀ j, (hj : j < (t.labels ++ [s]).length) → (t.labels ++ [s])[j].size ≤ maxLen := fun j hj => by
      by_cases e : j < t.labels.length
      · rw [List.getElem_append_left e]
        exact h.size j e
      · rw [List.getElem_append_right (by omega)]
        simp
        exact hz
    exact key i hi'
  · show w3.ownsRow base _ 1 (.slice _ (t.labels ++ [s]).length cap) (t.labels ++ [s]).length (strVals (t.labels ++ [s]))
    have e1 : (t.labels ++ [s]).length = t.labels.length + 1 := by simp
    have e2 : strVals (t.labels ++ [s]) = strVals t.labels ++ [.string s] := by simp [strVals]
    rw [e1, e2]
    exact hown
  · have e : g = gl := by injection hgl with e; injection e
    subst e
    rcases hat with hat | hat
    · exact h.far g (own_addr h.row g hat)
    · refine ⟨fun e => ?_, fun i hi' hb => ?_⟩
      · have := (h.parts.own.lt g (by rw [e]; rfl)).2
        omega
      · have := (h.parts.low i hi').2
        have := hb.2
        omega
end

/-- One more tree is appended. -/
theorem GatherAt.stepAt {w w1 w3 : World} {base k g cap : Nat} {v a b c : Value} {ts : List Ty} {xs : List Value} {vs : Nat → Value} {lo hi : Nat → Nat} (h : GatherAt w base v k ts xs vs lo hi) (hb : Below w.heap.size w w1) (hbase : base ≤ w.heap.size) (hk : k < ts.length)
    (ht : TyIn w1 (Span w.heap.size w1.heap.size) (.agg #[a, b, c]) ts[k]) (hown : w3.ownsRow base 30 3 (.slice (some ⟨g, 0, none⟩) (k + 1) cap) (k + 1) (xs ++ [a, b, c]))
    (hg : (w1.alloc (.cells #[a, b, c] 30)).grownBy w3 v.ownBlock) (hat : v.ownBlock = some g ∨ g = w1.heap.size + 1) : GatherAt w3 base (.slice (some ⟨g, 0, none⟩) (k + 1) cap) (k + 1) ts (xs ++ [a, b, c]) (fun i => if i = k then .agg #[a, b, c] else vs i) (fun i => if i = k then w.heap.size else lo i) (fun i => if i = k then w1.heap.size else hi i) := by
  have hs1 := hb.size
  have hs3 : w1.heap.size + 1 ≤ w3.heap.size := by have := hg.size; simp at this; exact this
  have hxl : xs.length = k * 3 := h.own.1
  have hkeep : ∀ q, q < w1.heap.size → v.ownBlock ≠ some q → w3.heap[q]? = w1.heap[q]? := fun q hq hne =>
    (hg.block q (by simp; omega) (fun e => hne e.symm)).trans (Below.heap_alloc _ _ _ hq)
  refine ⟨hown, fun i hi' j hj => ?_, fun i hi' => ?_, fun i j hij hj => ?_, fun i hi' q hq => ?_, fun i hi' hik => ?_⟩
  · by_cases e : i = k
    · subst e
      rw [if_pos rfl, List.getElem?_append_right (by omega), hxl]
      have : j = 0 ∨ j = 1 ∨ j = 2 := by omega
      rcases this with rfl | rfl | rfl
      · simp [partAt]
      · simp [partAt]
      · simp [partAt]
    · rw [if_neg e, List.getElem?_append_left (by omega)]
      exact h.cells i (by omega) j hj
  · by_cases e : i = k
    · rw [if_pos e, if_pos e]
      omega
    · rw [if_neg e, if_neg e]
      have := h.low i (by omega)
      omega
  · rw [if_neg (show i ≠ k by omega)]
    by_cases e : j = k
    · rw [if_pos e]
      exact (h.low i (by omega)).2
    · rw [if_neg e]
      exact h.apart i j hij (by omega)
  · have hqg : q = g := (Option.some.inj hq).symm
    subst hqg
    by_cases e : i = k
    · rw [if_pos e, if_pos e]
      intro hs
      have a1 := hs.1
      have a2 := hs.2
      rcases hat with hat | hat
      · have := (h.own.lt q hat).2
        omega
      · omega
    · rw [if_neg e, if_neg e]
      rcases hat with hat | hat
      · exact h.free i (by omega) q hat
      · intro hs
        have := hs.2
        have := (h.low i (by omega)).2
        omega
  · by_cases e : i = k
    · subst e
      rw [if_pos rfl, if_pos rfl, if_pos rfl]
      refine ht.keep fun q hq _ => hkeep q hq.2 fun hv => ?_
      have := (h.own.lt q hv).2
      have := hq.1
      omega
    · rw [if_neg e, if_neg e, if_neg e]
      refine (h.kids i hi' (by omega)).keep fun q hq hql => ?_
      rw [hkeep q (by omega) fun hv => h.free i (by omega) q hv hq]
      exact hb.block q hql

/-- A part is appended. -/
theorem OwnAt.arg {w w1 w3 : World} {base lc ac : Nat} {L A : Option Addr} {t : Ty} {xs : List Value} {vs : Nat → Value} {lo hi : Nat → Nat} {g cap : Nat} {a b c : Value} (h : OwnAt w base L lc A ac t xs vs lo hi) (u : Ty) (hb : Below w.heap.size w w1) (hbase : base ≤ w.heap.size) (hm : t.args.length + 1 ≤ maxLen)
    (hu : TyIn w1 (Span w.heap.size w1.heap.size) (.agg #[a, b, c]) u) (hown : w3.ownsRow base 30 3 (.slice (some ⟨g, 0, none⟩) (t.args.length + 1) cap) (t.args.length + 1) (xs ++ [a, b, c]))
    (hg : (w1.alloc (.cells #[a, b, c] 30)).grownBy w3 (Value.slice A t.args.length ac).ownBlock) (hat : (Value.slice A t.args.length ac).ownBlock = some g ∨ g = w1.heap.size + 1) :
    OwnAt w3 base L lc (some ⟨g, 0, none⟩) cap (.mk t.kind t.labels (t.args ++ [u])) (xs ++ [a, b, c]) (fun i => if i = t.args.length then .agg #[a, b, c] else vs i) (fun i => if i = t.args.length then w.heap.size else lo i) (fun i => if i = t.args.length then w1.heap.size else hi i) := by
  have hs1 := hb.size
  have e1 : (t.args ++ [u]).length = t.args.length + 1 := by simp
  have hp : GatherAt w base (.slice A t.args.length ac) t.args.length (t.args ++ [u]) xs vs lo hi :=
    ⟨h.parts.own, h.parts.cells, h.parts.low, h.parts.apart, h.parts.free, fun i hi' hik => by rw [List.getElem_append_left hik]; exact h.parts.kids i hik hik⟩
  have hst := hp.stepAt hb hbase (by simp) (by simpa using hu) hown hg hat
  have hL : ∀ q, (Value.slice L t.labels.length lc).ownBlock = some q → w3.heap[q]? = w.heap[q]? := fun q hq => by
    have hql := (h.row.lt q hq).2
    have hne : (Value.slice A t.args.length ac).ownBlock ≠ some q := fun e => (h.far q (own_addr h.row q hq)).1 (own_addr h.parts.own q e)
    exact ((hg.block q (by simp; omega) (fun e => hne e.symm)).trans (Below.heap_alloc _ _ _ (by omega))).trans (hb.block q hql)
  refine ⟨h.size, by show (t.args ++ [u]).length ≤ maxLen; omega, own_keep1 h.row hL, ?_, fun gl hgl => ?_⟩
  · show GatherAt w3 base (.slice _ (t.args ++ [u]).length cap) (t.args ++ [u]).length (t.args ++ [u]) _ _ _ _
    rw [e1]
    exact hst
  · have hlt : gl < w.heap.size := (h.row.lt gl (by rw [hgl]; rfl)).2
    refine ⟨fun e => ?_, fun i hi' hsp => ?_⟩
    · have eg : g = gl := by injection e with e; injection e
      subst eg
      rcases hat with hat | hat
      · exact (h.far g hgl).1 (own_addr h.parts.own g hat)
      · omega
    · have hi2 : i < t.args.length + 1 := by rw [← e1]; exact hi'
      by_cases e : i = t.args.length
      · simp only [e, if_true] at hsp
        have := hsp.1
        omega
      · simp only [e, if_false] at hsp
        exact (h.far gl hgl).2 i (by omega) hsp

theorem OwnAt.grown {w w' : World} {base lc ac p : Nat} {L A : Option Addr} {t : Ty} {xs : List Value} {vs : Nat → Value} {lo hi : Nat → Nat} (h : OwnAt w base L lc A ac t xs vs lo hi) (hg : w.grownBy w' (some p)) (hp : p < base) : OwnAt w' base L lc A ac t xs vs lo hi :=
  h.but p hg.size (fun g _ hl hne => hg.block g hl (fun e => by injection e with e; exact hne e)) (fun e => by have := (h.row.lt p e).1; omega) (fun e => by have := (h.parts.own.lt p e).1; omega) (fun i hi' hb => by have := (h.parts.low i hi').1; have := hb.1; omega)

theorem grown_low {w w4 w5 : World} {p b : Nat} (hg : w.grownBy w4 (some p)) (hb : Below b w4 w5) (h : w.heap.size ≤ b) : w.grownBy w5 (some p) :=
  ⟨hb.os.trans hg.os, hb.tape.trans hg.tape, hb.output.trans hg.output, Nat.le_trans hg.size hb.size, fun i hi hne => (hb.block i (by omega)).trans (hg.block i hi hne)⟩
theorem news1 (w : World) (t : TypeId) (a : Value) (h : a.oneCell' = true) : (∀ j u, [a][j]? = some u → (w.alloc (.cells #[a] t)).cell? ((⟨w.heap.size, 0, none⟩ : Addr).add j) = some u) ∧ ∀ u ∈ [a], u.oneCell' = true :=
  ⟨World.news_of_block (cs := #[a]) (Whole1.new w t #[a]), fun u hu => by simp at hu; subst hu; exact h⟩
theorem sz_label (t : Ty) (s : ByteArray) : szTy (.mk t.kind (t.labels ++ [s]) t.args) = szTy t + 1 + s.size := by
  cases t
  simp [szTy, sumSizes, Ty.labels, Ty.args]
  omega
theorem sz_arg (t u : Ty) : szTy (.mk t.kind t.labels (t.args ++ [u])) = szTy t + 1 + szTy u := by
  cases t
  simp [szTy, Ty.labels, Ty.args, szTys_append, szTys]
  omega

theorem span_snoc {lo hi : Nat → Nat} {ts : List Ty} {u : Ty} {z a b : Nat} {k : Int} {ls : List ByteArray} (h : ∀ i, i < ts.length → ¬ Span (lo i) (hi i) z) (hz : z < a) : ∀ i, i < (Ty.mk k ls (ts ++ [u])).args.length → ¬ Span ((fun i => if i = ts.length then a else lo i) i) ((fun i => if i = ts.length then b else hi i) i) z := fun i hi' hsp => by
  have h1 : i < (ts ++ [u]).length := hi'
  rw [List.length_append, List.length_singleton] at h1
  by_cases e : i = ts.length
  · simp only [e, if_true] at hsp
    have := hsp.1
    omega
  · simp only [e, if_false] at hsp
    exact h i (by omega) hsp

theorem box_grown {w w3 : World} {p z : Nat} (hg : w.grownBy w3 (some p)) (hz : w.heap.size ≤ z) (a b c : Value) : w.grownBy (((w3.setCell ⟨z, 0, none⟩ a).setCell ⟨z, 1, none⟩ b).setCell ⟨z, 2, none⟩ c) (some p) := by
  have hb : Below w.heap.size w3 (((w3.setCell ⟨z, 0, none⟩ a).setCell ⟨z, 1, none⟩ b).setCell ⟨z, 2, none⟩ c) := (((Below.refl w.heap.size w3).setCell hz _).setCell hz _).setCell hz _
  exact ⟨hb.os.trans hg.os, hb.tape.trans hg.tape, hb.output.trans hg.output, Nat.le_trans hg.size hb.size, fun i hi hne => (hb.block i hi).trans (hg.block i hi hne)⟩


end Go.Proofs.YtlmbnefoobameaaDoor
