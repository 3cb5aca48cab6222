/- Lemmas: Grow, ReadStep. -/
import Derived.Test.YtlmbnefoobameaaDoorLawParseOptic_7
import Derived.Test.YtlmbnefoobameaaDoorLawParseOptic_5
import Derived.BigGuard

section
namespace Go.Proofs.YtlmbnefoobameaaDoor
open Go.RowKit

/-- OwnTy, with all that it speaks of named. -/
structure OwnAt (w : World) (base : Nat) (L : Option Addr) (lc : Nat) (A : Option Addr) (ac : Nat) (t : Ty) (xs : List Value) (vs : Nat → Value) (lo hi : Nat → Nat) : Prop where
  size : ∀ i, (h : i < t.labels.length) → t.labels[i].size ≤ maxLen
  len : t.args.length ≤ maxLen
  row : w.ownsRow base 9 1 (.slice L t.labels.length lc) t.labels.length (strVals t.labels)
  parts : GatherAt w base (.slice A t.args.length ac) t.args.length t.args xs vs lo hi
  far : ∀ gl, L = some ⟨gl, 0, none⟩ → A ≠ some ⟨gl, 0, none⟩ ∧ ∀ i, i < t.args.length → ¬ Span (lo i) (hi i) gl
theorem OwnTy.named {w : World} {base : Nat} {v : Value} {t : Ty} (h : OwnTy w base v t) : ∃ L lc A ac xs vs lo hi, v = .agg #[.int .i64 t.kind, .slice L t.labels.length lc, .slice A t.args.length ac] ∧ OwnAt w base L lc A ac t xs vs lo hi := by
  obtain ⟨L, lc, A, ac, xs, vs, lo, hi, hv, h1, h2, h3, h4, h5⟩ := h
  exact ⟨L, lc, A, ac, xs, vs, lo, hi, hv, h1, h2, h3, h4, h5⟩

section
variable {w w' : World} {base lc ac : Nat} {L A : Option Addr} {t : Ty} {xs : List Value} {vs : Nat → Value} {lo hi : Nat → Nat}

theorem OwnAt.own (h : OwnAt w base L lc A ac t xs vs lo hi) : OwnTy w base (.agg #[.int .i64 t.kind, .slice L t.labels.length lc, .slice A t.args.length ac]) t :=
  ⟨L, lc, A, ac, xs, vs, lo, hi, rfl, h.size, h.len, h.row, h.parts, h.far⟩
theorem OwnAt.kind (h : OwnAt w base L lc A ac t xs vs lo hi) (k : Int) : OwnAt w base L lc A ac (.mk k t.labels t.args) xs vs lo hi :=
  ⟨h.size, h.len, h.row, h.parts, h.far⟩
/-- Only the two rows' own blocks and the parts' count. -/
theorem OwnAt.keep (h : OwnAt w base L lc A ac t xs vs lo hi) (hs : w.heap.size ≤ w'.heap.size) (hL : ∀ g, (Value.slice L t.labels.length lc).ownBlock = some g → g < w.heap.size → w'.heap[g]? = w.heap[g]?) (hA : ∀ g, (Value.slice A t.args.length ac).ownBlock = some g → g < w.heap.size → w'.heap[g]? = w.heap[g]?)
    (hS : ∀ i, i < t.args.length → ∀ b, Span (lo i) (hi i) b → b < w.heap.size → w'.heap[b]? = w.heap[b]?) : OwnAt w' base L lc A ac t xs vs lo hi :=
  ⟨h.size, h.len, own_keep1 h.row fun g hg => hL g hg (h.row.lt g hg).2,
    ⟨own_keep h.parts.own fun g hg => hA g hg (h.parts.own.lt g hg).2, h.parts.cells, fun i hi' => ⟨(h.parts.low i hi').1, Nat.le_trans (h.parts.low i hi').2 hs⟩, h.parts.apart, h.parts.free, fun i hi' hik => (h.parts.kids i hi' hik).keep fun b hb hbl => hS i hik b hb hbl⟩, h.far⟩
/-- What lies from base on stands, but for a block that is none of the tree's. -/
theorem OwnAt.but (h : OwnAt w base L lc A ac t xs vs lo hi) (q : Nat) (hs : w.heap.size ≤ w'.heap.size) (hk : ∀ g, base ≤ g → g < w.heap.size → g ≠ q → w'.heap[g]? = w.heap[g]?) (hL : (Value.slice L t.labels.length lc).ownBlock ≠ some q) (hA : (Value.slice A t.args.length ac).ownBlock ≠ some q) (hS : ∀ i, i < t.args.length → ¬ Span (lo i) (hi i) q) : OwnAt w' base L lc A ac t xs vs lo hi :=
  h.keep hs (fun g hg hl => hk g (h.row.lt g hg).1 hl (fun e => hL (by rw [hg, e]))) (fun g hg hl => hk g (h.parts.own.lt g hg).1 hl (fun e => hA (by rw [hg, e]))) (fun i hi' b hb hl => hk b (Nat.le_trans (h.parts.low i hi').1 hb.1) hl (fun e => hS i hi' (by rw [← e]; exact hb)))

theorem own_addr {n k : Nat} {A : Option Addr} {c sz : Nat} {e : TypeId} {ys : List Value} (h : w.ownsRow base e sz (.slice A n c) k ys) (g : Nat) (hg : (Value.slice A n c).ownBlock = some g) : A = some ⟨g, 0, none⟩ := by
  rcases h.2 with ⟨h1, _⟩ | ⟨g', cap, cur, h1, _⟩
  · injection h1 with e1
    subst e1
    cases hg
  · injection h1 with e1
    subst e1
    cases hg
    rfl

/-- A label is appended. -/
theorem OwnAt.label {w3 : World} {g cap : Nat} (h : OwnAt w base L lc A ac t xs vs lo hi) (s : ByteArray) (hz : s.size ≤ maxLen) (hown : w3.ownsRow base 9 1 (.slice (some ⟨g, 0, none⟩) (t.labels.length + 1) cap) (t.labels.length + 1) (strVals t.labels ++ [.string s]))
    (hgr : w.grownBy w3 (Value.slice L t.labels.length lc).ownBlock) (hat : (Value.slice L t.labels.length lc).ownBlock = some g ∨ w.heap.size ≤ g) : OwnAt w3 base (some ⟨g, 0, none⟩) cap A ac (.mk t.kind (t.labels ++ [s]) t.args) xs vs lo hi := by
  have hAL : ∀ q, (Value.slice A t.args.length ac).ownBlock = some q → (Value.slice L t.labels.length lc).ownBlock ≠ some q := fun q hq e => (h.far q (own_addr h.row q e)).1 (own_addr h.parts.own q hq)
  have hSL : ∀ i, i < t.args.length → ∀ b, Span (lo i) (hi i) b → (Value.slice L t.labels.length lc).ownBlock ≠ some b := fun i hi' b hb e => (h.far b (own_addr h.row b e)).2 i hi' hb
  refine ⟨fun i hi' => ?_, h.len, ?_, ⟨own_keep h.parts.own fun q hq => hgr.block q (h.parts.own.lt q hq).2 (fun e => hAL q hq e.symm), h.parts.cells, fun i hi' => ⟨(h.parts.low i hi').1, Nat.le_trans (h.parts.low i hi').2 hgr.size⟩, h.parts.apart, h.parts.free, fun i hi' hik => (h.parts.kids i hi' hik).keep fun b hb hbl => hgr.block b hbl (fun e => hSL i hik b hb e.symm)⟩, fun gl hgl => ?_⟩
  · have key : ∀ j, (hj : j < (t.labels ++ [s]).length) → (t.labels ++ [s])[j].size ≤ maxLen := fun j hj => by
      by_cases e : j < t.labels.length
      · rw [List.getElem_append_left e]
        exact h.size j e
      · rw [List.getElem_append_right (by omega)]
        simp
        exact hz
    exact key i hi'
  · show w3.ownsRow base _ 1 (.slice _ (t.labels ++ [s]).length cap) (t.labels ++ [s]).length (strVals (t.labels ++ [s]))
    have e1 : (t.labels ++ [s]).length = t.labels.length + 1 := by simp
    have e2 : strVals (t.labels ++ [s]) = strVals t.labels ++ [.string s] := by simp [strVals]
    rw [e1, e2]
    exact hown
  · have e : g = gl := by injection hgl with e; injection e
    subst e
    rcases hat with hat | hat
    · exact h.far g (own_addr h.row g hat)
    · refine ⟨fun e => ?_, fun i hi' hb => ?_⟩
      · have := (h.parts.own.lt g (by rw [e]; rfl)).2
        omega
      · have := (h.parts.low i hi').2
        have := hb.2
        omega
end

/-- One more tree is appended. -/
theorem GatherAt.stepAt {w w1 w3 : World} {base k g cap : Nat} {v a b c : Value} {ts : List Ty} {xs : List Value} {vs : Nat → Value} {lo hi : Nat → Nat} (h : GatherAt w base v k ts xs vs lo hi) (hb : Below w.heap.size w w1) (hbase : base ≤ w.heap.size) (hk : k < ts.length)
    (ht : TyIn w1 (Span w.heap.size w1.heap.size) (.agg #[a, b, c]) ts[k]) (hown : w3.ownsRow base 30 3 (.slice (some ⟨g, 0, none⟩) (k + 1) cap) (k + 1) (xs ++ [a, b, c]))
    (hg : (w1.alloc (.cells #[a, b, c] 30)).grownBy w3 v.ownBlock) (hat : v.ownBlock = some g ∨ g = w1.heap.size + 1) : GatherAt w3 base (.slice (some ⟨g, 0, none⟩) (k + 1) cap) (k + 1) ts (xs ++ [a, b, c]) (fun i => if i = k then .agg #[a, b, c] else vs i) (fun i => if i = k then w.heap.size else lo i) (fun i => if i = k then w1.heap.size else hi i) := by
  have hs1 := hb.size
  have hs3 : w1.heap.size + 1 ≤ w3.heap.size := by have := hg.size; simp at this; exact this
  have hxl : xs.length = k * 3 := h.own.1
  have hkeep : ∀ q, q < w1.heap.size → v.ownBlock ≠ some q → w3.heap[q]? = w1.heap[q]? := fun q hq hne =>
    (hg.block q (by simp; omega) (fun e => hne e.symm)).trans (Below.heap_alloc _ _ _ hq)
  refine ⟨hown, fun i hi' j hj => ?_, fun i hi' => ?_, fun i j hij hj => ?_, fun i hi' q hq => ?_, fun i hi' hik => ?_⟩
  · by_cases e : i = k
    · subst e
      rw [if_pos rfl, List.getElem?_append_right (by omega), hxl]
      have : j = 0 ∨ j = 1 ∨ j = 2 := by omega
      rcases this with rfl | rfl | rfl
      · simp [partAt]
      · simp [partAt]
      · simp [partAt]
    · rw [if_neg e, List.getElem?_append_left (by omega)]
      exact h.cells i (by omega) j hj
  · by_cases e : i = k
    · rw [if_pos e, if_pos e]
      omega
    · rw [if_neg e, if_neg e]
      have := h.low i (by omega)
      omega
  · rw [if_neg (show i ≠ k by omega)]
    by_cases e : j = k
    · rw [if_pos e]
      exact (h.low i (by omega)).2
    · rw [if_neg e]
      exact h.apart i j hij (by omega)
  · have hqg : q = g := (Option.some.inj hq).symm
    subst hqg
    by_cases e : i = k
    · rw [if_pos e, if_pos e]
      intro hs
      have a1 := hs.1
      have a2 := hs.2
      rcases hat with hat | hat
      · have := (h.own.lt q hat).2
        omega
      · omega
    · rw [if_neg e, if_neg e]
      rcases hat with hat | hat
      · exact h.free i (by omega) q hat
      · intro hs
        have := hs.2
        have := (h.low i (by omega)).2
        omega
  · by_cases e : i = k
    · subst e
      rw [if_pos rfl, if_pos rfl, if_pos rfl]
      refine ht.keep fun q hq _ => hkeep q hq.2 fun hv => ?_
      have := (h.own.lt q hv).2
      have := hq.1
      omega
    · rw [if_neg e, if_neg e, if_neg e]
      refine (h.kids i hi' (by omega)).keep fun q hq hql => ?_
      rw [hkeep q (by omega) fun hv => h.free i (by omega) q hv hq]
      exact hb.block q hql

/-- A part is appended. -/
theorem OwnAt.arg {w w1 w3 : World} {base lc ac : Nat} {L A : Option Addr} {t : Ty} {xs : List Value} {vs : Nat → Value} {lo hi : Nat → Nat} {g cap : Nat} {a b c : Value} (h : OwnAt w base L lc A ac t xs vs lo hi) (u : Ty) (hb : Below w.heap.size w w1) (hbase : base ≤ w.heap.size) (hm : t.args.length + 1 ≤ maxLen)
    (hu : TyIn w1 (Span w.heap.size w1.heap.size) (.agg #[a, b, c]) u) (hown : w3.ownsRow base 30 3 (.slice (some ⟨g, 0, none⟩) (t.args.length + 1) cap) (t.args.length + 1) (xs ++ [a, b, c]))
    (hg : (w1.alloc (.cells #[a, b, c] 30)).grownBy w3 (Value.slice A t.args.length ac).ownBlock) (hat : (Value.slice A t.args.length ac).ownBlock = some g ∨ g = w1.heap.size + 1) :
    OwnAt w3 base L lc (some ⟨g, 0, none⟩) cap (.mk t.kind t.labels (t.args ++ [u])) (xs ++ [a, b, c]) (fun i => if i = t.args.length then .agg #[a, b, c] else vs i) (fun i => if i = t.args.length then w.heap.size else lo i) (fun i => if i = t.args.length then w1.heap.size else hi i) := by
  have hs1 := hb.size
  have e1 : (t.args ++ [u]).length = t.args.length + 1 := by simp
  have hp : GatherAt w base (.slice A t.args.length ac) t.args.length (t.args ++ [u]) xs vs lo hi :=
    ⟨h.parts.own, h.parts.cells, h.parts.low, h.parts.apart, h.parts.free, fun i hi' hik => by rw [List.getElem_append_left hik]; exact h.parts.kids i hik hik⟩
  have hst := hp.stepAt hb hbase (by simp) (by simpa using hu) hown hg hat
  have hL : ∀ q, (Value.slice L t.labels.length lc).ownBlock = some q → w3.heap[q]? = w.heap[q]? := fun q hq => by
    have hql := (h.row.lt q hq).2
    have hne : (Value.slice A t.args.length ac).ownBlock ≠ some q := fun e => (h.far q (own_addr h.row q hq)).1 (own_addr h.parts.own q e)
    exact ((hg.block q (by simp; omega) (fun e => hne e.symm)).trans (Below.heap_alloc _ _ _ (by omega))).trans (hb.block q hql)
  refine ⟨h.size, by show (t.args ++ [u]).length ≤ maxLen; omega, own_keep1 h.row hL, ?_, fun gl hgl => ?_⟩
  · show GatherAt w3 base (.slice _ (t.args ++ [u]).length cap) (t.args ++ [u]).length (t.args ++ [u]) _ _ _ _
    rw [e1]
    exact hst
  · have hlt : gl < w.heap.size := (h.row.lt gl (by rw [hgl]; rfl)).2
    refine ⟨fun e => ?_, fun i hi' hsp => ?_⟩
    · have eg : g = gl := by injection e with e; injection e
      subst eg
      rcases hat with hat | hat
      · exact (h.far g hgl).1 (own_addr h.parts.own g hat)
      · omega
    · have hi2 : i < t.args.length + 1 := by rw [← e1]; exact hi'
      by_cases e : i = t.args.length
      · simp only [e, if_true] at hsp
        have := hsp.1
        omega
      · simp only [e, if_false] at hsp
        exact (h.far gl hgl).2 i (by omega) hsp

theorem OwnAt.grown {w w' : World} {base lc ac p : Nat} {L A : Option Addr} {t : Ty} {xs : List Value} {vs : Nat → Value} {lo hi : Nat → Nat} (h : OwnAt w base L lc A ac t xs vs lo hi) (hg : w.grownBy w' (some p)) (hp : p < base) : OwnAt w' base L lc A ac t xs vs lo hi :=
  h.but p hg.size (fun g _ hl hne => hg.block g hl (fun e => by injection e with e; exact hne e)) (fun e => by have := (h.row.lt p e).1; omega) (fun e => by have := (h.parts.own.lt p e).1; omega) (fun i hi' hb => by have := (h.parts.low i hi').1; have := hb.1; omega)

theorem grown_low {w w4 w5 : World} {p b : Nat} (hg : w.grownBy w4 (some p)) (hb : Below b w4 w5) (h : w.heap.size ≤ b) : w.grownBy w5 (some p) :=
  ⟨hb.os.trans hg.os, hb.tape.trans hg.tape, hb.output.trans hg.output, Nat.le_trans hg.size hb.size, fun i hi hne => (hb.block i (by omega)).trans (hg.block i hi hne)⟩
theorem news1 (w : World) (t : TypeId) (a : Value) (h : a.oneCell' = true) : (∀ j u, [a][j]? = some u → (w.alloc (.cells #[a] t)).cell? ((⟨w.heap.size, 0, none⟩ : Addr).add j) = some u) ∧ ∀ u ∈ [a], u.oneCell' = true :=
  ⟨World.news_of_block (cs := #[a]) (Whole1.new w t #[a]), fun u hu => by simp at hu; subst hu; exact h⟩
theorem sz_label (t : Ty) (s : ByteArray) : szTy (.mk t.kind (t.labels ++ [s]) t.args) = szTy t + 1 + s.size := by
  cases t
  simp [szTy, sumSizes, Ty.labels, Ty.args]
  omega
theorem sz_arg (t u : Ty) : szTy (.mk t.kind t.labels (t.args ++ [u])) = szTy t + 1 + szTy u := by
  cases t
  simp [szTy, Ty.labels, Ty.args, szTys_append, szTys]
  omega

theorem span_snoc {lo hi : Nat → Nat} {ts : List Ty} {u : Ty} {z a b : Nat} {k : Int} {ls : List ByteArray} (h : ∀ i, i < ts.length → ¬ Span (lo i) (hi i) z) (hz : z < a) : ∀ i, i < (Ty.mk k ls (ts ++ [u])).args.length → ¬ Span ((fun i => if i = ts.length then a else lo i) i) ((fun i => if i = ts.length then b else hi i) i) z := fun i hi' hsp => by
  have h1 : i < (ts ++ [u]).length := hi'
  rw [List.length_append, List.length_singleton] at h1
  by_cases e : i = ts.length
  · simp only [e, if_true] at hsp
    have := hsp.1
    omega
  · simp only [e, if_false] at hsp
    exact h i (by omega) hsp

theorem box_grown {w w3 : World} {p z : Nat} (hg : w.grownBy w3 (some p)) (hz : w.heap.size ≤ z) (a b c : Value) : w.grownBy (((w3.setCell ⟨z, 0, none⟩ a).setCell ⟨z, 1, none⟩ b).setCell ⟨z, 2, none⟩ c) (some p) := by
  have hb : Below w.heap.size w3 (((w3.setCell ⟨z, 0, none⟩ a).setCell ⟨z, 1, none⟩ b).setCell ⟨z, 2, none⟩ c) := (((Below.refl w.heap.size w3).setCell hz _).setCell hz _).setCell hz _
  exact ⟨hb.os.trans hg.os, hb.tape.trans hg.tape, hb.output.trans hg.output, Nat.le_trans hg.size hb.size, fun i hi hne => (hb.block i hi).trans (hg.block i hi hne)⟩


end Go.Proofs.YtlmbnefoobameaaDoor
end

section
namespace Go.Proofs.YtlmbnefoobameaaDoor
open Go.RowKit

/-- The reader lies in block p: its text, its place, whether it met an error. -/
def RdAt (w : World) (p : Nat) (s : ByteArray) (i : Nat) (bad : Bool) : Prop := Whole1 w p 82 #[.string s, .int .i64 (i : Int), .bool bad] ∧ i ≤ s.size
theorem RdAt.lt {w : World} {p i : Nat} {s : ByteArray} {bad : Bool} (h : RdAt w p s i bad) : p < w.heap.size := Whole1.lt h.1
theorem RdAt.block {w w' : World} {p i : Nat} {s : ByteArray} {bad : Bool} (h : RdAt w p s i bad) (hb : w'.heap[p]? = w.heap[p]?) : RdAt w' p s i bad := ⟨hb.trans h.1, h.2⟩
/-- What is still to read. -/
def restOf (s : ByteArray) (i : Nat) : List UInt8 := s.data.toList.drop i
theorem restOf_get (s : ByteArray) (i : Nat) (h : i < s.size) : restOf s i = s[i] :: restOf s (i + 1) := by
  have h1 : i < s.data.toList.length := by simpa using h
  unfold restOf
  rw [List.drop_eq_getElem_cons h1, Array.getElem_toList]
  rfl
theorem restOf_end (s : ByteArray) (i : Nat) (h : s.size ≤ i) : restOf s i = [] := List.drop_eq_nil_of_le (by simpa using h)
theorem restOf_len (s : ByteArray) (i : Nat) : (restOf s i).length = s.size - i := by simp [restOf]
theorem one_byte (s : ByteArray) (i : Nat) (h : i < s.size) : (s.extract i (i + 1)).toList = [s[i]] := by
  rw [ByteArray.toList_eq, ByteArray.data_extract, Array.toList_extract, List.extract_eq_take_drop, Nat.add_sub_cancel_left]
  have h1 := restOf_get s i h
  unfold restOf at h1
  rw [h1]
  rfl
theorem eat_at (c : UInt8) (s : ByteArray) (i : Nat) (h : i < s.size) : eat c (restOf s i) = if s[i] = c then some (restOf s (i + 1)) else none := by rw [restOf_get s i h, eat]


theorem RdAt.drewN {w : World} {p i : Nat} {s : ByteArray} {bad : Bool} (h : RdAt w p s i bad) (n : Nat) : RdAt (w.drewN n) p s i bad := h
theorem RdAt.seti {w : World} {p i : Nat} {s : ByteArray} {bad : Bool} (h : RdAt w p s i bad) (j : Nat) (hj : j ≤ s.size) : RdAt (w.setCell ⟨p, 1, none⟩ (.int .i64 (j : Int))) p s j bad := ⟨Whole1.set h.1 1 _, hj⟩
theorem RdAt.setb {w : World} {p i : Nat} {s : ByteArray} {bad : Bool} (h : RdAt w p s i bad) (b : Bool) : RdAt (w.setCell ⟨p, 2, none⟩ (.bool b)) p s i b := ⟨Whole1.set h.1 2 _, h.2⟩

/-- The answer v; the place is j, the error bad. -/
def Read (w : World) (p : Nat) (s : ByteArray) (v : Value) (j : Nat) (bad : Bool) (e : Ending) (w' : World) : Prop := e = .returned v ∧ RdAt w' p s j bad ∧ w.grownBy w' (some p)

set_option maxHeartbeats 1000000 in
theorem take_yes (p i : Nat) (s : ByteArray) (c : UInt8) (w : World) (h : RdAt w p s i false) (hs : s.size ≤ 1048576) (hi : i < s.size) (hc : s[i] = c) :
    Calls Tryd.prog 102 #[.pointer (some ⟨p, 0, none⟩), .string ⟨#[c]⟩] w (Read w p s (.bool true) (i + 1) false) := by
  have hq : ((s.extract i (i + 1)).toList == [c]) = true := by rw [one_byte s i hi, hc]; simp
  have c0 : w.cell? ⟨p, 0, none⟩ = some (.string s) := Whole1.cell h.1 0
  have c1 : w.cell? ⟨p, 1, none⟩ = some (.int .i64 (i : Int)) := Whole1.cell h.1 1
  have c2 : w.cell? ⟨p, 2, none⟩ = some (.bool false) := Whole1.cell h.1 2
  have f1 : w.frozen? ⟨p, 1, none⟩ = false := Whole1.free h.1 1
  have hle : decide ((s.size : Int) < (i : Int) + 1) = false := decide_eq_false (by omega)
  have hwr : IntKind.i64.wrap ((i : Int) + 1) = (i : Int) + 1 := by rw [IntKind.wrap_i64]; omega
  have hl1 : (0 : Int) ≤ (i : Int) := by omega
  have hl2 : (i : Int) ≤ (i : Int) + 1 := by omega
  have hl3 : (i : Int) + 1 ≤ (s.size : Int) := by omega
  have HH := Lib.hid h
  clear h hc
  go_enter Tryd.func102, Tryd.ntmps102
  go_wp2
  go_quiet (fail)
  go_wp2
  go_ret
  exact ⟨rfl, (HH.out.drewN _).seti (i + 1) (by omega), only_set (only_drewN (only_refl _ _) _) 1 _⟩

set_option maxHeartbeats 1000000 in
theorem take_bad (p i : Nat) (s : ByteArray) (c : UInt8) (w : World) (h : RdAt w p s i true) :
    Calls Tryd.prog 102 #[.pointer (some ⟨p, 0, none⟩), .string ⟨#[c]⟩] w (Read w p s (.bool false) i true) := by
  have c0 : w.cell? ⟨p, 0, none⟩ = some (.string s) := Whole1.cell h.1 0
  have c1 : w.cell? ⟨p, 1, none⟩ = some (.int .i64 (i : Int)) := Whole1.cell h.1 1
  have c2 : w.cell? ⟨p, 2, none⟩ = some (.bool true) := Whole1.cell h.1 2
  have HH := Lib.hid h
  clear h
  go_enter Tryd.func102, Tryd.ntmps102
  go_wp2
  go_quiet (fail)
  go_wp2
  go_ret
  exact ⟨rfl, HH.out.drewN _, only_drewN (only_refl _ _) _⟩

set_option maxHeartbeats 1000000 in
theorem take_other (p i : Nat) (s : ByteArray) (c : UInt8) (w : World) (h : RdAt w p s i false) (hs : s.size ≤ 1048576) (hc : eat c (restOf s i) = none) :
    Calls Tryd.prog 102 #[.pointer (some ⟨p, 0, none⟩), .string ⟨#[c]⟩] w (Read w p s (.bool false) i false) := by
  have c0 : w.cell? ⟨p, 0, none⟩ = some (.string s) := Whole1.cell h.1 0
  have c1 : w.cell? ⟨p, 1, none⟩ = some (.int .i64 (i : Int)) := Whole1.cell h.1 1
  have c2 : w.cell? ⟨p, 2, none⟩ = some (.bool false) := Whole1.cell h.1 2
  have hwr : IntKind.i64.wrap ((i : Int) + 1) = (i : Int) + 1 := by
    have := h.2
    rw [IntKind.wrap_i64]
    omega
  have HH := Lib.hid h
  clear h
  by_cases hi : i < s.size
  · have hq : ((s.extract i (i + 1)).toList == [c]) = false := by
      rw [one_byte s i hi, beq_eq_false_iff_ne]
      intro e
      rw [eat_at c s i hi, if_pos (by simpa using e)] at hc
      cases hc
    have hle : decide ((s.size : Int) < (i : Int) + 1) = false := decide_eq_false (by omega)
    have hl1 : (0 : Int) ≤ (i : Int) := by omega
    have hl2 : (i : Int) ≤ (i : Int) + 1 := by omega
    have hl3 : (i : Int) + 1 ≤ (s.size : Int) := by omega
    clear hc
    go_enter Tryd.func102, Tryd.ntmps102
    go_wp2
    go_quiet (fail)
    go_wp2
    go_ret
    exact ⟨rfl, HH.out.drewN _, only_drewN (only_refl _ _) _⟩
  · have hle : decide ((s.size : Int) < (i : Int) + 1) = true := decide_eq_true (by omega)
    clear hc
    go_enter Tryd.func102, Tryd.ntmps102
    go_wp2
    go_quiet (fail)
    go_wp2
    go_ret
    exact ⟨rfl, HH.out.drewN _, only_drewN (only_refl _ _) _⟩

set_option maxHeartbeats 1000000 in
theorem must_yes (p i : Nat) (s : ByteArray) (c : UInt8) (w : World) (h : RdAt w p s i false) (hs : s.size ≤ 1048576) (hi : i < s.size) (hc : s[i] = c) :
    Calls Tryd.prog 106 #[.pointer (some ⟨p, 0, none⟩), .string ⟨#[c]⟩] w (Read w p s (.tuple #[]) (i + 1) false) := by
  have c2 : w.cell? ⟨p, 2, none⟩ = some (.bool false) := Whole1.cell h.1 2
  have HT := Lib.hid (take_yes p i s c w h hs hi hc)
  clear h hc
  go_enter Tryd.func106, Tryd.ntmps106
  go_wp2_with fail
  refine HT.out.mono ?_
  rintro e w1 ⟨rfl, h1, g1⟩
  have f2 : w1.frozen? ⟨p, 2, none⟩ = false := Whole1.free h1.1 2
  have d2 : w1.cell? ⟨p, 2, none⟩ = some (.bool false) := Whole1.cell h1.1 2
  have H1 := Lib.hid h1
  clear h1
  go_wp2
  exact bodyPost_end (v := .tuple #[]) (by simp [results, Tryd.results106]) rfl ⟨rfl, H1.out.setb false, only_set g1 2 _⟩

set_option maxHeartbeats 1000000 in
theorem must_no (p i : Nat) (s : ByteArray) (bad : Bool) (c : UInt8) (w : World) (h : RdAt w p s i bad) (hs : s.size ≤ 1048576) (hc : bad = true ∨ eat c (restOf s i) = none) :
    Calls Tryd.prog 106 #[.pointer (some ⟨p, 0, none⟩), .string ⟨#[c]⟩] w (Read w p s (.tuple #[]) i true) := by
  cases bad
  · have hc' : eat c (restOf s i) = none := hc.resolve_left (by simp)
    have c2 : w.cell? ⟨p, 2, none⟩ = some (.bool false) := Whole1.cell h.1 2
    have HT := Lib.hid (take_other p i s c w h hs hc')
    clear h hc hc'
    go_enter Tryd.func106, Tryd.ntmps106
    go_wp2_with fail
    refine HT.out.mono ?_
    rintro e w1 ⟨rfl, h1, g1⟩
    have f2 : w1.frozen? ⟨p, 2, none⟩ = false := Whole1.free h1.1 2
    have d2 : w1.cell? ⟨p, 2, none⟩ = some (.bool false) := Whole1.cell h1.1 2
    have H1 := Lib.hid h1
    clear h1
    go_wp2
    exact bodyPost_end (v := .tuple #[]) (by simp [results, Tryd.results106]) rfl ⟨rfl, H1.out.setb true, only_set g1 2 _⟩
  · have c2 : w.cell? ⟨p, 2, none⟩ = some (.bool true) := Whole1.cell h.1 2
    have f2 : w.frozen? ⟨p, 2, none⟩ = false := Whole1.free h.1 2
    have H1 := Lib.hid h
    clear h hc
    go_enter Tryd.func106, Tryd.ntmps106
    go_wp2
    exact bodyPost_end (v := .tuple #[]) (by simp [results, Tryd.results106]) rfl ⟨rfl, H1.out.setb true, only_set (only_refl _ _) 2 _⟩

end Go.Proofs.YtlmbnefoobameaaDoor

namespace Go.Proofs.YtlmbnefoobameaaDoor
open Go.RowKit

/-- The place of the reader. -/
def placeOf (w : World) (p : Nat) : Nat := match w.cell? ⟨p, 1, none⟩ with | some v => (intOf v).toNat | none => 0
theorem RdAt.place {w : World} {p i : Nat} {s : ByteArray} {bad : Bool} (h : RdAt w p s i bad) : placeOf w p = i := by
  have c1 : w.cell? ⟨p, 1, none⟩ = some (.int .i64 (i : Int)) := Whole1.cell h.1 1
  unfold placeOf
  rw [c1]
  simp [intOf]

theorem word_end (s : ByteArray) (k : Nat) (hk : k ≤ s.size) (hstop : ∀ h : k < s.size, wordC s[k] = false) : ∀ (d i : Nat), i + d = k → (∀ m, (h : m < k) → i ≤ m → wordC (s[m]'(by omega)) = true) →
    (restOf s i).dropWhile wordC = restOf s k ∧ (⟨((restOf s i).takeWhile wordC).toArray⟩ : ByteArray) = s.extract i k := by
  intro d
  induction d with
  | zero =>
    intro i hi _
    obtain rfl : i = k := by omega
    have e0 : s.extract i i = ⟨#[]⟩ := by
      apply ByteArray.ext
      rw [ByteArray.data_extract]
      simp
      omega
    rw [e0]
    by_cases h : i < s.size
    · rw [restOf_get s i h, List.dropWhile_cons_of_neg (by rw [hstop h]; simp), List.takeWhile_cons_of_neg (by rw [hstop h]; simp)]
      exact ⟨rfl, rfl⟩
    · rw [restOf_end s i (by omega)]
      exact ⟨rfl, rfl⟩
  | succ d ih =>
    intro i hi hall
    have h : i < s.size := by omega
    obtain ⟨h1, h2⟩ := ih (i + 1) (by omega) fun m hm him => hall m hm (by omega)
    have h3 := hall i (by omega) (Nat.le_refl _)
    rw [restOf_get s i h, List.dropWhile_cons_of_pos h3, List.takeWhile_cons_of_pos h3]
    refine ⟨h1, ?_⟩
    apply ByteArray.ext
    have h4 := congrArg (fun b : ByteArray => b.data.toList) h2
    simp only [ByteArray.data_extract, Array.toList_extract, List.extract_eq_take_drop] at h4
    apply Array.toList_inj.1
    simp only [ByteArray.data_extract, Array.toList_extract, List.extract_eq_take_drop]
    rw [List.drop_eq_getElem_cons (show i < s.data.toList.length by simpa using h), show k - i = (k - (i + 1)) + 1 by omega, List.take_succ_cons, ← h4, Array.getElem_toList]
    rfl

/-- The word from i on is handed back; the reader stands behind it. -/
def Word (w : World) (p : Nat) (s : ByteArray) (i : Nat) (bad : Bool) (e : Ending) (w' : World) : Prop :=
  ∃ k, i ≤ k ∧ Read w p s (.string (s.extract i k)) k bad e w' ∧ (restOf s i).dropWhile wordC = restOf s k ∧ (⟨((restOf s i).takeWhile wordC).toArray⟩ : ByteArray) = s.extract i k

set_option maxHeartbeats 4000000 in
theorem word_any (p i : Nat) (s : ByteArray) (bad : Bool) (w : World) (h : RdAt w p s i bad) (hs : s.size ≤ 1048576) :
    Calls Tryd.prog 104 #[.pointer (some ⟨p, 0, none⟩)] w (Word w p s i bad) := by
  have c1 : w.cell? ⟨p, 1, none⟩ = some (.int .i64 (i : Int)) := Whole1.cell h.1 1
  have hi := h.2
  have H0 := Lib.hid h
  clear h
  go_enter Tryd.func104, Tryd.ntmps104
  go_wp2
  go_loopw [] (fun wr => ∃ k : Nat, i ≤ k ∧ RdAt wr p s k bad ∧ (∀ m, (h : m < s.size) → m < k → i ≤ m → wordC s[m] = true) ∧ w.grownBy wr (some p)) (fun wr => s.size - placeOf wr p)
  case atStart => exact ⟨i, Nat.le_refl _, H0.out, fun m _ h1 h2 => absurd h1 (by omega), only_refl _ _⟩
  case round =>
    obtain ⟨k, hik, hr, hall, hg⟩ := hrel
    have c0 : wr.cell? ⟨p, 0, none⟩ = some (.string s) := Whole1.cell hr.1 0
    have c1 : wr.cell? ⟨p, 1, none⟩ = some (.int .i64 (k : Int)) := Whole1.cell hr.1 1
    have f1 : wr.frozen? ⟨p, 1, none⟩ = false := Whole1.free hr.1 1
    have hk := hr.2
    have hpl := Lib.hid hr.place
    have HR := Lib.hid hr
    have HA := Lib.hid hall
    clear hr hall
    have done : (∀ h : k < s.size, wordC s[k] = false) → Hid ((restOf s i).dropWhile wordC = restOf s k ∧ (⟨((restOf s i).takeWhile wordC).toArray⟩ : ByteArray) = s.extract i k) := fun hst => Lib.hid (word_end s k hk hst (k - i) i (by omega) fun m hm him => HA.out m (by omega) hm him)
    by_cases hlt : k < s.size
    · have hltI : decide ((k : Int) < (s.size : Int)) = true := decide_eq_true (by omega)
      have hk0 : (0 : Int) ≤ (k : Int) := by omega
      have hkl : (k : Int) < (s.size : Int) := by omega
      have hwr : IntKind.i64.wrap ((k : Int) + 1) = (k : Int) + 1 := by rw [IntKind.wrap_i64]; omega
      have hW : wordC s[k] = ((decide (48 ≤ s[k].toNat) && decide (s[k].toNat ≤ 57)) || (decide (97 ≤ s[k].toNat) && decide (s[k].toNat ≤ 122))) := rfl
      have go : wordC s[k] = true → Hid (∀ m, (h : m < s.size) → m < k + 1 → i ≤ m → wordC s[m] = true) := fun hw => Lib.hid fun m hm h1 h2 => by
        by_cases e : m = k
        · subst e
          exact hw
        · exact HA.out m hm (by omega) h2
      have HW := Lib.hid hW
      have DONE := Lib.hid done
      have GO := Lib.hid go
      clear hW done go
      by_cases h48 : 48 ≤ s[k].toNat
      · by_cases h57 : s[k].toNat ≤ 57
        · have i1 : decide ((48 : Int) ≤ (s[k].toNat : Int)) = true := decide_eq_true (by omega)
          have i2 : decide ((s[k].toNat : Int) ≤ 57) = true := decide_eq_true (by omega)
          have HN := GO.out (by rw [HW.out]; simp [h48, h57])
          clear DONE h48 h57
          go_wp2
          go_quiet (fail)
          go_wp2
          go_roundw
          case rel => exact ⟨k + 1, by omega, (HR.out.drewN _).seti (k + 1) (by omega), HN.out, only_set (only_drewN hg _) 1 _⟩
          case measure =>
            rw [hpl.out]
            exact Nat.lt_of_le_of_lt (Nat.le_of_eq (congrArg (fun x => s.size - x) ((HR.out.drewN _).seti (k + 1) (by omega)).place)) (show s.size - (k + 1) < s.size - k by omega)
        · by_cases h97 : 97 ≤ s[k].toNat
          · by_cases h122 : s[k].toNat ≤ 122
            · have i1 : decide ((48 : Int) ≤ (s[k].toNat : Int)) = true := decide_eq_true (by omega)
              have i2 : decide ((s[k].toNat : Int) ≤ 57) = false := decide_eq_false (by omega)
              have i3 : decide ((97 : Int) ≤ (s[k].toNat : Int)) = true := decide_eq_true (by omega)
              have i4 : decide ((s[k].toNat : Int) ≤ 122) = true := decide_eq_true (by omega)
              have HN := GO.out (by rw [HW.out]; simp [h97, h122])
              clear DONE h97 h122 h57 h48
              go_wp2
              go_quiet (fail)
              go_wp2
              go_roundw
              case rel => exact ⟨k + 1, by omega, (HR.out.drewN _).seti (k + 1) (by omega), HN.out, only_set (only_drewN hg _) 1 _⟩
              case measure =>
                rw [hpl.out]
                exact Nat.lt_of_le_of_lt (Nat.le_of_eq (congrArg (fun x => s.size - x) ((HR.out.drewN _).seti (k + 1) (by omega)).place)) (show s.size - (k + 1) < s.size - k by omega)
            · have i1 : decide ((48 : Int) ≤ (s[k].toNat : Int)) = true := decide_eq_true (by omega)
              have i2 : decide ((s[k].toNat : Int) ≤ 57) = false := decide_eq_false (by omega)
              have i3 : decide ((97 : Int) ≤ (s[k].toNat : Int)) = true := decide_eq_true (by omega)
              have i4 : decide ((s[k].toNat : Int) ≤ 122) = false := decide_eq_false (by omega)
              have HD := DONE.out (fun _ => by rw [HW.out]; simp; omega)
              clear DONE h97 h122 h57 h48
              have hl0 : (0 : Int) ≤ (i : Int) := by omega
              have hl1 : (i : Int) ≤ (k : Int) := by omega
              have hl2 : (k : Int) ≤ (s.size : Int) := by omega
              go_wp2
              go_quiet (fail)
              go_wp2
              go_quiet (fail)
              go_wp2
              go_ret
              exact ⟨k, hik, ⟨rfl, (HR.out.drewN _).drewN _, only_drewN (only_drewN hg _) _⟩, HD.out⟩
          · have i1 : decide ((48 : Int) ≤ (s[k].toNat : Int)) = true := decide_eq_true (by omega)
            have i2 : decide ((s[k].toNat : Int) ≤ 57) = false := decide_eq_false (by omega)
            have i3 : decide ((97 : Int) ≤ (s[k].toNat : Int)) = false := decide_eq_false (by omega)
            have HD := DONE.out (fun _ => by rw [HW.out]; simp; omega)
            clear DONE h97 h57 h48
            have hl0 : (0 : Int) ≤ (i : Int) := by omega
            have hl1 : (i : Int) ≤ (k : Int) := by omega
            have hl2 : (k : Int) ≤ (s.size : Int) := by omega
            go_wp2
            go_quiet (fail)
            go_wp2
            go_quiet (fail)
            go_wp2
            go_ret
            exact ⟨k, hik, ⟨rfl, (HR.out.drewN _).drewN _, only_drewN (only_drewN hg _) _⟩, HD.out⟩
      · have i1 : decide ((48 : Int) ≤ (s[k].toNat : Int)) = false := decide_eq_false (by omega)
        have i3 : decide ((97 : Int) ≤ (s[k].toNat : Int)) = false := decide_eq_false (by omega)
        have HD := DONE.out (fun _ => by rw [HW.out]; simp; omega)
        clear DONE h48
        have hl0 : (0 : Int) ≤ (i : Int) := by omega
        have hl1 : (i : Int) ≤ (k : Int) := by omega
        have hl2 : (k : Int) ≤ (s.size : Int) := by omega
        go_wp2
        go_quiet (fail)
        go_wp2
        go_quiet (fail)
        go_wp2
        go_ret
        exact ⟨k, hik, ⟨rfl, (HR.out.drewN _).drewN _, only_drewN (only_drewN hg _) _⟩, HD.out⟩
    · have hltI : decide ((k : Int) < (s.size : Int)) = false := decide_eq_false (by omega)
      have HD := done (fun h => absurd h hlt)
      have hl0 : (0 : Int) ≤ (i : Int) := by omega
      have hl1 : (i : Int) ≤ (k : Int) := by omega
      have hl2 : (k : Int) ≤ (s.size : Int) := by omega
      clear done
      go_wp2
      go_quiet (fail)
      go_wp2
      go_quiet (fail)
      go_wp2
      go_ret
      exact ⟨k, hik, ⟨rfl, (HR.out.drewN _).drewN _, only_drewN (only_drewN hg _) _⟩, HD.out⟩

end Go.Proofs.YtlmbnefoobameaaDoor

namespace Go.Proofs.YtlmbnefoobameaaDoor
open Go.RowKit

theorem RdAt.grown {w w' : World} {p i q : Nat} {s : ByteArray} {bad : Bool} (h : RdAt w p s i bad) (hg : w.grownBy w' (some q)) (hne : p ≠ q) : RdAt w' p s i bad := h.block (hg.block p h.lt (fun e => by injection e with e; exact hne e))
theorem RdAt.below {w w' : World} {p i B : Nat} {s : ByteArray} {bad : Bool} (h : RdAt w p s i bad) (hb : Below B w w') (hp : p < B) : RdAt w' p s i bad := h.block (hb.block p hp)

/-- The zero box of the result. -/
abbrev ZeroBox (w : World) (g : Nat) : Prop := Whole1 w g 30 #[.int .i64 0, .slice none 0 0, .slice none 0 0]

/-- The struct under way, in block z; the reader in block p; the result's box in block r. -/
structure Making (w W : World) (p z r : Nat) (s : ByteArray) (j : Nat) (bad : Bool) (a b c : Value) : Prop where
  rd : RdAt W p s j bad
  box : Whole1 W z 30 #[a, b, c]
  zero : ZeroBox W r
  grown : w.grownBy W (some p)

/-- What a reading of the reader does to the struct under way: nothing. -/
theorem Making.read {w W W' : World} {p z r j j' : Nat} {s : ByteArray} {bad bad' : Bool} {a b c : Value} (h : Making w W p z r s j bad a b c) (hr : RdAt W' p s j' bad') (hg : W.grownBy W' (some p)) (hz : z ≠ p) (hrp : r ≠ p) : Making w W' p z r s j' bad' a b c :=
  ⟨hr, (hg.block z h.box.lt (fun e => by injection e with e; exact hz e)).trans h.box, (hg.block r h.zero.lt (fun e => by injection e with e; exact hrp e)).trans h.zero, only_trans h.grown hg⟩
/-- What lies from B on may be made or written, but for the struct under way. -/
theorem Making.more {w W W' : World} {p z r j B : Nat} {s : ByteArray} {bad : Bool} {a b c : Value} (h : Making w W p z r s j bad a b c) (hb : Below B W W') (hz : z < B) (hr : r < B) (hp : p < B) (hB : w.heap.size ≤ B) : Making w W' p z r s j bad a b c :=
  ⟨h.rd.below hb hp, h.box.below hb hz, h.zero.below hb hr, grown_low h.grown hb hB⟩
/-- A part of the struct under way is written. -/
theorem Making.put {w W : World} {p z r j : Nat} {s : ByteArray} {bad : Bool} {a b c : Value} (h : Making w W p z r s j bad a b c) (i : Nat) (v : Value) (hz : z ≠ p) (hr : z ≠ r) (hw : w.heap.size ≤ z) :
    RdAt (W.setCell ⟨z, i, none⟩ v) p s j bad ∧ Whole1 (W.setCell ⟨z, i, none⟩ v) z 30 (#[a, b, c].setIfInBounds i v) ∧ ZeroBox (W.setCell ⟨z, i, none⟩ v) r ∧ w.grownBy (W.setCell ⟨z, i, none⟩ v) (some p) :=
  ⟨h.rd.block (Below.heap_setCell _ _ _ _ (fun e => hz e.symm)), h.box.set i v, (Below.heap_setCell _ _ _ _ (fun e => hr e.symm)).trans h.zero, grown_low h.grown ((Below.refl w.heap.size W).setCell hw v) (Nat.le_refl _)⟩
theorem Making.put1 {w W : World} {p z r j : Nat} {s : ByteArray} {bad : Bool} {a b c : Value} (h : Making w W p z r s j bad a b c) (v : Value) (hz : z ≠ p) (hr : z ≠ r) (hw : w.heap.size ≤ z) : Making w (W.setCell ⟨z, 1, none⟩ v) p z r s j bad a v c := by
  obtain ⟨h1, h2, h3, h4⟩ := h.put 1 v hz hr hw
  exact ⟨h1, h2, h3, h4⟩
theorem Making.put2 {w W : World} {p z r j : Nat} {s : ByteArray} {bad : Bool} {a b c : Value} (h : Making w W p z r s j bad a b c) (v : Value) (hz : z ≠ p) (hr : z ≠ r) (hw : w.heap.size ≤ z) : Making w (W.setCell ⟨z, 2, none⟩ v) p z r s j bad a b v := by
  obtain ⟨h1, h2, h3, h4⟩ := h.put 2 v hz hr hw
  exact ⟨h1, h2, h3, h4⟩

/-- The world with the reader's block turned. -/
theorem turned {w W : World} {p i j : Nat} {s : ByteArray} {b b' : Bool} (h : RdAt w p s i b) (h' : RdAt W p s j b') (hg : w.grownBy W (some p)) :
    ∃ w', w.grownBy w' (some p) ∧ w'.heap.size = w.heap.size ∧ Below w.heap.size w' W := by
  refine ⟨(w.setCell ⟨p, 1, none⟩ (.int .i64 (j : Int))).setCell ⟨p, 2, none⟩ (.bool b'), only_set (only_set (only_refl _ _) 1 _) 2 _, by simp [World.setCell], ?_⟩
  refine ⟨hg.os, hg.tape, hg.output, by have := hg.size; simpa [World.setCell] using this, fun q hq => ?_⟩
  by_cases e : q = p
  · subst e
    have h1 : Whole1 ((w.setCell ⟨q, 1, none⟩ (.int .i64 (j : Int))).setCell ⟨q, 2, none⟩ (.bool b')) q 82 #[.string s, .int .i64 (j : Int), .bool b'] := (Whole1.set h.1 1 _).set 2 _
    exact (show W.heap[q]? = _ from h'.1).trans (show _ = _ from h1).symm
  · rw [Below.heap_setCell _ _ _ _ e, Below.heap_setCell _ _ _ _ e]
    exact hg.block q hq (fun e' => by injection e' with e'; exact e e')

theorem OwnAt.setz {w : World} {z i lc ac : Nat} {L A : Option Addr} {t : Ty} {xs : List Value} {vs : Nat → Value} {lo hi : Nat → Nat} (h : OwnAt w (z + 1) L lc A ac t xs vs lo hi) (v : Value) : OwnAt (w.setCell ⟨z, i, none⟩ v) (z + 1) L lc A ac t xs vs lo hi :=
  h.keep (by simp [World.setCell]) (fun g hg _ => Below.heap_setCell _ _ _ _ (by have := (h.row.lt g hg).1; show g ≠ z; omega)) (fun g hg _ => Below.heap_setCell _ _ _ _ (by have := (h.parts.own.lt g hg).1; show g ≠ z; omega))
    (fun i' hi' b hb _ => Below.heap_setCell _ _ _ _ (by have := (h.parts.low i' hi').1; have := hb.1; show b ≠ z; omega))
theorem OwnAt.alloc {w : World} {base lc ac : Nat} {L A : Option Addr} {t : Ty} {xs : List Value} {vs : Nat → Value} {lo hi : Nat → Nat} (h : OwnAt w base L lc A ac t xs vs lo hi) (o : Obj) : OwnAt (w.alloc o) base L lc A ac t xs vs lo hi :=
  h.keep (by simp) (fun g _ hl => Below.heap_alloc _ _ _ hl) (fun g _ hl => Below.heap_alloc _ _ _ hl) (fun _ _ b _ hl => Below.heap_alloc _ _ _ hl)

/-- An error: some value, the reader knows it. -/
def Bads (w : World) (p : Nat) (s : ByteArray) (e : Ending) (w' : World) : Prop :=
  ∃ x L n lc A m ac j, e = .returned (.agg #[.int .i64 x, .slice L n lc, .slice A m ac]) ∧ RdAt w' p s j true ∧ w.grownBy w' (some p)
/-- The tree t; r is still to read. -/
def Goods (w : World) (p : Nat) (s : ByteArray) (t : Ty) (r : List UInt8) (e : Ending) (w' : World) : Prop :=
  ∃ v j, e = .returned v ∧ r = restOf s j ∧ RdAt w' p s j false ∧ OwnTy w' w.heap.size v t ∧ w.grownBy w' (some p)
theorem grown_drewR {w w' : World} {row : Option Nat} (h : w.drew.grownBy w' row) : w.grownBy w' row := ⟨h.os, h.tape, h.output, h.size, h.block⟩
/-- What is read so far, ahead of the rest. -/
def glue (ls : List ByteArray) (ts : List Ty) : Option (List ByteArray × List Ty × List UInt8) → Option (List ByteArray × List Ty × List UInt8)
  | none => none
  | some (a, b, q) => some (ls ++ a, ts ++ b, q)
theorem glue_nil (x : Option (List ByteArray × List Ty × List UInt8)) : glue [] [] x = x := by
  cases x with
  | none => rfl
  | some v => rfl
theorem eat_hit {c : UInt8} {s : ByteArray} {k : Nat} (hk : k < s.size) (hc : s[k] = c) : eat c (restOf s k) = some (restOf s (k + 1)) := by rw [eat_at c s k hk, if_pos hc]
theorem eat_miss {c : UInt8} {s : ByteArray} {k : Nat} (h : ¬ ∃ hk : k < s.size, s[k] = c) : eat c (restOf s k) = none := by
  by_cases hk : k < s.size
  · rw [eat_at c s k hk, if_neg fun e => h ⟨hk, e⟩]
  · rw [restOf_end s k (by omega)]
    rfl

/-- One round of the labels. -/
theorem round_colon {f : List UInt8 → Option (Ty × List UInt8)} {s : ByteArray} {j k fuel : Nat} {ls : List ByteArray} {ts : List Ty} (hd : (restOf s j).dropWhile wordC = restOf s k) (hf : (restOf s j).length < fuel) (h : eat 58 (restOf s k) = none) : glue ls ts (rdLab f fuel (restOf s j)) = none := by
  obtain ⟨m, rfl⟩ : ∃ m, fuel = m + 1 := ⟨fuel - 1, by omega⟩
  rw [rdLab, hd, h]
  rfl
theorem round_type {f : List UInt8 → Option (Ty × List UInt8)} {s : ByteArray} {j k fuel : Nat} {ls : List ByteArray} {ts : List Ty} (hd : (restOf s j).dropWhile wordC = restOf s k) (hf : (restOf s j).length < fuel) (h : eat 58 (restOf s k) = some (restOf s (k + 1))) (ht : f (restOf s (k + 1)) = none) : glue ls ts (rdLab f fuel (restOf s j)) = none := by
  obtain ⟨m, rfl⟩ : ∃ m, fuel = m + 1 := ⟨fuel - 1, by omega⟩
  rw [rdLab, hd, h]
  simp only [ht]
  rfl
theorem round_last {f : List UInt8 → Option (Ty × List UInt8)} {s e : ByteArray} {j k fuel : Nat} {ls : List ByteArray} {ts : List Ty} {t : Ty} {r : List UInt8} (hd : (restOf s j).dropWhile wordC = restOf s k) (he : (⟨((restOf s j).takeWhile wordC).toArray⟩ : ByteArray) = e) (hf : (restOf s j).length < fuel) (h : eat 58 (restOf s k) = some (restOf s (k + 1))) (ht : f (restOf s (k + 1)) = some (t, r)) (hc : eat 44 r = none) :
    glue ls ts (rdLab f fuel (restOf s j)) = some (ls ++ [e], ts ++ [t], r) := by
  obtain ⟨m, rfl⟩ : ∃ m, fuel = m + 1 := ⟨fuel - 1, by omega⟩
  rw [rdLab, hd, h]
  simp only [ht, hc, he]
  rfl
theorem round_more {f : List UInt8 → Option (Ty × List UInt8)} {s e : ByteArray} {j k fuel : Nat} {ls : List ByteArray} {ts : List Ty} {t : Ty} {r r2 : List UInt8} (hd : (restOf s j).dropWhile wordC = restOf s k) (he : (⟨((restOf s j).takeWhile wordC).toArray⟩ : ByteArray) = e) (hf : (restOf s j).length < fuel) (h : eat 58 (restOf s k) = some (restOf s (k + 1))) (ht : f (restOf s (k + 1)) = some (t, r)) (hc : eat 44 r = some r2) :
    glue ls ts (rdLab f fuel (restOf s j)) = glue (ls ++ [e]) (ts ++ [t]) (rdLab f (fuel - 1) r2) := by
  obtain ⟨m, rfl⟩ : ∃ m, fuel = m + 1 := ⟨fuel - 1, by omega⟩
  rw [rdLab, hd, h, Nat.add_sub_cancel]
  simp only [ht, hc, he]
  cases rdLab f m r2 with
  | none => rfl
  | some v => simp [glue]

end Go.Proofs.YtlmbnefoobameaaDoor
end
