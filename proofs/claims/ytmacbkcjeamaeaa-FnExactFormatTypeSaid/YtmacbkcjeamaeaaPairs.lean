/- The stack of a comparison of trees: its pairs, and what the map remembers. -/
import Derived.Test.YtmacbkcjeamaeaaPlace2
import Derived.Test.YtmacbkcjeamaeaaFrames
import Derived.Test.YtmacbkcjeamaeaaImplEq1
namespace Go.Proofs.Ytmacbkcjeamaeaa
set_option maxRecDepth 100000
open Go.RowKit

/-- Two trees, and how they lie in cells. -/
structure Pr where
  x : Ty
  y : Ty
  L : Option Addr
  l : Nat
  A : Option Addr
  a : Nat
  L' : Option Addr
  l' : Nat
  A' : Option Addr
  a' : Nat

def prCells (p : Pr) : List Value := [.int .i64 p.x.kind, .slice p.L p.x.labels.length p.l, .slice p.A p.x.args.length p.a, .int .i64 p.y.kind, .slice p.L' p.y.labels.length p.l', .slice p.A' p.y.args.length p.a']
def pCells : List Pr → List Value | [] => [] | p :: r => pCells r ++ prCells p
theorem pCells_len : ∀ l : List Pr, (pCells l).length = l.length * 6
  | [] => rfl
  | f :: r => by
    rw [pCells, List.length_append, pCells_len r]
    simp [prCells]
    omega
def pSize : List Pr → Nat | [] => 0 | p :: r => sizeTy p.x + pSize r
theorem pSize_len : ∀ l : List Pr, l.length ≤ pSize l
  | [] => Nat.le_refl _
  | p :: r => by
    have := pSize_len r
    have := sizeTy_eq p.x
    rw [pSize, List.length_cons]
    omega

def PrOk (w1 : World) (B : Nat) (p : Pr) : Prop := TyIn w1 (fun b => b < B) (.agg #[.int .i64 p.x.kind, .slice p.L p.x.labels.length p.l, .slice p.A p.x.args.length p.a]) p.x ∧ TyIn w1 (fun b => b < B) (.agg #[.int .i64 p.y.kind, .slice p.L' p.y.labels.length p.l', .slice p.A' p.y.args.length p.a']) p.y

/-- At the place P lie the trees l. -/
def PlAt (w1 : World) (B : Nat) (P : Pl) (l : List Ty) : Prop := (P = none ∧ l = []) ∨ ∃ g, P = some (g, l.length) ∧ l ≠ [] ∧ TysIn w1 (fun b => b < B) (some ⟨g, 0, none⟩) l
theorem PlAt.uniq {w1 : World} {B : Nat} {P : Pl} {l l' : List Ty} (h : PlAt w1 B P l) (h' : PlAt w1 B P l') : l = l' := by
  rcases h with ⟨rfl, rfl⟩ | ⟨g, rfl, h1, h2⟩
  · rcases h' with ⟨_, rfl⟩ | ⟨g', h3, _⟩
    · rfl
    · cases h3
  · rcases h' with ⟨h3, _⟩ | ⟨g', h3, h4, h5⟩
    · cases h3
    · simp at h3
      obtain ⟨rfl, h6⟩ := h3
      exact h2.uniq h5 h6

theorem place_of {w1 : World} {B mb : Nat} (hmb : ∀ (t : TypeId) (cs : Array Value), ¬ Whole1 w1 mb t cs) {A : Option Addr} {ts : List Ty} (h : TysIn w1 (fun b => b < B) A ts) (c : Nat) : ∃ P, PlAt w1 B P ts ∧ PlOk w1 B mb P ∧ ∀ W, Calls Try.prog 82 #[.slice A ts.length c] W (PlaceRet W P) := by
  by_cases h0 : ts = []
  · subst h0
    exact ⟨none, .inl ⟨rfl, rfl⟩, fun g n e => (by cases e), fun W => placeOf_nil A c W⟩
  · obtain ⟨g, cs, rfl, _, _⟩ := h.addr h0
    exact ⟨some (g, ts.length), .inr ⟨g, rfl, h0, h⟩, Inv.ok_key hmb h h0 _, fun W => placeOf_some g _ c W (List.length_pos_iff.2 h0)⟩

theorem TyIn.args_of {w1 : World} {B : Nat} {a b : Value} {A : Option Addr} {n c : Nat} {t : Ty} (h : TyIn w1 (fun b => b < B) (.agg #[a, b, .slice A n c]) t) : n = t.args.length ∧ TysIn w1 (fun b => b < B) A t.args := by
  obtain ⟨L, lc, A', ac, gl, hv, _, _, _, ha⟩ := h.open
  simp at hv
  obtain ⟨_, _, rfl, rfl, _⟩ := hv
  obtain ⟨m0, ga', vs', Ss', m1, m2, m3, m4⟩ := ha
  exact ⟨rfl, m0, ga', vs', Ss', m1.imp id fun ⟨a, b, c⟩ => ⟨a, b.1, c⟩, fun i hi b hb => ⟨(m2 i hi b hb).1.1, (m2 i hi b hb).2⟩, m3, m4⟩

/-- Tree i of a slice: its cells. -/
theorem TysIn.elem3 {w1 : World} {B : Nat} {A : Option Addr} {ts : List Ty} (h : TysIn w1 (fun b => b < B) A ts) (i : Nat) (hi : i < ts.length) : ∃ g L lc A' ac, A = some ⟨g, 0, none⟩ ∧ g < B ∧ (∃ t cs, Whole1 w1 g t cs) ∧ w1.cell? ⟨g, i * 3, none⟩ = some (.int .i64 ts[i].kind) ∧ w1.cell? ⟨g, i * 3 + 1, none⟩ = some (.slice L ts[i].labels.length lc) ∧
    w1.cell? ⟨g, i * 3 + 2, none⟩ = some (.slice A' ts[i].args.length ac) ∧ TyIn w1 (fun b => b < B) (.agg #[.int .i64 ts[i].kind, .slice L ts[i].labels.length lc, .slice A' ts[i].args.length ac]) ts[i] := by
  obtain ⟨hm, ga, vs, Ss, h1, h2, h3, h4⟩ := h
  rcases h1 with rfl | ⟨rfl, h5, h6⟩
  · exact absurd hi (by simp)
  · obtain ⟨L, lc, A', ac, gl, hv, _⟩ := (h4 i hi).open
    have c0 := h6.cell i 0 hi (by omega)
    have c1 := h6.cell i 1 hi (by omega)
    have c2 := h6.cell i 2 hi (by omega)
    have ht := (h4 i hi).wide fun b hb => (h2 i hi b hb).1
    have h7 : ∃ t cs, Whole1 w1 ga t cs := by
      obtain ⟨cs, h7, _⟩ := h6
      exact ⟨_, cs, h7⟩
    rw [hv] at c0 c1 c2 ht
    exact ⟨ga, L, lc, A', ac, rfl, h5, h7, c0, c1, c2, ht⟩

/-- The state of the comparison. -/
structure Inv2 (w1 : World) (B mb : Nat) (a0 b0 : Ty) (wc w : World) (v : Value) (stk : List Pr) (F : Pl × Pl → Option Value) : Prop where
  own : w.ownsRow B 108 6 v stk.length (pCells stk)
  keep : PlWd w1 B mb w
  call : Below wc.heap.size wc w
  known : Known pl2Val (Pl2Ok w1 B mb) w mb F
  ok : ∀ p ∈ stk, PrOk w1 B p
  fwd : (∀ p ∈ stk, p.x = p.y) → a0 = b0
  bwd : a0 = b0 → ∀ p ∈ stk, p.x = p.y
  vals : ∀ k u, F k = some u → u = .bool true
  memo : ∀ P Q l m u, F (P, Q) = some u → PlAt w1 B P l → PlAt w1 B Q m → (∀ p ∈ stk, sizeTy p.x ≤ sizeTys l → p.x = p.y) → l = m
  cnt : pSize stk ≤ 2000000
  size : B ≤ w.heap.size

section
variable {w1 wc w : World} {B mb : Nat} {a0 b0 : Ty} {v : Value} {p : Pr} {r stk : List Pr} {F : Pl × Pl → Option Value}

theorem Inv2.below {w' : World} (h : Inv2 w1 B mb a0 b0 wc w v stk F) (hB0 : wc.heap.size ≤ w.heap.size) (hb : Below w.heap.size w w') : Inv2 w1 B mb a0 b0 wc w' v stk F :=
  { h with
    own := owns_keep4 h.own fun g hg => hb.block g (h.own.lt g hg).2
    keep := fun g hg hne => (hb.block g (Nat.lt_of_lt_of_le hg h.size)).trans (h.keep g hg hne)
    call := h.call.trans (hb.mono hB0)
    known := h.known.keep (hb.block mb h.known.lt)
    size := Nat.le_trans h.size hb.size }

theorem same_of (h1 : nodesB p.x p.y = true) (h2 : p.x.args = p.y.args) : p.x = p.y := by
  unfold nodesB at h1
  rw [Bool.and_eq_true_iff] at h1
  have h3 := of_decide_eq_true h1.1
  have h4 := h1.2
  unfold textsB at h4
  exact Ty.ext h3 (of_decide_eq_true h4) h2

/-- The places are known: the pair is passed by. -/
theorem Inv2.skip {w' : World} {v' : Value} (h : Inv2 w1 B mb a0 b0 wc w v (p :: r) F) (hn : nodesB p.x p.y = true) {P Q : Pl} {u : Value} (hP : PlAt w1 B P p.x.args) (hQ : PlAt w1 B Q p.y.args) (hF : F (P, Q) = some u)
    (hown : w'.ownsRow B 108 6 v' r.length (pCells r)) (hkeep : PlWd w1 B mb w') (hcall : Below wc.heap.size wc w') (hkn : Known pl2Val (Pl2Ok w1 B mb) w' mb F) (hB : B ≤ w'.heap.size) : Inv2 w1 B mb a0 b0 wc w' v' r F := by
  have hsz := sizeTy_eq p.x
  have hp : (∀ q ∈ r, sizeTy q.x ≤ sizeTys p.x.args → q.x = q.y) → p.x = p.y := fun hr => same_of hn (h.memo P Q _ _ u hF hP hQ fun q hq hs => by
    rcases List.mem_cons.1 hq with rfl | hq
    · omega
    · exact hr q hq hs)
  refine { own := hown, keep := hkeep, call := hcall, known := hkn, ok := fun q hq => h.ok q (List.mem_cons_of_mem _ hq), fwd := fun hr => h.fwd fun q hq => ?_, bwd := fun e q hq => h.bwd e q (List.mem_cons_of_mem _ hq), vals := h.vals, memo := fun P' Q' l m u' hF' hl hm hr => h.memo P' Q' l m u' hF' hl hm fun q hq hs => ?_, cnt := by have := h.cnt; rw [pSize] at this; omega, size := hB }
  · rcases List.mem_cons.1 hq with rfl | hq
    · exact hp fun q' hq' _ => hr q' hq'
    · exact hr q hq
  · rcases List.mem_cons.1 hq with rfl | hq
    · exact hp fun q' hq' hs' => hr q' hq' (by omega)
    · exact hr q hq hs

/-- The pairs of the parts, as far as they were laid onto the stack. -/
structure Kids (w1 : World) (B : Nat) (l m : List Ty) (k : Nat) (ks : List Pr) : Prop where
  all : ∀ i, (h1 : i < l.length) → (h2 : i < m.length) → i < k → ∃ q ∈ ks, q.x = l[i] ∧ q.y = m[i]
  only : ∀ q ∈ ks, ∃ i, ∃ (h1 : i < l.length) (h2 : i < m.length), q.x = l[i] ∧ q.y = m[i]
  ok : ∀ q ∈ ks, PrOk w1 B q
  size : pSize ks = sizeTys (l.take k)
  len : ks.length = k
theorem Kids.nil (w1 : World) (B : Nat) (l m : List Ty) : Kids w1 B l m 0 [] := ⟨fun _ _ _ h => absurd h (Nat.not_lt_zero _), fun q h => absurd h (by simp), fun q h => absurd h (by simp), by simp [pSize, sizeTys], rfl⟩
theorem Kids.snoc {l m : List Ty} {k : Nat} {ks : List Pr} (h : Kids w1 B l m k ks) (h1 : k < l.length) (h2 : k < m.length) (q : Pr) (hx : q.x = l[k]) (hy : q.y = m[k]) (hq : PrOk w1 B q) : Kids w1 B l m (k + 1) (q :: ks) := by
  refine ⟨fun i i1 i2 hi => ?_, fun q' hq' => ?_, fun q' hq' => ?_, ?_, by rw [List.length_cons, h.len]⟩
  · by_cases e : i = k
    · subst e
      exact ⟨q, List.mem_cons_self, hx, hy⟩
    · obtain ⟨q', a, b⟩ := h.all i i1 i2 (by omega)
      exact ⟨q', List.mem_cons_of_mem _ a, b⟩
  · rcases List.mem_cons.1 hq' with rfl | hq'
    · exact ⟨k, h1, h2, hx, hy⟩
    · exact h.only q' hq'
  · rcases List.mem_cons.1 hq' with rfl | hq'
    · exact hq
    · exact h.ok q' hq'
  · rw [pSize, h.size, sizeTys_take l k h1, hx]
    omega

/-- The pairs of all parts lie on the stack. -/
theorem Inv2.push {w' : World} {v' : Value} (h : Inv2 w1 B mb a0 b0 wc w v (p :: r) F) (hn : nodesB p.x p.y = true) (hl : p.x.args.length = p.y.args.length) {P Q : Pl} (hP : PlAt w1 B P p.x.args) (hQ : PlAt w1 B Q p.y.args) {ks : List Pr} (hk : Kids w1 B p.x.args p.y.args p.x.args.length ks)
    (hown : w'.ownsRow B 108 6 v' (ks ++ r).length (pCells (ks ++ r))) (hkeep : PlWd w1 B mb w') (hcall : Below wc.heap.size wc w') (hkn : Known pl2Val (Pl2Ok w1 B mb) w' mb (put F (P, Q) (.bool true))) (hB : B ≤ w'.heap.size) : Inv2 w1 B mb a0 b0 wc w' v' (ks ++ r) (put F (P, Q) (.bool true)) := by
  have hsz := sizeTy_eq p.x
  have hkids : (∀ q ∈ ks, q.x = q.y) → p.x.args = p.y.args := fun hq => List.ext_getElem hl fun i i1 i2 => by
    obtain ⟨q, h1, h2, h3⟩ := hk.all i i1 i2 i1
    rw [← h2, ← h3]
    exact hq q h1
  have hsmall : ∀ q ∈ ks, sizeTy q.x ≤ sizeTys p.x.args := fun q hq => by
    obtain ⟨i, i1, i2, h2, _⟩ := hk.only q hq
    rw [h2]
    have h3 := sizeTys_take p.x.args i i1
    have h4 := sizeTys_le p.x.args (i + 1)
    omega
  have happ : ∀ a b : List Pr, pSize (a ++ b) = pSize a + pSize b := fun a b => by
    induction a with
    | nil => simp [pSize]
    | cons x a ih =>
      rw [List.cons_append, pSize, pSize, ih]
      omega
  refine { own := hown, keep := hkeep, call := hcall, known := hkn, ok := fun q hq => ?_, fwd := fun hr => h.fwd fun q hq => ?_, bwd := fun e q hq => ?_, vals := fun k u hu => ?_, memo := fun P' Q' l m u' hF' hl' hm' hr => ?_, cnt := ?_, size := hB }
  · rcases List.mem_append.1 hq with hq | hq
    · exact hk.ok q hq
    · exact h.ok q (List.mem_cons_of_mem _ hq)
  · rcases List.mem_cons.1 hq with rfl | hq
    · exact same_of hn (hkids fun q' hq' => hr q' (List.mem_append.2 (.inl hq')))
    · exact hr q (List.mem_append.2 (.inr hq))
  · rcases List.mem_append.1 hq with hq | hq
    · obtain ⟨i, i1, i2, h2, h3⟩ := hk.only q hq
      have he := h.bwd e p List.mem_cons_self
      rw [h2, h3]
      have : p.x.args[i]? = p.y.args[i]? := by rw [he]
      rw [List.getElem?_eq_getElem i1, List.getElem?_eq_getElem i2] at this
      exact Option.some.inj this
    · exact h.bwd e q (List.mem_cons_of_mem _ hq)
  · by_cases e : k = (P, Q)
    · subst e
      rw [put_same] at hu
      exact (Option.some.inj hu).symm
    · rw [put_other _ _ _ _ e] at hu
      exact h.vals k u hu
  · by_cases e : (P', Q') = (P, Q)
    · cases e
      have e1 := hl'.uniq hP
      have e2 := hm'.uniq hQ
      subst e1 e2
      exact hkids fun q hq => hr q (List.mem_append.2 (.inl hq)) (hsmall q hq)
    · rw [put_other _ _ _ _ e] at hF'
      refine h.memo P' Q' l m u' hF' hl' hm' fun q hq hs => ?_
      rcases List.mem_cons.1 hq with rfl | hq
      · exact same_of hn (hkids fun q' hq' => hr q' (List.mem_append.2 (.inl hq')) (by have := hsmall q' hq'; omega))
      · exact hr q (List.mem_append.2 (.inr hq)) hs
  · have h1 := h.cnt
    rw [pSize] at h1
    rw [happ, hk.size, List.take_length]
    omega

end

/-- The row's last six cells. -/
theorem row_top6 {w : World} {B n : Nat} {T : TypeId} {v : Value} {xs : List Value} {a b c d e f : Value} (h : w.ownsRow B T 6 v (n + 1) (xs ++ [a, b, c, d, e, f])) (hx : xs.length = n * 6) :
    ∃ q cap cur, v = .slice (some ⟨q, 0, none⟩) (n + 1) cap ∧ B ≤ q ∧ Whole1 w q T cur ∧ n + 1 ≤ cap ∧ w.ownsRow B T 6 (.slice (some ⟨q, 0, none⟩) n cap) n xs ∧ cur[n * 6]? = some a ∧ cur[n * 6 + 1]? = some b ∧ cur[n * 6 + 2]? = some c ∧ cur[n * 6 + 3]? = some d ∧ cur[n * 6 + 4]? = some e ∧ cur[n * 6 + 5]? = some f := by
  rcases h.2 with ⟨_, h0⟩ | ⟨q, cap, cur, rfl, h2, h3, h4, h5, h6, h7⟩
  · omega
  · have hi : ∀ i, i < (n + 1) * 6 → cur[i]? = (xs ++ [a, b, c, d, e, f])[i]? := fun i hi => by
      rw [← h7, List.getElem?_take, if_pos hi]
      simp
    have htk : cur.toList.take (n * 6) = xs := by
      have : cur.toList.take (n * 6) = (cur.toList.take ((n + 1) * 6)).take (n * 6) := by rw [List.take_take, Nat.min_eq_left (by omega)]
      rw [this, h7, List.take_append_of_le_length (by omega), ← hx, List.take_length]
    have hc : ∀ j, j < 6 → cur[n * 6 + j]? = [a, b, c, d, e, f][j]? := fun j hj => by
      rw [hi _ (by omega), List.getElem?_append_right (by omega), hx, show n * 6 + j - n * 6 = j by omega]
    exact ⟨q, cap, cur, rfl, h2, h3, h4, ⟨hx, .inr ⟨q, cap, cur, rfl, h2, h3, by omega, h5, h6, htk⟩⟩, hc 0 (by omega), hc 1 (by omega), hc 2 (by omega), hc 3 (by omega), hc 4 (by omega), hc 5 (by omega)⟩

end Go.Proofs.Ytmacbkcjeamaeaa
