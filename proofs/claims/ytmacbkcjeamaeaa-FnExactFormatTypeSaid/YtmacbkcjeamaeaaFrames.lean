/- The stack of a walk through trees: what its frames are, and what the map knows. -/
import Derived.Test.YtmacbkcjeamaeaaAddNode
namespace Go.Proofs.Ytmacbkcjeamaeaa
set_option maxRecDepth 100000
open Go.RowKit

theorem TysAt.uniq_of {w : World} {B B' : Nat} {A : Option Addr} {ts ts' : List Ty} (hu : ∀ i, (h : i < ts.length) → ∀ v B' t', TyAt w B v ts[i] → TyAt w B' v t' → ts[i] = t') (h : TysAt w B A ts) (h' : TysAt w B' A ts') (hl : ts.length = ts'.length) : ts = ts' := by
  obtain ⟨_, vs, h1, h2⟩ := h
  obtain ⟨_, vs', h1', h2'⟩ := h'
  refine List.ext_getElem hl fun i hi hi' => ?_
  obtain ⟨b, off, e, _, hc⟩ := h1 i hi
  obtain ⟨b', off', e', _, hc'⟩ := h1' i hi'
  rw [e] at e'
  cases e'
  have ht := h2 i hi
  have ht' := h2' i hi'
  obtain ⟨L, lc, A1, ac, hv, _⟩ := ht.open
  obtain ⟨L', lc', A1', ac', hv', _⟩ := ht'.open
  have : vs i = vs' i := by
    have c0 := (hc 0 (by omega)).symm.trans (hc' 0 (by omega))
    have c1 := (hc 1 (by omega)).symm.trans (hc' 1 (by omega))
    have c2 := (hc 2 (by omega)).symm.trans (hc' 2 (by omega))
    rw [hv, hv'] at c0 c1 c2 ⊢
    simp [partAt] at c0 c1 c2
    simp [c0, c1, c2]
  rw [← this] at ht'
  exact hu i hi _ _ _ ht ht'

theorem StrsAt.uniq {w : World} {B B' : Nat} {A : Option Addr} {ss ss' : List ByteArray} (h : StrsAt w B A ss) (h' : StrsAt w B' A ss') (hl : ss.length = ss'.length) : ss = ss' := by
  refine List.ext_getElem hl fun i hi hi' => ?_
  obtain ⟨b, off, e, _, hc⟩ := h i hi
  obtain ⟨b', off', e', _, hc'⟩ := h' i hi'
  rw [e] at e'
  cases e'
  rw [hc] at hc'
  simpa using hc'

theorem TyAt.uniq (t : Ty) : ∀ {w : World} {B B' : Nat} {v : Value} {t' : Ty}, TyAt w B v t → TyAt w B' v t' → t = t' := by
  induction t using Ty.ind with
  | h k ls ts ih =>
    intro w B B' v t' h h'
    obtain ⟨L, lc, A, ac, hv, _, _, hl, ha⟩ := h.open
    obtain ⟨L', lc', A', ac', hv', _, _, hl', ha'⟩ := h'.open
    rw [hv] at hv'
    simp at hv'
    obtain ⟨e1, ⟨e2, e3, e4⟩, e5, e6, e7⟩ := hv'
    subst e2 e5
    have h1 := hl.uniq hl' e3
    have h2 := TysAt.uniq_of (fun i hi v B' t' a b => ih i hi a b) ha ha' e6
    cases t'
    simp only [Ty.kind, Ty.labels, Ty.args] at *
    rw [e1, h1, h2]

theorem TysIn.uniq {w : World} {S S' : Nat → Prop} {A : Option Addr} {ts ts' : List Ty} (h : TysIn w S A ts) (h' : TysIn w S' A ts') (hl : ts.length = ts'.length) : ts = ts' :=
  TysAt.uniq_of (fun _ _ _ _ _ a b => TyAt.uniq _ a b) h.here h'.here hl

/-- A frame: a slice of trees, of which the first k have been measured. -/
structure Fr where
  g : Nat
  c : Nat
  ts : List Ty
  k : Nat

def frCells (f : Fr) : List Value := [.slice (some ⟨f.g, 0, none⟩) f.ts.length f.c, .int .i64 (f.k : Int), .int .i64 (sizeTys (f.ts.take f.k) : Int), .int .i64 (depthTys (f.ts.take f.k) : Int)]
def stkCells : List Fr → List Value | [] => [] | f :: r => stkCells r ++ frCells f
theorem stkCells_len : ∀ l : List Fr, (stkCells l).length = l.length * 4
  | [] => rfl
  | f :: r => by
    rw [stkCells, List.length_append, stkCells_len r]
    simp [frCells]
    omega

def FrOk (w1 : World) (B : Nat) (f : Fr) : Prop := f.ts ≠ [] ∧ TysIn w1 (fun b => b < B) (some ⟨f.g, 0, none⟩) f.ts
def Link (w1 : World) (f f' : Fr) : Prop := ∃ h : f.k < f.ts.length, f'.ts = f.ts[f.k].args ∧ w1.cell? ⟨f.g, f.k * 3 + 2, none⟩ = some (.slice (some ⟨f'.g, 0, none⟩) f'.ts.length f'.c)
def Stk (w1 : World) (B : Nat) (ts0 : List Ty) : List Fr → Prop
  | [] => False
  | [f] => FrOk w1 B f ∧ f.ts = ts0 ∧ sizeTys f.ts ≤ 2000000
  | f' :: f :: r => FrOk w1 B f' ∧ Link w1 f f' ∧ Stk w1 B ts0 (f :: r)

theorem Stk.ok {w1 : World} {B : Nat} {ts0 : List Ty} {f : Fr} {r : List Fr} (h : Stk w1 B ts0 (f :: r)) : FrOk w1 B f := by
  cases r with
  | nil => exact h.1
  | cons a r => exact h.1
theorem Stk.top {w1 : World} {B : Nat} {ts0 : List Ty} {f : Fr} {r : List Fr} (h : Stk w1 B ts0 (f :: r)) (k : Nat) : Stk w1 B ts0 ({ f with k := k } :: r) := by
  cases r with
  | nil => exact h
  | cons a r => exact h

theorem sizeTys_part (ts : List Ty) (k : Nat) (h : k < ts.length) : sizeTys ts[k].args < sizeTys ts := by
  have h1 := sizeTys_take ts k h
  have h2 := sizeTys_le ts (k + 1)
  have h3 := sizeTy_eq ts[k]
  omega

theorem Stk.small {w1 : World} {B : Nat} {ts0 : List Ty} : ∀ {r : List Fr} {f : Fr}, Stk w1 B ts0 (f :: r) → ∀ x ∈ r, sizeTys f.ts < sizeTys x.ts
  | [], _, _, x, hx => absurd hx (by simp)
  | a :: r, f, h, x, hx => by
    obtain ⟨_, ⟨hk, hts, _⟩, h3⟩ := h
    have := sizeTys_part a.ts a.k hk
    rw [← hts] at this
    rcases List.mem_cons.1 hx with rfl | hx
    · exact this
    · exact Nat.lt_trans this (h3.small x hx)
theorem Stk.len {w1 : World} {B : Nat} {ts0 : List Ty} : ∀ {r : List Fr} {f : Fr}, Stk w1 B ts0 (f :: r) → r.length + sizeTys f.ts ≤ 2000000
  | [], _, h => by simpa using h.2.2
  | a :: r, f, h => by
    obtain ⟨_, ⟨hk, hts, _⟩, h3⟩ := h
    have := sizeTys_part a.ts a.k hk
    rw [← hts] at this
    have := h3.len
    simp only [List.length_cons]
    omega

/-- Tree k of a frame: its cells, and its parts. -/
theorem FrOk.elem {w1 : World} {B : Nat} {f : Fr} (h : FrOk w1 B f) (k : Nat) (hk : k < f.ts.length) : f.g < B ∧ ∃ L lc A' ac, w1.cell? ⟨f.g, k * 3, none⟩ = some (.int .i64 f.ts[k].kind) ∧ w1.cell? ⟨f.g, k * 3 + 1, none⟩ = some (.slice L f.ts[k].labels.length lc) ∧
    w1.cell? ⟨f.g, k * 3 + 2, none⟩ = some (.slice A' f.ts[k].args.length ac) ∧ TysIn w1 (fun b => b < B) A' f.ts[k].args ∧ f.ts[k].args.length ≤ maxLen := by
  obtain ⟨h0, hm, ga, vs, Ss, h1, h2, h3, h4⟩ := h
  rcases h1 with h1 | ⟨h1, h5, h6⟩
  · exact absurd h1 h0
  · cases h1
    obtain ⟨L, lc, A', ac, gl, hv, _, _, _, ha⟩ := (h4 k hk).open
    have c0 := h6.cell k 0 hk (by omega)
    have c1 := h6.cell k 1 hk (by omega)
    have c2 := h6.cell k 2 hk (by omega)
    rw [hv] at c0 c1 c2
    refine ⟨h5, L, lc, A', ac, c0, c1, c2, ?_, ha.1⟩
    obtain ⟨m0, ga', vs', Ss', m1, m2, m3, m4⟩ := ha
    exact ⟨m0, ga', vs', Ss', m1.imp id fun ⟨a, b, c⟩ => ⟨a, (h2 k hk _ b.1).1, c⟩, fun i hi b hb => ⟨(h2 k hk _ (m2 i hi b hb).1.1).1, (m2 i hi b hb).2⟩, m3, m4⟩

theorem TysIn.addr {w1 : World} {S : Nat → Prop} {A : Option Addr} {ts : List Ty} (h : TysIn w1 S A ts) (h0 : ts ≠ []) : ∃ g cs, A = some ⟨g, 0, none⟩ ∧ S g ∧ Whole1 w1 g 27 cs := by
  obtain ⟨_, ga, vs, Ss, h1, _⟩ := h
  rcases h1 with h1 | ⟨h1, h5, cs, h6, _⟩
  · exact absurd h1 h0
  · exact ⟨ga, cs, h1, h5, h6⟩

def extV (ts : List Ty) : Value := .agg #[.int .i64 (sizeTys ts : Int), .int .i64 (depthTys ts : Int)]
def bigV : Value := .agg #[.int .i64 9223372036854775807, .int .i64 9223372036854775807]

/-- The state of the walk. -/
structure Inv (w1 : World) (B mb : Nat) (ts0 : List Ty) (wc w : World) (v : Value) (f : Fr) (r : List Fr) (F : Pl → Option Value) (ret : Bool) : Prop where
  own : w.ownsRow B 121 4 v (r.length + 1) (stkCells r ++ frCells f)
  keep : PlWd w1 B mb w
  call : Below wc.heap.size wc w
  known : Known plVal (PlOk w1 B mb) w mb F
  zero : F none = some (extV [])
  vals : ∀ g ts u, TysIn w1 (fun b => b < B) (some ⟨g, 0, none⟩) ts → ts ≠ [] → F (some (g, ts.length)) = some u → u = extV ts ∨ ∃ x ∈ f :: r, x.g = g ∧ x.ts.length = ts.length
  stk : Stk w1 B ts0 (f :: r)
  le : f.k ≤ f.ts.length
  ret : ret = true → ∃ (h : f.k < f.ts.length) (g c : Nat), w1.cell? ⟨f.g, f.k * 3 + 2, none⟩ = some (.slice (some ⟨g, 0, none⟩) f.ts[f.k].args.length c) ∧ F (some (g, f.ts[f.k].args.length)) = some (extV f.ts[f.k].args)
  size : B ≤ w.heap.size

/-- What is known of a slice that is met is right. -/
theorem Inv.right {w1 wc w : World} {B mb : Nat} {ts0 : List Ty} {v : Value} {f : Fr} {r : List Fr} {F : Pl → Option Value} {ret : Bool} (h : Inv w1 B mb ts0 wc w v f r F ret) (hk : f.k < f.ts.length) (g : Nat) (hg : TysIn w1 (fun b => b < B) (some ⟨g, 0, none⟩) f.ts[f.k].args) (h0 : f.ts[f.k].args ≠ []) (u : Value)
    (hu : F (some (g, f.ts[f.k].args.length)) = some u) : u = extV f.ts[f.k].args := by
  rcases h.vals g _ u hg h0 hu with h1 | ⟨x, hx, rfl, hl⟩
  · exact h1
  · exfalso
    have hsz := sizeTys_part f.ts f.k hk
    have hok : FrOk w1 B x := by
      have : ∀ (r : List Fr) (f : Fr), Stk w1 B ts0 (f :: r) → x ∈ f :: r → FrOk w1 B x := by
        intro r
        induction r with
        | nil =>
          intro f hs hm
          have : x = f := by simpa using hm
          rw [this]
          exact hs.ok
        | cons a r ih =>
          intro f hs hm
          rcases List.mem_cons.1 hm with rfl | hm
          · exact hs.ok
          · exact ih a hs.2.2 hm
      exact this r f h.stk hx
    have he := hok.2.uniq hg hl
    rcases List.mem_cons.1 hx with rfl | hx
    · have := congrArg sizeTys he
      omega
    · have h1 := h.stk.small x hx
      have h2 := congrArg sizeTys he
      omega

theorem Inv.ok_key {w1 : World} {B mb : Nat} (hmb : ∀ (t : TypeId) (cs : Array Value), ¬ Whole1 w1 mb t cs) {g : Nat} {ts : List Ty} (hg : TysIn w1 (fun b => b < B) (some ⟨g, 0, none⟩) ts) (h0 : ts ≠ []) (n : Nat) : PlOk w1 B mb (some (g, n)) := by
  intro g' n' e
  cases e
  obtain ⟨ga, cs, e, h1, h2⟩ := hg.addr h0
  cases e
  exact ⟨h1, fun e => hmb _ _ (e ▸ h2), cs, _, h2⟩

/-- How much is to come. -/
def muRest : List Fr → Nat | [] => 0 | f :: r => 3 * sizeTys (f.ts.drop (f.k + 1)) + 2 + muRest r
def mu (f : Fr) (r : List Fr) (ret : Bool) : Nat := (if ret then 3 * sizeTys (f.ts.drop (f.k + 1)) + 2 else 3 * sizeTys (f.ts.drop f.k) + 1) + muRest r

theorem drop_size (ts : List Ty) (k : Nat) (h : k < ts.length) : sizeTys (ts.drop k) = 1 + sizeTys ts[k].args + sizeTys (ts.drop (k + 1)) := by
  rw [List.drop_eq_getElem_cons h, sizeTys, sizeTy_eq]

theorem mu_add (f : Fr) (r : List Fr) (ret : Bool) (h : f.k < f.ts.length) : mu { f with k := f.k + 1 } r false < mu f r ret := by
  unfold mu
  have := drop_size f.ts f.k h
  cases ret <;> simp <;> omega
theorem mu_push (f : Fr) (r : List Fr) (h : f.k < f.ts.length) (g c : Nat) : mu ⟨g, c, f.ts[f.k].args, 0⟩ (f :: r) false < mu f r false := by
  unfold mu
  have := drop_size f.ts f.k h
  simp [muRest]
  omega
theorem mu_pop (f f2 : Fr) (r : List Fr) (ret : Bool) : mu f2 r true < mu f (f2 :: r) ret := by
  unfold mu
  cases ret <;> simp [muRest] <;> omega

/-- The row's last four cells. -/
theorem row_top {w : World} {B n : Nat} {T : TypeId} {v : Value} {xs : List Value} {a b c d : Value} (h : w.ownsRow B T 4 v (n + 1) (xs ++ [a, b, c, d])) (hx : xs.length = n * 4) :
    ∃ q cap cur, v = .slice (some ⟨q, 0, none⟩) (n + 1) cap ∧ B ≤ q ∧ Whole1 w q T cur ∧ n + 1 ≤ cap ∧ cap ≤ maxLen ∧ cur.size = cap * 4 ∧ cur.toList.take (n * 4) = xs ∧ cur[n * 4]? = some a ∧ cur[n * 4 + 1]? = some b ∧ cur[n * 4 + 2]? = some c ∧ cur[n * 4 + 3]? = some d := by
  rcases h.2 with ⟨_, h0⟩ | ⟨q, cap, cur, rfl, h2, h3, h4, h5, h6, h7⟩
  · omega
  · have hi : ∀ i, i < (n + 1) * 4 → cur[i]? = (xs ++ [a, b, c, d])[i]? := fun i hi => by
      rw [← h7, List.getElem?_take, if_pos hi]
      simp
    refine ⟨q, cap, cur, rfl, h2, h3, h4, h5, h6, ?_, ?_, ?_, ?_, ?_⟩
    · have : cur.toList.take (n * 4) = (cur.toList.take ((n + 1) * 4)).take (n * 4) := by rw [List.take_take, Nat.min_eq_left (by omega)]
      rw [this, h7, List.take_append_of_le_length (by omega), ← hx, List.take_length]
    · rw [hi _ (by omega), List.getElem?_append_right (by omega), hx, Nat.sub_self]
      rfl
    · rw [hi _ (by omega), List.getElem?_append_right (by omega), hx, show n * 4 + 1 - n * 4 = 1 by omega]
      rfl
    · rw [hi _ (by omega), List.getElem?_append_right (by omega), hx, show n * 4 + 2 - n * 4 = 2 by omega]
      rfl
    · rw [hi _ (by omega), List.getElem?_append_right (by omega), hx, show n * 4 + 3 - n * 4 = 3 by omega]
      rfl

theorem row_of {w : World} {B n q cap : Nat} {T : TypeId} {xs : List Value} {cur : Array Value} {a b c d : Value} (hq : B ≤ q) (hW : Whole1 w q T cur) (h4 : n + 1 ≤ cap) (h5 : cap ≤ maxLen) (h6 : cur.size = cap * 4) (hx : xs.length = n * 4) (h7 : cur.toList.take (n * 4) = xs)
    (ha : cur[n * 4]? = some a) (hb : cur[n * 4 + 1]? = some b) (hc : cur[n * 4 + 2]? = some c) (hd : cur[n * 4 + 3]? = some d) : w.ownsRow B T 4 (.slice (some ⟨q, 0, none⟩) (n + 1) cap) (n + 1) (xs ++ [a, b, c, d]) := by
  refine ⟨by simp [hx]; omega, .inr ⟨q, cap, cur, rfl, hq, hW, h4, h5, h6, ?_⟩⟩
  apply List.ext_getElem?
  intro i
  rw [List.getElem?_take]
  by_cases hi : i < n * 4
  · rw [if_pos (by omega), List.getElem?_append_left (by omega), ← h7, List.getElem?_take, if_pos hi]
  · rw [List.getElem?_append_right (by omega), hx]
    by_cases h8 : i < (n + 1) * 4
    · rw [if_pos h8]
      have : i = n * 4 ∨ i = n * 4 + 1 ∨ i = n * 4 + 2 ∨ i = n * 4 + 3 := by omega
      rcases this with rfl | rfl | rfl | rfl
      · rw [Nat.sub_self]
        simpa using ha
      · rw [show n * 4 + 1 - n * 4 = 1 by omega]
        simpa using hb
      · rw [show n * 4 + 2 - n * 4 = 2 by omega]
        simpa using hc
      · rw [show n * 4 + 3 - n * 4 = 3 by omega]
        simpa using hd
    · rw [if_neg h8, List.getElem?_eq_none (by simp; omega)]

theorem row_pop {w : World} {B n q cap : Nat} {T : TypeId} {xs : List Value} {cur : Array Value} (hq : B ≤ q) (hW : Whole1 w q T cur) (h4 : n + 1 ≤ cap) (h5 : cap ≤ maxLen) (h6 : cur.size = cap * 4) (hx : xs.length = n * 4) (h7 : cur.toList.take (n * 4) = xs) : w.ownsRow B T 4 (.slice (some ⟨q, 0, none⟩) n cap) n xs :=
  ⟨hx, .inr ⟨q, cap, cur, rfl, hq, hW, by omega, h5, h6, h7⟩⟩

section
variable {w1 wc w : World} {B mb : Nat} {ts0 : List Ty} {v : Value} {f : Fr} {r : List Fr} {F : Pl → Option Value} {ret : Bool}

theorem owns_keep4 {w w' : World} {base k size : Nat} {e : TypeId} {v : Value} {xs : List Value} (h : w.ownsRow base e size v k xs) (hk : ∀ g, v.ownBlock = some g → w'.heap[g]? = w.heap[g]?) : w'.ownsRow base e size v k xs := by
  refine ⟨h.1, ?_⟩
  rcases h.2 with h2 | ⟨g, cap, cur, h1, h2, h3, h4⟩
  · exact .inl h2
  · exact .inr ⟨g, cap, cur, h1, h2, (hk g (by rw [h1]; rfl)).trans h3, h4⟩

theorem Inv.below {w' : World} (h : Inv w1 B mb ts0 wc w v f r F ret) (hB0 : wc.heap.size ≤ w.heap.size) (hb : Below w.heap.size w w') : Inv w1 B mb ts0 wc w' v f r F ret :=
  { h with
    own := owns_keep4 h.own fun g hg => hb.block g (h.own.lt g hg).2
    keep := fun g hg hne => (hb.block g (Nat.lt_of_lt_of_le hg h.size)).trans (h.keep g hg hne)
    call := h.call.trans (hb.mono hB0)
    known := h.known.keep (hb.block mb h.known.lt)
    size := Nat.le_trans h.size hb.size }

/-- The top has been measured, and is taken off. -/
theorem Inv.pop {w' : World} {f2 : Fr} {q cap : Nat} (h : Inv w1 B mb ts0 wc w (.slice (some ⟨q, 0, none⟩) (r.length + 1 + 1) cap) f (f2 :: r) F ret) (hk : f.k = f.ts.length) (hmB : mb < B) (hmc : wc.heap.size ≤ mb) (ho : MapOnly mb w w') (hkn : Known plVal (PlOk w1 B mb) w' mb (put F (some (f.g, f.ts.length)) (extV f.ts))) :
    Inv w1 B mb ts0 wc w' (.slice (some ⟨q, 0, none⟩) (r.length + 1) cap) f2 r (put F (some (f.g, f.ts.length)) (extV f.ts)) true := by
  obtain ⟨hgb, hsz⟩ := ho
  have hst := h.stk
  obtain ⟨hfo, ⟨hlk, hts, hcell⟩, hst2⟩ := hst
  refine { own := ?_, keep := fun g hg hne => (hgb.block g (Nat.lt_of_lt_of_le hg h.size) (fun e => hne (Option.some.inj e))).trans (h.keep g hg hne), call := h.call.grown hgb (by have := h.call.size; omega) (fun k hk => by cases hk; exact hmc), known := hkn, zero := ?_, vals := ?_, stk := hst2, le := Nat.le_of_lt hlk, ret := fun _ => ⟨hlk, f.g, f.c, by rw [hcell, hts], by rw [← hts, put_same]⟩, size := by have := h.size; omega }
  · obtain ⟨q', cap', cur, he, hq, hW, hcap, hcap2, hcs, htk, _⟩ := row_top h.own (stkCells_len _)
    simp at he
    obtain ⟨rfl, rfl⟩ := he
    have hqm : q ≠ mb := by have := hq; omega
    exact row_pop hq ((hgb.block q hW.lt (fun e => hqm (Option.some.inj e))).trans hW) hcap hcap2 hcs (stkCells_len (f2 :: r)) htk
  · rw [put_other _ _ _ _ (by simp)]
    exact h.zero
  · intro g ts u hg h0 hu
    by_cases he : (some (g, ts.length) : Pl) = some (f.g, f.ts.length)
    · simp at he
      obtain ⟨rfl, hl⟩ := he
      have := hg.uniq hfo.2 hl
      subst this
      rw [put_same] at hu
      exact .inl (Option.some.inj hu).symm
    · rw [put_other _ _ _ _ he] at hu
      rcases h.vals g ts u hg h0 hu with h1 | ⟨x, hx, h2, h3⟩
      · exact .inl h1
      · rcases List.mem_cons.1 hx with rfl | hx
        · exact absurd (by rw [h2, h3]) he
        · exact .inr ⟨x, hx, h2, h3⟩

/-- One more tree of the top has been measured. -/
theorem Inv.add {w' : World} {q cap : Nat} {cur cur' : Array Value} (h : Inv w1 B mb ts0 wc w (.slice (some ⟨q, 0, none⟩) (r.length + 1) cap) f r F ret) (hk : f.k < f.ts.length) (hmB : mb < B) (hcB : wc.heap.size ≤ B) (hW : Whole1 w q 121 cur) (hW' : Whole1 w' q 121 cur')
    (hg : w.grownBy w' (some q)) (hcs : cur'.size = cur.size) (hold : ∀ i : Nat, i ≤ r.length * 4 → cur'[i]? = cur[i]?) (h1 : cur'[r.length * 4 + 1]? = some (.int .i64 ((f.k + 1 : Nat) : Int))) (h2 : cur'[r.length * 4 + 2]? = some (.int .i64 (sizeTys (f.ts.take (f.k + 1)) : Int)))
    (h3 : cur'[r.length * 4 + 3]? = some (.int .i64 (depthTys (f.ts.take (f.k + 1)) : Int))) : Inv w1 B mb ts0 wc w' (.slice (some ⟨q, 0, none⟩) (r.length + 1) cap) { f with k := f.k + 1 } r F false := by
  obtain ⟨q', cap', cur0, he, hq, hW0, hcap, hcap2, hcs0, htk, c0, _⟩ := row_top h.own (stkCells_len _)
  simp at he
  obtain ⟨rfl, rfl⟩ := he
  have hc : cur0 = cur := by
    unfold Whole1 at hW hW0
    rw [hW] at hW0
    injection hW0 with e
    injection e with e
    exact e.symm
  subst hc
  have hne : ∀ g, g < B → g ≠ q := fun g hg => by omega
  refine { own := ?_, keep := fun g hg' hne' => (hg.block g (Nat.lt_of_lt_of_le hg' h.size) (fun e => hne g hg' (Option.some.inj e))).trans (h.keep g hg' hne'), call := h.call.grown hg h.call.size (fun k hk => by cases hk; omega), known := h.known.keep (hg.block mb h.known.lt (fun e => hne mb hmB (Option.some.inj e))), zero := h.zero, vals := ?_, stk := h.stk.top _, le := hk, ret := fun e => (by cases e), size := Nat.le_trans h.size hg.size }
  · refine row_of hq hW' hcap hcap2 (by rw [hcs, hcs0]) (stkCells_len r) ?_ (by rw [hold _ (Nat.le_refl _)]; exact c0) h1 h2 h3
    rw [← htk]
    apply List.ext_getElem?
    intro i
    rw [List.getElem?_take, List.getElem?_take]
    by_cases hi : i < r.length * 4
    · rw [if_pos hi, if_pos hi]
      simpa using hold i (by omega)
    · rw [if_neg hi, if_neg hi]
  · intro g ts u hg' h0 hu
    rcases h.vals g ts u hg' h0 hu with a | ⟨x, hx, b, c⟩
    · exact .inl a
    · rcases List.mem_cons.1 hx with rfl | hx
      · exact .inr ⟨_, List.mem_cons_self, b, c⟩
      · exact .inr ⟨x, List.mem_cons_of_mem _ hx, b, c⟩

/-- The parts of a tree of the top are laid onto the stack. -/
theorem Inv.push {w' : World} {v' : Value} (h : Inv w1 B mb ts0 wc w v f r F ret) (hk : f.k < f.ts.length) (g c : Nat) (hcell : w1.cell? ⟨f.g, f.k * 3 + 2, none⟩ = some (.slice (some ⟨g, 0, none⟩) f.ts[f.k].args.length c)) (hg : TysIn w1 (fun b => b < B) (some ⟨g, 0, none⟩) f.ts[f.k].args) (h0 : f.ts[f.k].args ≠ [])
    (hkn : Known plVal (PlOk w1 B mb) w' mb (put F (some (g, f.ts[f.k].args.length)) bigV)) (hown : w'.ownsRow B 121 4 v' (r.length + 1 + 1) ((stkCells r ++ frCells f) ++ frCells ⟨g, c, f.ts[f.k].args, 0⟩)) (hkeep : PlWd w1 B mb w') (hcall : Below wc.heap.size wc w') (hB : B ≤ w'.heap.size) :
    Inv w1 B mb ts0 wc w' v' ⟨g, c, f.ts[f.k].args, 0⟩ (f :: r) (put F (some (g, f.ts[f.k].args.length)) bigV) false := by
  refine { own := hown, keep := hkeep, call := hcall, known := hkn, zero := ?_, vals := ?_, stk := ⟨⟨h0, hg⟩, ⟨hk, rfl, hcell⟩, h.stk⟩, le := Nat.zero_le _, ret := fun e => (by cases e), size := hB }
  · rw [put_other _ _ _ _ (by simp)]
    exact h.zero
  · intro g' ts u hg' h0' hu
    by_cases he : (some (g', ts.length) : Pl) = some (g, f.ts[f.k].args.length)
    · simp at he
      exact .inr ⟨_, List.mem_cons_self, he.1.symm, he.2.symm⟩
    · rw [put_other _ _ _ _ he] at hu
      rcases h.vals g' ts u hg' h0' hu with a | ⟨x, hx, b, c⟩
      · exact .inl a
      · exact .inr ⟨x, List.mem_cons_of_mem _ hx, b, c⟩

end

/-- At the start. -/
theorem Inv.start {wc w3 w1 : World} {t : Ty} {S : Nat → Prop} {a b c : Value} (hv : TyIn wc S (.agg #[a, b, c]) t) (hS : ∀ b, S b → b < wc.heap.size) (hsz : sizeTy t ≤ 2000000) (hb3 : Below wc.heap.size wc w3) (hs3 : w3.heap.size = wc.heap.size + 2 + 1)
    (hk : Known plVal (PlOk wc 0 (wc.heap.size + 2)) w3 (wc.heap.size + 2) (put (fun _ => none) none (.agg #[.int .i64 0, .int .i64 0])))
    (hw1 : (w3.alloc (.cells #[a, b, c] 27)).alloc (.cells #[.slice (some ⟨wc.heap.size + 2 + 1, 0, none⟩) 1 1, .int .i64 0, .int .i64 0, .int .i64 0] 121) = w1) :
    Inv w1 (wc.heap.size + 4) (wc.heap.size + 2) [t] wc w1 (.slice (some ⟨wc.heap.size + 2 + 1 + 1, 0, none⟩) 1 1) ⟨wc.heap.size + 3, 1, [t], 0⟩ [] (put (fun _ => none) none (.agg #[.int .i64 0, .int .i64 0])) false := by
  have hs4 : (w3.alloc (.cells #[a, b, c] 27)).heap.size = wc.heap.size + 4 := by simp [hs3]
  have hb1 : Below w3.heap.size w3 w1 := by
    rw [← hw1]
    exact ((Below.refl _ _).alloc (Nat.le_refl _) _).alloc (by simp) _
  have hs1 : w1.heap.size = wc.heap.size + 5 := by rw [← hw1]; simp [hs3]
  have hcall : Below wc.heap.size wc w1 := hb3.trans (hb1.mono (by omega))
  have hroot : Whole1 w1 (wc.heap.size + 3) 27 #[a, b, c] := by
    rw [← hw1]
    refine (Below.heap_alloc _ _ _ (by omega)).trans ?_
    have := Whole1.new w3 27 #[a, b, c]
    rw [hs3] at this
    exact this
  have htop : Whole1 w1 (wc.heap.size + 4) 121 #[.slice (some ⟨wc.heap.size + 2 + 1, 0, none⟩) 1 1, .int .i64 0, .int .i64 0, .int .i64 0] := by
    rw [← hw1]
    have := Whole1.new (w3.alloc (.cells #[a, b, c] 27)) 121 #[.slice (some ⟨wc.heap.size + 2 + 1, 0, none⟩) 1 1, .int .i64 0, .int .i64 0, .int .i64 0]
    rw [hs4] at this
    exact this
  refine { own := ?_, keep := fun _ _ _ => rfl, call := hcall, known := ?_, zero := ?_, vals := ?_, stk := ?_, le := Nat.zero_le _, ret := fun e => (by cases e), size := by omega }
  · exact ⟨rfl, .inr ⟨wc.heap.size + 4, 1, _, rfl, Nat.le_refl _, htop, Nat.le_refl _, by decide, rfl, rfl⟩⟩
  · obtain ⟨es, clock, h1, h2, h3⟩ := hk
    exact ⟨es, clock, (hb1.block _ (by omega)).trans h1, fun e he => by
      obtain ⟨k, k1, k2⟩ := h2 e he
      exact ⟨k, fun g n e => absurd (k1 g n e).1 (Nat.not_lt_zero _), k2⟩, h3⟩
  · rw [put_same]
    simp [extV, sizeTys, depthTys]
  · intro g ts u _ _ hu
    rw [put_other _ _ _ _ (by simp)] at hu
    cases hu
  · refine ⟨⟨by simp, by simp [maxLen], wc.heap.size + 3, fun _ => .agg #[a, b, c], fun _ => S, .inr ⟨rfl, by omega, _, hroot, ?_⟩, ?_, ?_, ?_⟩, rfl, by simp [sizeTys]; exact hsz⟩
    · intro i hi j hj
      have hi0 : i = 0 := by simpa using hi
      subst hi0
      have : j = 0 ∨ j = 1 ∨ j = 2 := by omega
      rcases this with rfl | rfl | rfl <;> simp [partAt]
    · intro i _ b hb
      have := hS b hb
      exact ⟨by omega, by omega⟩
    · intro i j hi hj hne
      simp at hi hj
      omega
    · intro i hi
      have hi0 : i = 0 := by simpa using hi
      subst hi0
      exact hv.keep fun b hb _ => hcall.block b (hS b hb)

/-- The next tree of the top: its cells, the place of its parts, and what is known of that. -/
theorem Inv.next {w1 wc w : World} {B mb : Nat} {ts0 : List Ty} {v : Value} {f : Fr} {r : List Fr} {F : Pl → Option Value} {ret : Bool} (h : Inv w1 B mb ts0 wc w v f r F ret) (hk : f.k < f.ts.length) (hmb : ∀ (t : TypeId) (cs : Array Value), ¬ Whole1 w1 mb t cs) :
    ∃ L lc A' ac key, f.g < B ∧ f.g ≠ mb ∧ w1.cell? ⟨f.g, f.k * 3, none⟩ = some (.int .i64 f.ts[f.k].kind) ∧ w1.cell? ⟨f.g, f.k * 3 + 1, none⟩ = some (.slice L f.ts[f.k].labels.length lc) ∧ w1.cell? ⟨f.g, f.k * 3 + 2, none⟩ = some (.slice A' f.ts[f.k].args.length ac) ∧
      (∀ W, Calls Try.prog 82 #[.slice A' f.ts[f.k].args.length ac] W (PlaceRet W key)) ∧ PlOk w1 B mb key ∧ (∀ u, F key = some u → u = extV f.ts[f.k].args) ∧
      (F key = none → ret = false ∧ f.ts[f.k].args ≠ [] ∧ ∃ g', A' = some ⟨g', 0, none⟩ ∧ key = some (g', f.ts[f.k].args.length) ∧ TysIn w1 (fun b => b < B) (some ⟨g', 0, none⟩) f.ts[f.k].args) := by
  have hfo := h.stk.ok
  obtain ⟨hgB, L, lc, A', ac, c0, c1, c2, hargs, _⟩ := hfo.elem f.k hk
  obtain ⟨g0, cs0, e0, _, hw0⟩ := hfo.2.addr hfo.1
  cases e0
  have hgm : f.g ≠ mb := fun e => hmb _ _ (e ▸ hw0)
  by_cases h0 : f.ts[f.k].args = []
  · refine ⟨L, lc, A', ac, none, hgB, hgm, c0, c1, c2, fun W => ?_, fun g n e => (by cases e), fun u hu => ?_, fun hn => ?_⟩
    · rw [h0]
      exact placeOf_nil A' ac W
    · rw [h.zero] at hu
      rw [h0]
      exact (Option.some.inj hu).symm
    · rw [h.zero] at hn
      cases hn
  · obtain ⟨g', cs', rfl, _, _⟩ := hargs.addr h0
    refine ⟨L, lc, _, ac, some (g', f.ts[f.k].args.length), hgB, hgm, c0, c1, c2, fun W => placeOf_some g' _ ac W (List.length_pos_iff.2 h0), Inv.ok_key hmb hargs h0 _, fun u hu => h.right hk g' hargs h0 u hu, fun hn => ⟨?_, h0, g', rfl, rfl, hargs⟩⟩
    cases hr : ret with
    | false => rfl
    | true =>
      obtain ⟨_, g, c, hc, hF⟩ := h.ret hr
      rw [c2] at hc
      simp at hc
      rw [hc.1] at hn
      rw [hF] at hn
      cases hn

end Go.Proofs.Ytmacbkcjeamaeaa
