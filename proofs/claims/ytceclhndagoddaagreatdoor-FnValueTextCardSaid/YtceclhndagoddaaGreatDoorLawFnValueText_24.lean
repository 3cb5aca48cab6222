/- Lemmas: ImplSize, VImplSize. -/
import Derived.Test.YtceclhndagoddaaGreatDoorLawFnValueText_23
import Derived.Test.YtceclhndagoddaaGreatDoorLawFnValueText_7
import Derived.Deep.RegionLaw
import Derived.Deep.DeepCutAuto
import Derived.StillTailTactics
import Derived.Deep.RegionHeld3
import Derived.Test.YtceclhndagoddaaGreatDoorLawFnValueText_4
import Derived.Deep.LoopGhost

section
namespace Go.Proofs.YtceclhndagoddaaGreatDoor
set_option maxRecDepth 100000
open Go.RowKit

/-- The place of a slice. -/
def plOf (A : Option Addr) (n : Nat) : Pl := match A with | some a => if n = 0 then none else some (a.block, n) | none => none

def PlaceRet (w : World) (k : Pl) (e : Ending) (w' : World) : Prop := e = .returned (plVal k) ∧ Below w.heap.size w w'

end Go.Proofs.YtceclhndagoddaaGreatDoor

namespace Go.Proofs.YtceclhndagoddaaGreatDoor
set_option maxRecDepth 100000
open Go.RowKit

/-- Two cells of the row g were written. -/
def Added (w : World) (g o : Nat) (T : TypeId) (cs : Array Value) (x y : Int) (e : Ending) (w' : World) : Prop :=
  e = .returned (.tuple #[]) ∧ Whole1 w' g T ((cs.setIfInBounds o (.int .i64 x)).setIfInBounds (o + 1) (.int .i64 y)) ∧ w.grownBy w' (some g)

end Go.Proofs.YtceclhndagoddaaGreatDoor

namespace Go.Proofs.YtceclhndagoddaaGreatDoor
set_option maxRecDepth 100000
open Go.RowKit

theorem TysAt.uniq_of {w : World} {B B' : Nat} {A : Option Addr} {ts ts' : List Ty} (hu : ∀ i, (h : i < ts.length) → ∀ v B' t', TyAt w B v ts[i] → TyAt w B' v t' → ts[i] = t') (h : TysAt w B A ts) (h' : TysAt w B' A ts') (hl : ts.length = ts'.length) : ts = ts' := by
  obtain ⟨_, vs, h1, h2⟩ := h
  obtain ⟨_, vs', h1', h2'⟩ := h'
  refine List.ext_getElem hl fun i hi hi' => ?_
  obtain ⟨b, off, e, _, hc⟩ := h1 i hi
  obtain ⟨b', off', e', _, hc'⟩ := h1' i hi'
  rw [e] at e'
  cases e'
  have ht := h2 i hi
  have ht' := h2' i hi'
  obtain ⟨L, lc, A1, ac, hv, _⟩ := ht.open
  obtain ⟨L', lc', A1', ac', hv', _⟩ := ht'.open
  have : vs i = vs' i := by
    have c0 := (hc 0 (by omega)).symm.trans (hc' 0 (by omega))
    have c1 := (hc 1 (by omega)).symm.trans (hc' 1 (by omega))
    have c2 := (hc 2 (by omega)).symm.trans (hc' 2 (by omega))
    rw [hv, hv'] at c0 c1 c2 ⊢
    simp [partAt] at c0 c1 c2
    simp [c0, c1, c2]
  rw [← this] at ht'
  exact hu i hi _ _ _ ht ht'

theorem StrsAt.uniq {w : World} {B B' : Nat} {A : Option Addr} {ss ss' : List ByteArray} (h : StrsAt w B A ss) (h' : StrsAt w B' A ss') (hl : ss.length = ss'.length) : ss = ss' := by
  refine List.ext_getElem hl fun i hi hi' => ?_
  obtain ⟨b, off, e, _, hc⟩ := h i hi
  obtain ⟨b', off', e', _, hc'⟩ := h' i hi'
  rw [e] at e'
  cases e'
  rw [hc] at hc'
  simpa using hc'

theorem TyAt.uniq (t : Ty) : ∀ {w : World} {B B' : Nat} {v : Value} {t' : Ty}, TyAt w B v t → TyAt w B' v t' → t = t' := by
  induction t using Ty.ind with
  | h k ls ts ih =>
    intro w B B' v t' h h'
    obtain ⟨L, lc, A, ac, hv, _, _, hl, ha⟩ := h.open
    obtain ⟨L', lc', A', ac', hv', _, _, hl', ha'⟩ := h'.open
    rw [hv] at hv'
    simp at hv'
    obtain ⟨e1, ⟨e2, e3, e4⟩, e5, e6, e7⟩ := hv'
    subst e2 e5
    have h1 := hl.uniq hl' e3
    have h2 := TysAt.uniq_of (fun i hi v B' t' a b => ih i hi a b) ha ha' e6
    cases t'
    simp only [Ty.kind, Ty.labels, Ty.args] at *
    rw [e1, h1, h2]

theorem TysIn.uniq {w : World} {S S' : Nat → Prop} {A : Option Addr} {ts ts' : List Ty} (h : TysIn w S A ts) (h' : TysIn w S' A ts') (hl : ts.length = ts'.length) : ts = ts' :=
  TysAt.uniq_of (fun _ _ _ _ _ a b => TyAt.uniq _ a b) h.here h'.here hl

/-- A frame: a slice of trees, of which the first k have been measured. -/
structure Fr where
  g : Nat
  c : Nat
  ts : List Ty
  k : Nat

def frCells (f : Fr) : List Value := [.slice (some ⟨f.g, 0, none⟩) f.ts.length f.c, .int .i64 (f.k : Int), .int .i64 (sizeTys (f.ts.take f.k) : Int), .int .i64 (depthTys (f.ts.take f.k) : Int)]
def stkCells : List Fr → List Value | [] => [] | f :: r => stkCells r ++ frCells f
theorem stkCells_len : ∀ l : List Fr, (stkCells l).length = l.length * 4
  | [] => rfl
  | f :: r => by
    rw [stkCells, List.length_append, stkCells_len r]
    simp [frCells]
    omega

def FrOk (w1 : World) (B : Nat) (f : Fr) : Prop := f.ts ≠ [] ∧ TysIn w1 (fun b => b < B) (some ⟨f.g, 0, none⟩) f.ts
def Link (w1 : World) (f f' : Fr) : Prop := ∃ h : f.k < f.ts.length, f'.ts = f.ts[f.k].args ∧ w1.cell? ⟨f.g, f.k * 3 + 2, none⟩ = some (.slice (some ⟨f'.g, 0, none⟩) f'.ts.length f'.c)
def Stk (w1 : World) (B : Nat) (ts0 : List Ty) : List Fr → Prop
  | [] => False
  | [f] => FrOk w1 B f ∧ f.ts = ts0 ∧ sizeTys f.ts ≤ 2000000
  | f' :: f :: r => FrOk w1 B f' ∧ Link w1 f f' ∧ Stk w1 B ts0 (f :: r)

theorem Stk.ok {w1 : World} {B : Nat} {ts0 : List Ty} {f : Fr} {r : List Fr} (h : Stk w1 B ts0 (f :: r)) : FrOk w1 B f := by
  cases r with
  | nil => exact h.1
  | cons a r => exact h.1
theorem Stk.top {w1 : World} {B : Nat} {ts0 : List Ty} {f : Fr} {r : List Fr} (h : Stk w1 B ts0 (f :: r)) (k : Nat) : Stk w1 B ts0 ({ f with k := k } :: r) := by
  cases r with
  | nil => exact h
  | cons a r => exact h

theorem sizeTys_part (ts : List Ty) (k : Nat) (h : k < ts.length) : sizeTys ts[k].args < sizeTys ts := by
  have h1 := sizeTys_take ts k h
  have h2 := sizeTys_le ts (k + 1)
  have h3 := sizeTy_eq ts[k]
  omega

theorem Stk.small {w1 : World} {B : Nat} {ts0 : List Ty} : ∀ {r : List Fr} {f : Fr}, Stk w1 B ts0 (f :: r) → ∀ x ∈ r, sizeTys f.ts < sizeTys x.ts
  | [], _, _, x, hx => absurd hx (by simp)
  | a :: r, f, h, x, hx => by
    obtain ⟨_, ⟨hk, hts, _⟩, h3⟩ := h
    have := sizeTys_part a.ts a.k hk
    rw [← hts] at this
    rcases List.mem_cons.1 hx with rfl | hx
    · exact this
    · exact Nat.lt_trans this (h3.small x hx)
theorem Stk.len {w1 : World} {B : Nat} {ts0 : List Ty} : ∀ {r : List Fr} {f : Fr}, Stk w1 B ts0 (f :: r) → r.length + sizeTys f.ts ≤ 2000000
  | [], _, h => by simpa using h.2.2
  | a :: r, f, h => by
    obtain ⟨_, ⟨hk, hts, _⟩, h3⟩ := h
    have := sizeTys_part a.ts a.k hk
    rw [← hts] at this
    have := h3.len
    simp only [List.length_cons]
    omega

/-- Tree k of a frame: its cells, and its parts. -/
theorem FrOk.elem {w1 : World} {B : Nat} {f : Fr} (h : FrOk w1 B f) (k : Nat) (hk : k < f.ts.length) : f.g < B ∧ ∃ L lc A' ac, w1.cell? ⟨f.g, k * 3, none⟩ = some (.int .i64 f.ts[k].kind) ∧ w1.cell? ⟨f.g, k * 3 + 1, none⟩ = some (.slice L f.ts[k].labels.length lc) ∧
    w1.cell? ⟨f.g, k * 3 + 2, none⟩ = some (.slice A' f.ts[k].args.length ac) ∧ TysIn w1 (fun b => b < B) A' f.ts[k].args ∧ f.ts[k].args.length ≤ maxLen := by
  obtain ⟨h0, hm, ga, vs, Ss, h1, h2, h3, h4⟩ := h
  rcases h1 with h1 | ⟨h1, h5, h6⟩
  · exact absurd h1 h0
  · cases h1
    obtain ⟨L, lc, A', ac, gl, hv, _, _, _, ha⟩ := (h4 k hk).open
    have c0 := h6.cell k 0 hk (by omega)
    have c1 := h6.cell k 1 hk (by omega)
    have c2 := h6.cell k 2 hk (by omega)
    rw [hv] at c0 c1 c2
    refine ⟨h5, L, lc, A', ac, c0, c1, c2, ?_, ha.1⟩
    obtain ⟨m0, ga', vs', Ss', m1, m2, m3, m4⟩ := ha
    exact ⟨m0, ga', vs', Ss', m1.imp id fun ⟨a, b, c⟩ => ⟨a, (h2 k hk _ b.1).1, c⟩, fun i hi b hb => ⟨(h2 k hk _ (m2 i hi b hb).1.1).1, (m2 i hi b hb).2⟩, m3, m4⟩

theorem TysIn.addr {w1 : World} {S : Nat → Prop} {A : Option Addr} {ts : List Ty} (h : TysIn w1 S A ts) (h0 : ts ≠ []) : ∃ g cs, A = some ⟨g, 0, none⟩ ∧ S g ∧ Whole1 w1 g 58 cs := by
  obtain ⟨_, ga, vs, Ss, h1, _⟩ := h
  rcases h1 with h1 | ⟨h1, h5, cs, h6, _⟩
  · exact absurd h1 h0
  · exact ⟨ga, cs, h1, h5, h6⟩

def extV (ts : List Ty) : Value := .agg #[.int .i64 (sizeTys ts : Int), .int .i64 (depthTys ts : Int)]
def bigV : Value := .agg #[.int .i64 9223372036854775807, .int .i64 9223372036854775807]

theorem okKey {w1 : World} {B mb : Nat} (hmb : ∀ (t : TypeId) (cs : Array Value), ¬ Whole1 w1 mb t cs) {g : Nat} {ts : List Ty} (hg : TysIn w1 (fun b => b < B) (some ⟨g, 0, none⟩) ts) (h0 : ts ≠ []) (n : Nat) : PlOk w1 B mb (some (g, n)) := by
  intro g' n' e
  cases e
  obtain ⟨ga, cs, e, h1, h2⟩ := hg.addr h0
  cases e
  exact ⟨h1, fun e => hmb _ _ (e ▸ h2), cs, _, h2⟩

/-- How much is to come. -/
def muRest : List Fr → Nat | [] => 0 | f :: r => 3 * sizeTys (f.ts.drop (f.k + 1)) + 2 + muRest r
def mu (f : Fr) (r : List Fr) (ret : Bool) : Nat := (if ret then 3 * sizeTys (f.ts.drop (f.k + 1)) + 2 else 3 * sizeTys (f.ts.drop f.k) + 1) + muRest r

theorem drop_size (ts : List Ty) (k : Nat) (h : k < ts.length) : sizeTys (ts.drop k) = 1 + sizeTys ts[k].args + sizeTys (ts.drop (k + 1)) := by
  rw [List.drop_eq_getElem_cons h, sizeTys, sizeTy_eq]

theorem mu_add (f : Fr) (r : List Fr) (ret : Bool) (h : f.k < f.ts.length) : mu { f with k := f.k + 1 } r false < mu f r ret := by
  unfold mu
  have := drop_size f.ts f.k h
  cases ret <;> simp <;> omega
theorem mu_push (f : Fr) (r : List Fr) (h : f.k < f.ts.length) (g c : Nat) : mu ⟨g, c, f.ts[f.k].args, 0⟩ (f :: r) false < mu f r false := by
  unfold mu
  have := drop_size f.ts f.k h
  simp [muRest]
  omega
theorem mu_pop (f f2 : Fr) (r : List Fr) (ret : Bool) : mu f2 r true < mu f (f2 :: r) ret := by
  unfold mu
  cases ret <;> simp [muRest] <;> omega

/-- The row's last four cells. -/
theorem row_top {w : World} {B n : Nat} {T : TypeId} {v : Value} {xs : List Value} {a b c d : Value} (h : w.ownsRow B T 4 v (n + 1) (xs ++ [a, b, c, d])) (hx : xs.length = n * 4) :
    ∃ q cap cur, v = .slice (some ⟨q, 0, none⟩) (n + 1) cap ∧ B ≤ q ∧ Whole1 w q T cur ∧ n + 1 ≤ cap ∧ cap ≤ maxLen ∧ cur.size = cap * 4 ∧ cur.toList.take (n * 4) = xs ∧ cur[n * 4]? = some a ∧ cur[n * 4 + 1]? = some b ∧ cur[n * 4 + 2]? = some c ∧ cur[n * 4 + 3]? = some d := by
  rcases h.2 with ⟨_, h0⟩ | ⟨q, cap, cur, rfl, h2, h3, h4, h5, h6, h7⟩
  · omega
  · have hi : ∀ i, i < (n + 1) * 4 → cur[i]? = (xs ++ [a, b, c, d])[i]? := fun i hi => by
      rw [← h7, List.getElem?_take, if_pos hi]
      simp
    refine ⟨q, cap, cur, rfl, h2, h3, h4, h5, h6, ?_, ?_, ?_, ?_, ?_⟩
    · have : cur.toList.take (n * 4) = (cur.toList.take ((n + 1) * 4)).take (n * 4) := by rw [List.take_take, Nat.min_eq_left (by omega)]
      rw [this, h7, List.take_append_of_le_length (by omega), ← hx, List.take_length]
    · rw [hi _ (by omega), List.getElem?_append_right (by omega), hx, Nat.sub_self]
      rfl
    · rw [hi _ (by omega), List.getElem?_append_right (by omega), hx, show n * 4 + 1 - n * 4 = 1 by omega]
      rfl
    · rw [hi _ (by omega), List.getElem?_append_right (by omega), hx, show n * 4 + 2 - n * 4 = 2 by omega]
      rfl
    · rw [hi _ (by omega), List.getElem?_append_right (by omega), hx, show n * 4 + 3 - n * 4 = 3 by omega]
      rfl

theorem row_of {w : World} {B n q cap : Nat} {T : TypeId} {xs : List Value} {cur : Array Value} {a b c d : Value} (hq : B ≤ q) (hW : Whole1 w q T cur) (h4 : n + 1 ≤ cap) (h5 : cap ≤ maxLen) (h6 : cur.size = cap * 4) (hx : xs.length = n * 4) (h7 : cur.toList.take (n * 4) = xs)
    (ha : cur[n * 4]? = some a) (hb : cur[n * 4 + 1]? = some b) (hc : cur[n * 4 + 2]? = some c) (hd : cur[n * 4 + 3]? = some d) : w.ownsRow B T 4 (.slice (some ⟨q, 0, none⟩) (n + 1) cap) (n + 1) (xs ++ [a, b, c, d]) := by
  refine ⟨by simp [hx]; omega, .inr ⟨q, cap, cur, rfl, hq, hW, h4, h5, h6, ?_⟩⟩
  apply List.ext_getElem?
  intro i
  rw [List.getElem?_take]
  by_cases hi : i < n * 4
  · rw [if_pos (by omega), List.getElem?_append_left (by omega), ← h7, List.getElem?_take, if_pos hi]
  · rw [List.getElem?_append_right (by omega), hx]
    by_cases h8 : i < (n + 1) * 4
    · rw [if_pos h8]
      have : i = n * 4 ∨ i = n * 4 + 1 ∨ i = n * 4 + 2 ∨ i = n * 4 + 3 := by omega
      rcases this with rfl | rfl | rfl | rfl
      · rw [Nat.sub_self]
        simpa using ha
      · rw [show n * 4 + 1 - n * 4 = 1 by omega]
        simpa using hb
      · rw [show n * 4 + 2 - n * 4 = 2 by omega]
        simpa using hc
      · rw [show n * 4 + 3 - n * 4 = 3 by omega]
        simpa using hd
    · rw [if_neg h8, List.getElem?_eq_none (by simp; omega)]

theorem row_pop {w : World} {B n q cap : Nat} {T : TypeId} {xs : List Value} {cur : Array Value} (hq : B ≤ q) (hW : Whole1 w q T cur) (h4 : n + 1 ≤ cap) (h5 : cap ≤ maxLen) (h6 : cur.size = cap * 4) (hx : xs.length = n * 4) (h7 : cur.toList.take (n * 4) = xs) : w.ownsRow B T 4 (.slice (some ⟨q, 0, none⟩) n cap) n xs :=
  ⟨hx, .inr ⟨q, cap, cur, rfl, hq, hW, by omega, h5, h6, h7⟩⟩

section
variable {w1 wc w : World} {B mb : Nat} {ts0 : List Ty} {v : Value} {f : Fr} {r : List Fr} {F : Pl → Option Value} {ret : Bool}

theorem owns_keep4 {w w' : World} {base k size : Nat} {e : TypeId} {v : Value} {xs : List Value} (h : w.ownsRow base e size v k xs) (hk : ∀ g, v.ownBlock = some g → w'.heap[g]? = w.heap[g]?) : w'.ownsRow base e size v k xs := by
  refine ⟨h.1, ?_⟩
  rcases h.2 with h2 | ⟨g, cap, cur, h1, h2, h3, h4⟩
  · exact .inl h2
  · exact .inr ⟨g, cap, cur, h1, h2, (hk g (by rw [h1]; rfl)).trans h3, h4⟩

end

end Go.Proofs.YtceclhndagoddaaGreatDoor

namespace Go.Proofs.YtceclhndagoddaaGreatDoor
set_option maxRecDepth 100000
open Go.RowKit

theorem news4 (w : World) (t : TypeId) (A : Option Addr) (n c : Nat) (a : Int) : CellsAt (w.alloc (.cells #[.slice A n c, .int .i64 a, .int .i64 a, .int .i64 a] t)) (some ⟨w.heap.size, 0, none⟩) [.slice A n c, .int .i64 a, .int .i64 a, .int .i64 a] := by
  refine .inr ⟨_, rfl, fun j u hj => ?_⟩
  rw [WideShapes.add_plain, World.cell?_alloc_at _ _ _ _ rfl, Nat.zero_add]
  simpa using hj
theorem ones4 (A : Option Addr) (n c : Nat) (a : Int) : ∀ u ∈ [Value.slice A n c, .int .i64 a, .int .i64 a, .int .i64 a], u.oneCell' = true := by
  intro u hu
  simp at hu
  rcases hu with rfl | rfl | rfl | rfl <;> rfl

def ExtRet (w : World) (t : Ty) (e : Ending) (w' : World) : Prop := e = .returned (.agg #[.int .i64 (sizeTy t : Int), .int .i64 (depthTy t : Int)]) ∧ Below w.heap.size w w'

end Go.Proofs.YtceclhndagoddaaGreatDoor

namespace Go.Proofs.YtceclhndagoddaaGreatDoor
set_option maxRecDepth 100000
open Go.RowKit

/-- The value reads as the tree, in blocks that are there, each slice in one of its own. -/
def OwnT (w : World) (v : Value) (t : Ty) : Prop := ∃ S, TyIn w S v t ∧ ∀ b, S b → b < w.heap.size
theorem OwnT.up {w w' : World} {v : Value} {t : Ty} (h : OwnT w v t) (hb : Below w.heap.size w w') : OwnT w' v t := by
  obtain ⟨S, h1, h2⟩ := h
  exact ⟨S, h1.keep fun b hb' hbl => hb.block b hbl, fun b hb' => Nat.lt_of_lt_of_le (h2 b hb') hb.size⟩
theorem OwnT.here {w : World} {v : Value} {t : Ty} (h : OwnT w v t) : TyAt w w.heap.size v t := by
  obtain ⟨S, h1, h2⟩ := h
  exact h1.here
theorem OwnT.of {w : World} {v : Value} {t : Ty} {a : Nat} (h : TyIn w (Span a w.heap.size) v t) : OwnT w v t := ⟨_, h, fun _ hb => hb.2⟩

/-- The parts. -/
def OwnTs (w : World) (A : Option Addr) (ts : List Ty) : Prop := ∃ S, TysIn w S A ts ∧ ∀ b, S b → b < w.heap.size
theorem OwnTs.up {w w' : World} {A : Option Addr} {ts : List Ty} (h : OwnTs w A ts) (hb : Below w.heap.size w w') : OwnTs w' A ts := by
  obtain ⟨S, h1, h2⟩ := h
  exact ⟨S, h1.keep fun b hb' hbl => hb.block b hbl, fun b hb' => Nat.lt_of_lt_of_le (h2 b hb') hb.size⟩
theorem OwnTs.here {w : World} {A : Option Addr} {ts : List Ty} (h : OwnTs w A ts) : TysAt w w.heap.size A ts := by
  obtain ⟨S, h1, h2⟩ := h
  exact h1.here
theorem OwnT.open {w : World} {v : Value} {t : Ty} (h : OwnT w v t) : ∃ L lc A ac, v = .agg #[.int .i64 t.kind, .slice L t.labels.length lc, .slice A t.args.length ac] ∧ t.labels.length ≤ maxLen ∧ (∀ i, (h : i < t.labels.length) → t.labels[i].size ≤ maxLen) ∧ StrsAt w w.heap.size L t.labels ∧ OwnTs w A t.args := by
  obtain ⟨S, h1, h2⟩ := h
  obtain ⟨L, lc, A, ac, gl, hv, hn, hz, hl, ha⟩ := h1.open
  refine ⟨L, lc, A, ac, hv, hn, hz, ?_, _, ha, fun b hb => h2 b hb.1⟩
  rcases hl with h0 | ⟨rfl, _, h4⟩
  · rw [h0]
    exact StrsAt.empty _ _ _
  · exact h4.at _ h4.lt

/-- Part i: its cells, and that it lies in blocks of its own. -/
theorem OwnTs.elem {w : World} {A : Option Addr} {ts : List Ty} (h : OwnTs w A ts) (i : Nat) (hi : i < ts.length) : ∃ g L lc A' ac, A = some ⟨g, 0, none⟩ ∧ g < w.heap.size ∧ w.cell? ⟨g, i * 3, none⟩ = some (.int .i64 ts[i].kind) ∧ w.cell? ⟨g, i * 3 + 1, none⟩ = some (.slice L ts[i].labels.length lc) ∧
    w.cell? ⟨g, i * 3 + 2, none⟩ = some (.slice A' ts[i].args.length ac) ∧ OwnT w (.agg #[.int .i64 ts[i].kind, .slice L ts[i].labels.length lc, .slice A' ts[i].args.length ac]) ts[i] := by
  obtain ⟨S, ⟨hm, ga, vs, Ss, h1, h2, h3, h4⟩, hS⟩ := h
  rcases h1 with rfl | ⟨rfl, h5, h6⟩
  · exact absurd hi (by simp)
  · obtain ⟨L, lc, A', ac, gl, hv, _⟩ := (h4 i hi).open
    have c0 := h6.cell i 0 hi (by omega)
    have c1 := h6.cell i 1 hi (by omega)
    have c2 := h6.cell i 2 hi (by omega)
    have ht := h4 i hi
    rw [hv] at c0 c1 c2 ht
    exact ⟨ga, L, lc, A', ac, rfl, h6.lt, c0, c1, c2, _, ht, fun b hb => hS b (h2 i hi b hb).1⟩

end Go.Proofs.YtceclhndagoddaaGreatDoor
end

section
namespace Go.Proofs.YtceclhndagoddaaGreatDoor.V
set_option maxRecDepth 100000
open Go.RowKit

theorem placeOf_nil (A : Option Addr) (c : Nat) (w : World) : Calls Tryz.prog 53 #[.slice A 0 c] w (PlaceRet w none) := by
  go_enter Tryz.func53, Tryz.ntmps53
  go_wp2
  refine bodyPost_ret (v := .agg #[.pointer none, .int .i64 0]) (by simp [results, Tryz.results53, go_sem]) rfl ⟨rfl, (Below.refl _ _).alloc (Nat.le_refl _) _⟩

theorem placeOf_some (g n c : Nat) (w : World) (h : 0 < n) : Calls Tryz.prog 53 #[.slice (some ⟨g, 0, none⟩) n c] w (PlaceRet w (some (g, n))) := by
  have h0 : ((n : Int) == 0) = false := by rw [beq_eq_false_iff_ne]; omega
  have h1 : (0 : Int) < (n : Int) := by omega
  go_enter Tryz.func53, Tryz.ntmps53
  go_wp2
  refine bodyPost_ret (v := .agg #[.pointer (some ⟨g, 0, none⟩), .int .i64 (n : Int)]) (by simp [results, Tryz.results53, go_sem]) rfl ⟨rfl, (Below.refl _ _).alloc (Nat.le_refl _) _⟩

theorem argsOf_any (a b c d e : Value) (w : World) : Calls Tryz.prog 23 #[.agg #[a, b, c, d, e]] w fun en w' => en = .returned e ∧ Below w.heap.size w w' := by
  have hb := (Below.refl w.heap.size w).alloc (Nat.le_refl _) (.cells #[a, b, c, d, e] 27)
  obtain ⟨hb0, p0, hs0⟩ := boxes1 w 27 #[a, b, c, d, e]
  go_enter Tryz.func23, Tryz.ntmps23
  go_wp2
  go_ret
  exact ⟨rfl, hb⟩

end Go.Proofs.YtceclhndagoddaaGreatDoor.V

namespace Go.Proofs.YtceclhndagoddaaGreatDoor.V
set_option maxRecDepth 100000
open Go.RowKit

end Go.Proofs.YtceclhndagoddaaGreatDoor.V

namespace Go.Proofs.YtceclhndagoddaaGreatDoor.V
set_option maxRecDepth 100000
open Go.RowKit

theorem _root_.Go.Proofs.YtceclhndagoddaaGreatDoor.VasAt.uniq_of {w : World} {B B' : Nat} {A : Option Addr} {ts ts' : List Va} (hu : ∀ i, (h : i < ts.length) → ∀ v B' t', VaAt w B v ts[i] → VaAt w B' v t' → ts[i] = t') (h : VasAt w B A ts) (h' : VasAt w B' A ts') (hl : ts.length = ts'.length) : ts = ts' := by
  obtain ⟨_, vs, h1, h2⟩ := h
  obtain ⟨_, vs', h1', h2'⟩ := h'
  refine List.ext_getElem hl fun i hi hi' => ?_
  obtain ⟨b, off, e, _, hc⟩ := h1 i hi
  obtain ⟨b', off', e', _, hc'⟩ := h1' i hi'
  rw [e] at e'
  cases e'
  have ht := h2 i hi
  have ht' := h2' i hi'
  obtain ⟨L, lc, A1, ac, hv, _⟩ := ht.open
  obtain ⟨L', lc', A1', ac', hv', _⟩ := ht'.open
  have : vs i = vs' i := by
    have c0 := (hc 0 (by omega)).symm.trans (hc' 0 (by omega))
    have c1 := (hc 1 (by omega)).symm.trans (hc' 1 (by omega))
    have c2 := (hc 2 (by omega)).symm.trans (hc' 2 (by omega))
    have c3 := (hc 3 (by omega)).symm.trans (hc' 3 (by omega))
    have c4 := (hc 4 (by omega)).symm.trans (hc' 4 (by omega))
    rw [hv, hv'] at c0 c1 c2 c3 c4 ⊢
    simp [partAt] at c0 c1 c2 c3 c4
    simp [c0, c1, c2, c3, c4]
  rw [← this] at ht'
  exact hu i hi _ _ _ ht ht'

theorem _root_.Go.Proofs.YtceclhndagoddaaGreatDoor.VaAt.uniq (t : Va) : ∀ {w : World} {B B' : Nat} {v : Value} {t' : Va}, VaAt w B v t → VaAt w B' v t' → t = t' := by
  induction t using Va.ind with
  | h k n nm ls ts ih =>
    intro w B B' v t' h h'
    obtain ⟨L, lc, A, ac, hv, _, _, _, hl, ha⟩ := h.open
    obtain ⟨L', lc', A', ac', hv', _, _, _, hl', ha'⟩ := h'.open
    rw [hv] at hv'
    simp at hv'
    obtain ⟨e1, en, em, ⟨e2, e3, e4⟩, e5, e6, e7⟩ := hv'
    subst e2 e5
    have h1 := hl.uniq hl' e3
    have h2 := VasAt.uniq_of (fun i hi v B' t' a b => ih i hi a b) ha ha' e6
    cases t'
    simp only [Va.kind, Va.num, Va.name, Va.labels, Va.args] at *
    rw [e1, en, em, h1, h2]

theorem _root_.Go.Proofs.YtceclhndagoddaaGreatDoor.VasIn.uniq {w : World} {S S' : Nat → Prop} {A : Option Addr} {ts ts' : List Va} (h : VasIn w S A ts) (h' : VasIn w S' A ts') (hl : ts.length = ts'.length) : ts = ts' :=
  VasAt.uniq_of (fun _ _ _ _ _ a b => VaAt.uniq _ a b) h.here h'.here hl

/-- A frame: a slice of trees, of which the first k have been measured. -/
structure Fr where
  g : Nat
  c : Nat
  ts : List Va
  k : Nat

def frCells (f : Fr) : List Value := [.slice (some ⟨f.g, 0, none⟩) f.ts.length f.c, .int .i64 (f.k : Int), .int .i64 (sizeVas (f.ts.take f.k) : Int), .int .i64 (depthVas (f.ts.take f.k) : Int)]
def stkCells : List Fr → List Value | [] => [] | f :: r => stkCells r ++ frCells f
theorem stkCells_len : ∀ l : List Fr, (stkCells l).length = l.length * 4
  | [] => rfl
  | f :: r => by
    rw [stkCells, List.length_append, stkCells_len r]
    simp [frCells]
    omega

def FrOk (w1 : World) (B : Nat) (f : Fr) : Prop := f.ts ≠ [] ∧ VasIn w1 (fun b => b < B) (some ⟨f.g, 0, none⟩) f.ts
def Link (w1 : World) (f f' : Fr) : Prop := ∃ h : f.k < f.ts.length, f'.ts = f.ts[f.k].args ∧ w1.cell? ⟨f.g, f.k * 5 + 4, none⟩ = some (.slice (some ⟨f'.g, 0, none⟩) f'.ts.length f'.c)
def Stk (w1 : World) (B : Nat) (ts0 : List Va) : List Fr → Prop
  | [] => False
  | [f] => FrOk w1 B f ∧ f.ts = ts0 ∧ sizeVas f.ts ≤ 2000000
  | f' :: f :: r => FrOk w1 B f' ∧ Link w1 f f' ∧ Stk w1 B ts0 (f :: r)

theorem Stk.ok {w1 : World} {B : Nat} {ts0 : List Va} {f : Fr} {r : List Fr} (h : Stk w1 B ts0 (f :: r)) : FrOk w1 B f := by
  cases r with
  | nil => exact h.1
  | cons a r => exact h.1
theorem Stk.top {w1 : World} {B : Nat} {ts0 : List Va} {f : Fr} {r : List Fr} (h : Stk w1 B ts0 (f :: r)) (k : Nat) : Stk w1 B ts0 ({ f with k := k } :: r) := by
  cases r with
  | nil => exact h
  | cons a r => exact h

theorem sizeVas_part (ts : List Va) (k : Nat) (h : k < ts.length) : sizeVas ts[k].args < sizeVas ts := by
  have h1 := sizeVas_take ts k h
  have h2 := sizeVas_le ts (k + 1)
  have h3 := sizeVa_eq ts[k]
  omega

theorem Stk.small {w1 : World} {B : Nat} {ts0 : List Va} : ∀ {r : List Fr} {f : Fr}, Stk w1 B ts0 (f :: r) → ∀ x ∈ r, sizeVas f.ts < sizeVas x.ts
  | [], _, _, x, hx => absurd hx (by simp)
  | a :: r, f, h, x, hx => by
    obtain ⟨_, ⟨hk, hts, _⟩, h3⟩ := h
    have := sizeVas_part a.ts a.k hk
    rw [← hts] at this
    rcases List.mem_cons.1 hx with rfl | hx
    · exact this
    · exact Nat.lt_trans this (h3.small x hx)
theorem Stk.len {w1 : World} {B : Nat} {ts0 : List Va} : ∀ {r : List Fr} {f : Fr}, Stk w1 B ts0 (f :: r) → r.length + sizeVas f.ts ≤ 2000000
  | [], _, h => by simpa using h.2.2
  | a :: r, f, h => by
    obtain ⟨_, ⟨hk, hts, _⟩, h3⟩ := h
    have := sizeVas_part a.ts a.k hk
    rw [← hts] at this
    have := h3.len
    simp only [List.length_cons]
    omega

/-- Tree k of a frame: its cells, and its parts. -/
theorem FrOk.elem {w1 : World} {B : Nat} {f : Fr} (h : FrOk w1 B f) (k : Nat) (hk : k < f.ts.length) : f.g < B ∧ ∃ L lc A' ac, w1.cell? ⟨f.g, k * 5, none⟩ = some (.int .i64 f.ts[k].kind) ∧ w1.cell? ⟨f.g, k * 5 + 1, none⟩ = some (.int .i64 f.ts[k].num) ∧ w1.cell? ⟨f.g, k * 5 + 2, none⟩ = some (.string f.ts[k].name) ∧ w1.cell? ⟨f.g, k * 5 + 3, none⟩ = some (.slice L f.ts[k].labels.length lc) ∧
    w1.cell? ⟨f.g, k * 5 + 4, none⟩ = some (.slice A' f.ts[k].args.length ac) ∧ VasIn w1 (fun b => b < B) A' f.ts[k].args ∧ f.ts[k].args.length ≤ maxLen := by
  obtain ⟨h0, hm, ga, vs, Ss, h1, h2, h3, h4⟩ := h
  rcases h1 with h1 | ⟨h1, h5, h6⟩
  · exact absurd h1 h0
  · cases h1
    obtain ⟨L, lc, A', ac, gl, hv, _, _, _, _, ha⟩ := (h4 k hk).open
    have c0 := h6.cell k 0 hk (by omega)
    have c1 := h6.cell k 1 hk (by omega)
    have c2 := h6.cell k 2 hk (by omega)
    have c3 := h6.cell k 3 hk (by omega)
    have c4 := h6.cell k 4 hk (by omega)
    rw [hv] at c0 c1 c2 c3 c4
    refine ⟨h5, L, lc, A', ac, c0, c1, c2, c3, c4, ?_, ha.1⟩
    obtain ⟨m0, ga', vs', Ss', m1, m2, m3, m4⟩ := ha
    exact ⟨m0, ga', vs', Ss', m1.imp id fun ⟨a, b, c⟩ => ⟨a, (h2 k hk _ b.1).1, c⟩, fun i hi b hb => ⟨(h2 k hk _ (m2 i hi b hb).1.1).1, (m2 i hi b hb).2⟩, m3, m4⟩

theorem _root_.Go.Proofs.YtceclhndagoddaaGreatDoor.VasIn.addr {w1 : World} {S : Nat → Prop} {A : Option Addr} {ts : List Va} (h : VasIn w1 S A ts) (h0 : ts ≠ []) : ∃ g cs, A = some ⟨g, 0, none⟩ ∧ S g ∧ Whole1 w1 g 27 cs := by
  obtain ⟨_, ga, vs, Ss, h1, _⟩ := h
  rcases h1 with h1 | ⟨h1, h5, cs, h6, _⟩
  · exact absurd h1 h0
  · exact ⟨ga, cs, h1, h5, h6⟩

def extV (ts : List Va) : Value := .agg #[.int .i64 (sizeVas ts : Int), .int .i64 (depthVas ts : Int)]
def bigV : Value := .agg #[.int .i64 9223372036854775807, .int .i64 9223372036854775807]

theorem okKey {w1 : World} {B mb : Nat} (hmb : ∀ (t : TypeId) (cs : Array Value), ¬ Whole1 w1 mb t cs) {g : Nat} {ts : List Va} (hg : VasIn w1 (fun b => b < B) (some ⟨g, 0, none⟩) ts) (h0 : ts ≠ []) (n : Nat) : PlOk w1 B mb (some (g, n)) := by
  intro g' n' e
  cases e
  obtain ⟨ga, cs, e, h1, h2⟩ := hg.addr h0
  cases e
  exact ⟨h1, fun e => hmb _ _ (e ▸ h2), cs, _, h2⟩

/-- How much is to come. -/
def muRest : List Fr → Nat | [] => 0 | f :: r => 3 * sizeVas (f.ts.drop (f.k + 1)) + 2 + muRest r
def mu (f : Fr) (r : List Fr) (ret : Bool) : Nat := (if ret then 3 * sizeVas (f.ts.drop (f.k + 1)) + 2 else 3 * sizeVas (f.ts.drop f.k) + 1) + muRest r

theorem drop_size (ts : List Va) (k : Nat) (h : k < ts.length) : sizeVas (ts.drop k) = 1 + sizeVas ts[k].args + sizeVas (ts.drop (k + 1)) := by
  rw [List.drop_eq_getElem_cons h, sizeVas, sizeVa_eq]

theorem mu_add (f : Fr) (r : List Fr) (ret : Bool) (h : f.k < f.ts.length) : mu { f with k := f.k + 1 } r false < mu f r ret := by
  unfold mu
  have := drop_size f.ts f.k h
  cases ret <;> simp <;> omega
theorem mu_push (f : Fr) (r : List Fr) (h : f.k < f.ts.length) (g c : Nat) : mu ⟨g, c, f.ts[f.k].args, 0⟩ (f :: r) false < mu f r false := by
  unfold mu
  have := drop_size f.ts f.k h
  simp [muRest]
  omega
theorem mu_pop (f f2 : Fr) (r : List Fr) (ret : Bool) : mu f2 r true < mu f (f2 :: r) ret := by
  unfold mu
  cases ret <;> simp [muRest] <;> omega

section
variable {w1 wc w : World} {B mb : Nat} {ts0 : List Va} {v : Value} {f : Fr} {r : List Fr} {F : Pl → Option Value} {ret : Bool}

end

end Go.Proofs.YtceclhndagoddaaGreatDoor.V

namespace Go.Proofs.YtceclhndagoddaaGreatDoor.V
set_option maxRecDepth 100000
open Go.RowKit

def ExtRet (w : World) (t : Va) (e : Ending) (w' : World) : Prop := e = .returned (.agg #[.int .i64 (sizeVa t : Int), .int .i64 (depthVa t : Int)]) ∧ Below w.heap.size w w'

end Go.Proofs.YtceclhndagoddaaGreatDoor.V

namespace Go.Proofs.YtceclhndagoddaaGreatDoor.V
set_option maxRecDepth 100000
open Go.RowKit

/-- The value reads as the tree, in blocks that are there, each slice in one of its own. -/
def _root_.Go.Proofs.YtceclhndagoddaaGreatDoor.OwnV (w : World) (v : Value) (t : Va) : Prop := ∃ S, VaIn w S v t ∧ ∀ b, S b → b < w.heap.size
theorem _root_.Go.Proofs.YtceclhndagoddaaGreatDoor.OwnV.up {w w' : World} {v : Value} {t : Va} (h : OwnV w v t) (hb : Below w.heap.size w w') : OwnV w' v t := by
  obtain ⟨S, h1, h2⟩ := h
  exact ⟨S, h1.keep fun b hb' hbl => hb.block b hbl, fun b hb' => Nat.lt_of_lt_of_le (h2 b hb') hb.size⟩
theorem _root_.Go.Proofs.YtceclhndagoddaaGreatDoor.OwnV.here {w : World} {v : Value} {t : Va} (h : OwnV w v t) : VaAt w w.heap.size v t := by
  obtain ⟨S, h1, h2⟩ := h
  exact h1.here
theorem _root_.Go.Proofs.YtceclhndagoddaaGreatDoor.OwnV.of {w : World} {v : Value} {t : Va} {a : Nat} (h : VaIn w (Span a w.heap.size) v t) : OwnV w v t := ⟨_, h, fun _ hb => hb.2⟩

/-- The parts. -/
def _root_.Go.Proofs.YtceclhndagoddaaGreatDoor.OwnVs (w : World) (A : Option Addr) (ts : List Va) : Prop := ∃ S, VasIn w S A ts ∧ ∀ b, S b → b < w.heap.size
theorem _root_.Go.Proofs.YtceclhndagoddaaGreatDoor.OwnVs.up {w w' : World} {A : Option Addr} {ts : List Va} (h : OwnVs w A ts) (hb : Below w.heap.size w w') : OwnVs w' A ts := by
  obtain ⟨S, h1, h2⟩ := h
  exact ⟨S, h1.keep fun b hb' hbl => hb.block b hbl, fun b hb' => Nat.lt_of_lt_of_le (h2 b hb') hb.size⟩
theorem _root_.Go.Proofs.YtceclhndagoddaaGreatDoor.OwnVs.here {w : World} {A : Option Addr} {ts : List Va} (h : OwnVs w A ts) : VasAt w w.heap.size A ts := by
  obtain ⟨S, h1, h2⟩ := h
  exact h1.here
theorem _root_.Go.Proofs.YtceclhndagoddaaGreatDoor.OwnV.open {w : World} {v : Value} {t : Va} (h : OwnV w v t) : ∃ L lc A ac, v = .agg #[.int .i64 t.kind, .int .i64 t.num, .string t.name, .slice L t.labels.length lc, .slice A t.args.length ac] ∧ t.name.size ≤ maxLen ∧ t.labels.length ≤ maxLen ∧ (∀ i, (h : i < t.labels.length) → t.labels[i].size ≤ maxLen) ∧ StrsAt w w.heap.size L t.labels ∧ OwnVs w A t.args := by
  obtain ⟨S, h1, h2⟩ := h
  obtain ⟨L, lc, A, ac, gl, hv, hnm, hn, hz, hl, ha⟩ := h1.open
  refine ⟨L, lc, A, ac, hv, hnm, hn, hz, ?_, _, ha, fun b hb => h2 b hb.1⟩
  rcases hl with h0 | ⟨rfl, _, h4⟩
  · rw [h0]
    exact StrsAt.empty _ _ _
  · exact h4.at _ h4.lt

/-- Part i: its cells, and that it lies in blocks of its own. -/
theorem _root_.Go.Proofs.YtceclhndagoddaaGreatDoor.OwnVs.elem {w : World} {A : Option Addr} {ts : List Va} (h : OwnVs w A ts) (i : Nat) (hi : i < ts.length) : ∃ g L lc A' ac, A = some ⟨g, 0, none⟩ ∧ g < w.heap.size ∧ w.cell? ⟨g, i * 5, none⟩ = some (.int .i64 ts[i].kind) ∧ w.cell? ⟨g, i * 5 + 1, none⟩ = some (.int .i64 ts[i].num) ∧ w.cell? ⟨g, i * 5 + 2, none⟩ = some (.string ts[i].name) ∧ w.cell? ⟨g, i * 5 + 3, none⟩ = some (.slice L ts[i].labels.length lc) ∧
    w.cell? ⟨g, i * 5 + 4, none⟩ = some (.slice A' ts[i].args.length ac) ∧ OwnV w (.agg #[.int .i64 ts[i].kind, .int .i64 ts[i].num, .string ts[i].name, .slice L ts[i].labels.length lc, .slice A' ts[i].args.length ac]) ts[i] := by
  obtain ⟨S, ⟨hm, ga, vs, Ss, h1, h2, h3, h4⟩, hS⟩ := h
  rcases h1 with rfl | ⟨rfl, h5, h6⟩
  · exact absurd hi (by simp)
  · obtain ⟨L, lc, A', ac, gl, hv, _⟩ := (h4 i hi).open
    have c0 := h6.cell i 0 hi (by omega)
    have c1 := h6.cell i 1 hi (by omega)
    have c2 := h6.cell i 2 hi (by omega)
    have c3 := h6.cell i 3 hi (by omega)
    have c4 := h6.cell i 4 hi (by omega)
    have ht := h4 i hi
    rw [hv] at c0 c1 c2 c3 c4 ht
    exact ⟨ga, L, lc, A', ac, rfl, h6.lt, c0, c1, c2, c3, c4, _, ht, fun b hb => hS b (h2 i hi b hb).1⟩

end Go.Proofs.YtceclhndagoddaaGreatDoor.V
end
