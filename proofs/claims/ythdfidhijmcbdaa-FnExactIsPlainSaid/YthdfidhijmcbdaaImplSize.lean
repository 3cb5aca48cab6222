/- impl.limitedSum, impl.placeOfParts, impl.argsOfType. -/
import Derived.Test.YthdfidhijmcbdaaPlace
import Derived.Test.YthdfidhijmcbdaaSpecTy2
import Derived.Deep.RegionLaw
import Derived.Deep.DeepCutAuto
import Derived.StillTailTactics
import Derived.Deep.RegionHeld3
import Derived.Test.YthdfidhijmcbdaaEqTy
import Derived.Deep.LoopGhost

namespace Go.Proofs.Ythdfidhijmcbdaa
set_option maxRecDepth 100000
open Go.RowKit

theorem limitedSum_any (a b : Nat) (w : World) (h : a + b ≤ 2 ^ 62) : Calls Try.prog 43 #[.int .i64 (a : Int), .int .i64 (b : Int)] w fun e w' => e = .returned (.int .i64 ((a + b : Nat) : Int)) ∧ w = w' := by
  have h1 : ¬ ((a : Int) > 9223372036854775807 - (b : Int)) := by omega
  go_enter Try.func43, Try.ntmps43
  go_wp2
  go_ret
  exact ⟨by go_num, rfl⟩

/-- The place of a slice. -/
def plOf (A : Option Addr) (n : Nat) : Pl := match A with | some a => if n = 0 then none else some (a.block, n) | none => none

def PlaceRet (w : World) (k : Pl) (e : Ending) (w' : World) : Prop := e = .returned (plVal k) ∧ Below w.heap.size w w'

end Go.Proofs.Ythdfidhijmcbdaa

namespace Go.Proofs.Ythdfidhijmcbdaa
set_option maxRecDepth 100000
open Go.RowKit

theorem limitedSum_same (a b : Nat) (w : World) (h : a + b ≤ 2 ^ 62) : Calls Try.prog 43 #[.int .i64 (a : Int), .int .i64 (b : Int)] w fun e w' => e = .returned (.int .i64 ((a + b : Nat) : Int)) ∧ w' = w :=
  (limitedSum_any a b w h).mono fun _ _ h => ⟨h.1, h.2.symm⟩

/-- Two cells of the row g were written. -/
def Added (w : World) (g o : Nat) (T : TypeId) (cs : Array Value) (x y : Int) (e : Ending) (w' : World) : Prop :=
  e = .returned (.tuple #[]) ∧ Whole1 w' g T ((cs.setIfInBounds o (.int .i64 x)).setIfInBounds (o + 1) (.int .i64 y)) ∧ w.grownBy w' (some g)

set_option maxHeartbeats 1000000 in
theorem addNode_any (w : World) (g o : Nat) (T : TypeId) (cs : Array Value) (a b s d : Nat) (hW : Whole1 w g T cs) (h0 : cs[o]? = some (.int .i64 (a : Int))) (h1 : cs[o + 1]? = some (.int .i64 (b : Int))) (hab : a + s + 1 ≤ 2 ^ 62) (hd : d + 1 ≤ 2 ^ 62) :
    Calls Try.prog 38 #[.pointer (some ⟨g, o, none⟩), .agg #[.int .i64 (s : Int), .int .i64 (d : Int)]] w (Added w g o T cs ((a + (s + 1) : Nat) : Int) ((max b (d + 1) : Nat) : Int)) := by
  obtain ⟨x, hx⟩ : ∃ x : Int, x = ((a + (s + 1) : Nat) : Int) := ⟨_, rfl⟩
  obtain ⟨y, hy⟩ : ∃ y : Int, y = ((d + 1 : Nat) : Int) := ⟨_, rfl⟩
  obtain ⟨z, hz⟩ : ∃ z : Int, z = ((max b (d + 1) : Nat) : Int) := ⟨_, rfl⟩
  have HS := Lib.hid (fun W => (show Calls Try.prog 43 #[.int .i64 (a : Int), .int .i64 ((s + 1 : Nat) : Int)] W fun e w' => e = .returned (.int .i64 x) ∧ w' = W by rw [hx]; exact limitedSum_same a (s + 1) W (by omega)))
  have HD := Lib.hid (fun W => (show Calls Try.prog 43 #[.int .i64 (d : Int), .int .i64 1] W fun e w' => e = .returned (.int .i64 y) ∧ w' = W by rw [hy]; exact limitedSum_same d 1 W (by omega)))
  have hyz : (if (b : Int) < y then y else (b : Int)) = z := by rw [hy, hz]; split <;> omega
  rw [← hx, ← hz]
  clear hx hz
  have hb0 := (Below.refl w.heap.size w).alloc (Nat.le_refl _) (.cells #[.int .i64 (s : Int), .int .i64 (d : Int)] 49)
  obtain ⟨_, p0, hs0⟩ := boxes1 w 49 #[.int .i64 (s : Int), .int .i64 (d : Int)]
  have hgl := hW.lt
  have hW0 := hW.below hb0 hgl
  have hgb := World.grownBy_alloc w (.cells #[.int .i64 (s : Int), .int .i64 (d : Int)] 49) (some g)
  have hos : o < cs.size := (Array.getElem?_eq_some_iff.1 h0).1
  have hos1 : o + 1 < cs.size := (Array.getElem?_eq_some_iff.1 h1).1
  go_enter Try.func38, Try.ntmps38
  go_upto_region 1 with fail
  generalize w.alloc (.cells #[.int .i64 (s : Int), .int .i64 (d : Int)] 49) = w0 at *
  have c0 : w0.cell? ⟨g, o, none⟩ = some (.int .i64 (a : Int)) := (hW0.cell o).trans h0
  have c1 : w0.cell? ⟨g, o + 1, none⟩ = some (.int .i64 (b : Int)) := (hW0.cell (o + 1)).trans h1
  have f0 : w0.frozen? ⟨g, o, none⟩ = false := hW0.free o
  have e0 : w0.cell? ⟨w.heap.size, 0, none⟩ = some (.int .i64 (s : Int)) := p0.cell 0
  have e1 : w0.cell? ⟨w.heap.size, 1, none⟩ = some (.int .i64 (d : Int)) := p0.cell 1
  refine wp_region_still_tail 9 (by kernel_rfl) (by kernel_rfl) ?_
  simp only [List.take_succ_cons, List.take_zero, List.drop_succ_cons, List.drop_zero]
  repeat still_step
  still_call (limitedSum_same s 1 _ (by omega))
  still_call (HS.out _)
  refine wpStill_nil ?_
  change wpList _ _ _ _ _ w0.drew
  have hw1 := hW0.drewN 1
  have hg1 : w.grownBy w0.drew (some g) := only_drewN hgb 1
  have p1 := p0.drewN 1
  change Whole1 w0.drew _ _ _ at hw1
  change Whole1 w0.drew _ _ _ at p1
  have g0 : w0.drew.cell? ⟨g, o, none⟩ = some (.int .i64 (a : Int)) := c0
  have g1 : w0.drew.frozen? ⟨g, o, none⟩ = false := f0
  clear c0 c1 f0 e0 e1 hb0
  generalize w0.drew = w1 at *
  have hw2 := hw1.set o (.int .i64 x)
  have hg2 := only_set hg1 o (.int .i64 x)
  have hne : w.heap.size ≠ g := by omega
  have p2 : Whole1 (w1.setCell ⟨g, o, none⟩ (.int .i64 x)) w.heap.size 49 #[.int .i64 (s : Int), .int .i64 (d : Int)] := (Below.heap_setCell _ _ _ _ hne).trans p1
  have HW := Lib.hid hw2
  have HG := Lib.hid hg2
  have hp2 := Lib.hid p2
  clear hW hW0 hw1 hg1 p0 p1 hgb hg2 hw2 p2
  go_upto_region 2 with fail
  generalize w1.setCell ⟨g, o, none⟩ (.int .i64 x) = w2 at *
  have c1 : w2.cell? ⟨g, o + 1, none⟩ = some (.int .i64 (b : Int)) := (HW.out.cell (o + 1)).trans (by rw [Array.getElem?_setIfInBounds, if_neg (by omega)]; exact h1)
  have f1 : w2.frozen? ⟨g, o + 1, none⟩ = false := HW.out.free (o + 1)
  have e1 : w2.cell? ⟨w.heap.size, 1, none⟩ = some (.int .i64 (d : Int)) := hp2.out.cell 1
  refine wp_region_still_tail 9 (by kernel_rfl) (by kernel_rfl) ?_
  simp only [List.take_succ_cons, List.take_zero, List.drop_succ_cons, List.drop_zero]
  repeat still_step
  still_call (HD.out _)
  repeat still_step
  refine wpStill_nil ?_
  change wpList _ _ _ _ _ w2.drew
  have hw3 : Whole1 w2.drew g T _ := HW.out
  have hg3 : w.grownBy w2.drew (some g) := only_drewN HG.out 1
  have g1 : w2.drew.frozen? ⟨g, o + 1, none⟩ = false := f1
  have g0 : w2.drew.cell? ⟨g, o + 1, none⟩ = some (.int .i64 (b : Int)) := c1
  clear c1 f1 e1
  generalize w2.drew = w3 at *
  have HW3 := Lib.hid (hw3.set (o + 1) (.int .i64 z))
  have HG3 := Lib.hid (only_set hg3 (o + 1) (.int .i64 z))
  clear hw3 hg3
  go_wp2
  case inl =>
    rw [show (d : Int) + 1 = z by rw [← hyz, hy, if_pos (by omega)]; omega]
    exact bodyPost_end (v := .tuple #[]) (by simp [results, Try.results38]) rfl ⟨rfl, HW3.out, HG3.out⟩
  case inr h =>
    rw [show (b : Int) = z by rw [← hyz, hy, if_neg (by omega)]]
    exact bodyPost_end (v := .tuple #[]) (by simp [results, Try.results38]) rfl ⟨rfl, HW3.out, HG3.out⟩

end Go.Proofs.Ythdfidhijmcbdaa

namespace Go.Proofs.Ythdfidhijmcbdaa
set_option maxRecDepth 100000
open Go.RowKit

theorem TysAt.uniq_of {w : World} {B B' : Nat} {A : Option Addr} {ts ts' : List Ty} (hu : ∀ i, (h : i < ts.length) → ∀ v B' t', TyAt w B v ts[i] → TyAt w B' v t' → ts[i] = t') (h : TysAt w B A ts) (h' : TysAt w B' A ts') (hl : ts.length = ts'.length) : ts = ts' := by
  obtain ⟨_, vs, h1, h2⟩ := h
  obtain ⟨_, vs', h1', h2'⟩ := h'
  refine List.ext_getElem hl fun i hi hi' => ?_
  obtain ⟨b, off, e, _, hc⟩ := h1 i hi
  obtain ⟨b', off', e', _, hc'⟩ := h1' i hi'
  rw [e] at e'
  cases e'
  have ht := h2 i hi
  have ht' := h2' i hi'
  obtain ⟨L, lc, A1, ac, hv, _⟩ := ht.open
  obtain ⟨L', lc', A1', ac', hv', _⟩ := ht'.open
  have : vs i = vs' i := by
    have c0 := (hc 0 (by omega)).symm.trans (hc' 0 (by omega))
    have c1 := (hc 1 (by omega)).symm.trans (hc' 1 (by omega))
    have c2 := (hc 2 (by omega)).symm.trans (hc' 2 (by omega))
    rw [hv, hv'] at c0 c1 c2 ⊢
    simp [partAt] at c0 c1 c2
    simp [c0, c1, c2]
  rw [← this] at ht'
  exact hu i hi _ _ _ ht ht'

theorem StrsAt.uniq {w : World} {B B' : Nat} {A : Option Addr} {ss ss' : List ByteArray} (h : StrsAt w B A ss) (h' : StrsAt w B' A ss') (hl : ss.length = ss'.length) : ss = ss' := by
  refine List.ext_getElem hl fun i hi hi' => ?_
  obtain ⟨b, off, e, _, hc⟩ := h i hi
  obtain ⟨b', off', e', _, hc'⟩ := h' i hi'
  rw [e] at e'
  cases e'
  rw [hc] at hc'
  simpa using hc'

theorem TyAt.uniq (t : Ty) : ∀ {w : World} {B B' : Nat} {v : Value} {t' : Ty}, TyAt w B v t → TyAt w B' v t' → t = t' := by
  induction t using Ty.ind with
  | h k ls ts ih =>
    intro w B B' v t' h h'
    obtain ⟨L, lc, A, ac, hv, _, _, hl, ha⟩ := h.open
    obtain ⟨L', lc', A', ac', hv', _, _, hl', ha'⟩ := h'.open
    rw [hv] at hv'
    simp at hv'
    obtain ⟨e1, ⟨e2, e3, e4⟩, e5, e6, e7⟩ := hv'
    subst e2 e5
    have h1 := hl.uniq hl' e3
    have h2 := TysAt.uniq_of (fun i hi v B' t' a b => ih i hi a b) ha ha' e6
    cases t'
    simp only [Ty.kind, Ty.labels, Ty.args] at *
    rw [e1, h1, h2]

/-- A frame: a slice of trees, of which the first k have been measured. -/
structure Fr where
  g : Nat
  c : Nat
  ts : List Ty
  k : Nat

def frCells (f : Fr) : List Value := [.slice (some ⟨f.g, 0, none⟩) f.ts.length f.c, .int .i64 (f.k : Int), .int .i64 (sizeTys (f.ts.take f.k) : Int), .int .i64 (depthTys (f.ts.take f.k) : Int)]
def stkCells : List Fr → List Value | [] => [] | f :: r => stkCells r ++ frCells f
theorem stkCells_len : ∀ l : List Fr, (stkCells l).length = l.length * 4
  | [] => rfl
  | f :: r => by
    rw [stkCells, List.length_append, stkCells_len r]
    simp [frCells]
    omega

def Link (w1 : World) (f f' : Fr) : Prop := ∃ h : f.k < f.ts.length, f'.ts = f.ts[f.k].args ∧ w1.cell? ⟨f.g, f.k * 3 + 2, none⟩ = some (.slice (some ⟨f'.g, 0, none⟩) f'.ts.length f'.c)
theorem sizeTys_part (ts : List Ty) (k : Nat) (h : k < ts.length) : sizeTys ts[k].args < sizeTys ts := by
  have h1 := sizeTys_take ts k h
  have h2 := sizeTys_le ts (k + 1)
  have h3 := sizeTy_eq ts[k]
  omega

def extV (ts : List Ty) : Value := .agg #[.int .i64 (sizeTys ts : Int), .int .i64 (depthTys ts : Int)]
def bigV : Value := .agg #[.int .i64 9223372036854775807, .int .i64 9223372036854775807]

/-- How much is to come. -/
def muRest : List Fr → Nat | [] => 0 | f :: r => 3 * sizeTys (f.ts.drop (f.k + 1)) + 2 + muRest r
def mu (f : Fr) (r : List Fr) (ret : Bool) : Nat := (if ret then 3 * sizeTys (f.ts.drop (f.k + 1)) + 2 else 3 * sizeTys (f.ts.drop f.k) + 1) + muRest r

theorem drop_size (ts : List Ty) (k : Nat) (h : k < ts.length) : sizeTys (ts.drop k) = 1 + sizeTys ts[k].args + sizeTys (ts.drop (k + 1)) := by
  rw [List.drop_eq_getElem_cons h, sizeTys, sizeTy_eq]

theorem mu_add (f : Fr) (r : List Fr) (ret : Bool) (h : f.k < f.ts.length) : mu { f with k := f.k + 1 } r false < mu f r ret := by
  unfold mu
  have := drop_size f.ts f.k h
  cases ret <;> simp <;> omega
theorem mu_push (f : Fr) (r : List Fr) (h : f.k < f.ts.length) (g c : Nat) : mu ⟨g, c, f.ts[f.k].args, 0⟩ (f :: r) false < mu f r false := by
  unfold mu
  have := drop_size f.ts f.k h
  simp [muRest]
  omega
theorem mu_pop (f f2 : Fr) (r : List Fr) (ret : Bool) : mu f2 r true < mu f (f2 :: r) ret := by
  unfold mu
  cases ret <;> simp [muRest] <;> omega

/-- The row's last four cells. -/
theorem row_top {w : World} {B n : Nat} {T : TypeId} {v : Value} {xs : List Value} {a b c d : Value} (h : w.ownsRow B T 4 v (n + 1) (xs ++ [a, b, c, d])) (hx : xs.length = n * 4) :
    ∃ q cap cur, v = .slice (some ⟨q, 0, none⟩) (n + 1) cap ∧ B ≤ q ∧ Whole1 w q T cur ∧ n + 1 ≤ cap ∧ cap ≤ maxLen ∧ cur.size = cap * 4 ∧ cur.toList.take (n * 4) = xs ∧ cur[n * 4]? = some a ∧ cur[n * 4 + 1]? = some b ∧ cur[n * 4 + 2]? = some c ∧ cur[n * 4 + 3]? = some d := by
  rcases h.2 with ⟨_, h0⟩ | ⟨q, cap, cur, rfl, h2, h3, h4, h5, h6, h7⟩
  · omega
  · have hi : ∀ i, i < (n + 1) * 4 → cur[i]? = (xs ++ [a, b, c, d])[i]? := fun i hi => by
      rw [← h7, List.getElem?_take, if_pos hi]
      simp
    refine ⟨q, cap, cur, rfl, h2, h3, h4, h5, h6, ?_, ?_, ?_, ?_, ?_⟩
    · have : cur.toList.take (n * 4) = (cur.toList.take ((n + 1) * 4)).take (n * 4) := by rw [List.take_take, Nat.min_eq_left (by omega)]
      rw [this, h7, List.take_append_of_le_length (by omega), ← hx, List.take_length]
    · rw [hi _ (by omega), List.getElem?_append_right (by omega), hx, Nat.sub_self]
      rfl
    · rw [hi _ (by omega), List.getElem?_append_right (by omega), hx, show n * 4 + 1 - n * 4 = 1 by omega]
      rfl
    · rw [hi _ (by omega), List.getElem?_append_right (by omega), hx, show n * 4 + 2 - n * 4 = 2 by omega]
      rfl
    · rw [hi _ (by omega), List.getElem?_append_right (by omega), hx, show n * 4 + 3 - n * 4 = 3 by omega]
      rfl

theorem row_of {w : World} {B n q cap : Nat} {T : TypeId} {xs : List Value} {cur : Array Value} {a b c d : Value} (hq : B ≤ q) (hW : Whole1 w q T cur) (h4 : n + 1 ≤ cap) (h5 : cap ≤ maxLen) (h6 : cur.size = cap * 4) (hx : xs.length = n * 4) (h7 : cur.toList.take (n * 4) = xs)
    (ha : cur[n * 4]? = some a) (hb : cur[n * 4 + 1]? = some b) (hc : cur[n * 4 + 2]? = some c) (hd : cur[n * 4 + 3]? = some d) : w.ownsRow B T 4 (.slice (some ⟨q, 0, none⟩) (n + 1) cap) (n + 1) (xs ++ [a, b, c, d]) := by
  refine ⟨by simp [hx]; omega, .inr ⟨q, cap, cur, rfl, hq, hW, h4, h5, h6, ?_⟩⟩
  apply List.ext_getElem?
  intro i
  rw [List.getElem?_take]
  by_cases hi : i < n * 4
  · rw [if_pos (by omega), List.getElem?_append_left (by omega), ← h7, List.getElem?_take, if_pos hi]
  · rw [List.getElem?_append_right (by omega), hx]
    by_cases h8 : i < (n + 1) * 4
    · rw [if_pos h8]
      have : i = n * 4 ∨ i = n * 4 + 1 ∨ i = n * 4 + 2 ∨ i = n * 4 + 3 := by omega
      rcases this with rfl | rfl | rfl | rfl
      · rw [Nat.sub_self]
        simpa using ha
      · rw [show n * 4 + 1 - n * 4 = 1 by omega]
        simpa using hb
      · rw [show n * 4 + 2 - n * 4 = 2 by omega]
        simpa using hc
      · rw [show n * 4 + 3 - n * 4 = 3 by omega]
        simpa using hd
    · rw [if_neg h8, List.getElem?_eq_none (by simp; omega)]

theorem row_pop {w : World} {B n q cap : Nat} {T : TypeId} {xs : List Value} {cur : Array Value} (hq : B ≤ q) (hW : Whole1 w q T cur) (h4 : n + 1 ≤ cap) (h5 : cap ≤ maxLen) (h6 : cur.size = cap * 4) (hx : xs.length = n * 4) (h7 : cur.toList.take (n * 4) = xs) : w.ownsRow B T 4 (.slice (some ⟨q, 0, none⟩) n cap) n xs :=
  ⟨hx, .inr ⟨q, cap, cur, rfl, hq, hW, by omega, h5, h6, h7⟩⟩

section
variable {w1 wc w : World} {B mb : Nat} {ts0 : List Ty} {v : Value} {f : Fr} {r : List Fr} {F : Pl → Option Value} {ret : Bool}

theorem owns_keep4 {w w' : World} {base k size : Nat} {e : TypeId} {v : Value} {xs : List Value} (h : w.ownsRow base e size v k xs) (hk : ∀ g, v.ownBlock = some g → w'.heap[g]? = w.heap[g]?) : w'.ownsRow base e size v k xs := by
  refine ⟨h.1, ?_⟩
  rcases h.2 with h2 | ⟨g, cap, cur, h1, h2, h3, h4⟩
  · exact .inl h2
  · exact .inr ⟨g, cap, cur, h1, h2, (hk g (by rw [h1]; rfl)).trans h3, h4⟩

end

end Go.Proofs.Ythdfidhijmcbdaa

namespace Go.Proofs.Ythdfidhijmcbdaa
set_option maxRecDepth 100000
open Go.RowKit

theorem zeroExtent (w : World) : (zeroValue 49).run Try.prog w = .ok (.agg #[.int .i64 0, .int .i64 0]) w := by kernel_rfl

theorem news4 (w : World) (t : TypeId) (A : Option Addr) (n c : Nat) (a : Int) : CellsAt (w.alloc (.cells #[.slice A n c, .int .i64 a, .int .i64 a, .int .i64 a] t)) (some ⟨w.heap.size, 0, none⟩) [.slice A n c, .int .i64 a, .int .i64 a, .int .i64 a] := by
  refine .inr ⟨_, rfl, fun j u hj => ?_⟩
  rw [WideShapes.add_plain, World.cell?_alloc_at _ _ _ _ rfl, Nat.zero_add]
  simpa using hj
theorem ones4 (A : Option Addr) (n c : Nat) (a : Int) : ∀ u ∈ [Value.slice A n c, .int .i64 a, .int .i64 a, .int .i64 a], u.oneCell' = true := by
  intro u hu
  simp at hu
  rcases hu with rfl | rfl | rfl | rfl <;> rfl

def ExtRet (w : World) (t : Ty) (e : Ending) (w' : World) : Prop := e = .returned (.agg #[.int .i64 (sizeTy t : Int), .int .i64 (depthTy t : Int)]) ∧ Below w.heap.size w w'

end Go.Proofs.Ythdfidhijmcbdaa

namespace Go.Proofs.Ythdfidhijmcbdaa
set_option maxRecDepth 100000
open Go.RowKit

theorem ext_field0 (a b : Int) (w : World) : (Instr.field 49 (.agg #[.int .i64 a, .int .i64 b]) 0).run Try.prog w = .ok (.int .i64 a) w := by kernel_rfl
theorem ext_field1 (a b : Int) (w : World) : (Instr.field 49 (.agg #[.int .i64 a, .int .i64 b]) 1).run Try.prog w = .ok (.int .i64 b) w := by kernel_rfl

end Go.Proofs.Ythdfidhijmcbdaa
