/- Lemmas: OImplSize, OGather, MarkTy, MarkOt, HeldTy, HeldOt, SpecNames. -/
import Derived.Test.YtlmbnefoobameaaDoorLawParseOptic_2
import Derived.Test.YtlmbnefoobameaaDoorLawParseOptic_3
import Derived.Test.YtlmbnefoobameaaDoorLawParseOptic_1
import Derived.Test.YtlmbnefoobameaaDoorProg
import Derived.BigGuard
import Derived.WalkLawsBesides

section
namespace Go.Proofs.YtlmbnefoobameaaDoor.O
set_option maxRecDepth 100000
open Go.RowKit

theorem placeOf_nil (A : Option Addr) (c : Nat) (w : World) : Calls Tryd.prog 145 #[.slice A 0 c] w (PlaceRet w none) := by
  go_enter Tryd.func145, Tryd.ntmps145
  go_wp2
  refine bodyPost_ret (v := .agg #[.pointer none, .int .i64 0]) (by simp [results, Tryd.results145, go_sem]) rfl ⟨rfl, (Below.refl _ _).alloc (Nat.le_refl _) _⟩

theorem placeOf_some (g n c : Nat) (w : World) (h : 0 < n) : Calls Tryd.prog 145 #[.slice (some ⟨g, 0, none⟩) n c] w (PlaceRet w (some (g, n))) := by
  have h0 : ((n : Int) == 0) = false := by rw [beq_eq_false_iff_ne]; omega
  have h1 : (0 : Int) < (n : Int) := by omega
  go_enter Tryd.func145, Tryd.ntmps145
  go_wp2
  refine bodyPost_ret (v := .agg #[.pointer (some ⟨g, 0, none⟩), .int .i64 (n : Int)]) (by simp [results, Tryd.results145, go_sem]) rfl ⟨rfl, (Below.refl _ _).alloc (Nat.le_refl _) _⟩

theorem argsOf_any (a b c d : Value) (w : World) : Calls Tryd.prog 132 #[.agg #[a, b, c, d]] w fun en w' => en = .returned d ∧ Below w.heap.size w w' := by
  have hb := (Below.refl w.heap.size w).alloc (Nat.le_refl _) (.cells #[a, b, c, d] 50)
  obtain ⟨hb0, p0, hs0⟩ := boxes1 w 50 #[a, b, c, d]
  go_enter Tryd.func132, Tryd.ntmps132
  go_wp2
  go_ret
  exact ⟨rfl, hb⟩

end Go.Proofs.YtlmbnefoobameaaDoor.O

namespace Go.Proofs.YtlmbnefoobameaaDoor.O
set_option maxRecDepth 100000
open Go.RowKit

end Go.Proofs.YtlmbnefoobameaaDoor.O

namespace Go.Proofs.YtlmbnefoobameaaDoor.O
set_option maxRecDepth 100000
open Go.RowKit

theorem _root_.Go.Proofs.YtlmbnefoobameaaDoor.OtsAt.uniq_of {w : World} {B B' : Nat} {A : Option Addr} {ts ts' : List Ot} (hu : ∀ i, (h : i < ts.length) → ∀ v B' t', OtAt w B v ts[i] → OtAt w B' v t' → ts[i] = t') (h : OtsAt w B A ts) (h' : OtsAt w B' A ts') (hl : ts.length = ts'.length) : ts = ts' := by
  obtain ⟨_, vs, h1, h2⟩ := h
  obtain ⟨_, vs', h1', h2'⟩ := h'
  refine List.ext_getElem hl fun i hi hi' => ?_
  obtain ⟨b, off, e, _, hc⟩ := h1 i hi
  obtain ⟨b', off', e', _, hc'⟩ := h1' i hi'
  rw [e] at e'
  cases e'
  have ht := h2 i hi
  have ht' := h2' i hi'
  obtain ⟨A1, ac, hv, _⟩ := ht.open
  obtain ⟨A1', ac', hv', _⟩ := ht'.open
  have : vs i = vs' i := by
    have c0 := (hc 0 (by omega)).symm.trans (hc' 0 (by omega))
    have c1 := (hc 1 (by omega)).symm.trans (hc' 1 (by omega))
    have c2 := (hc 2 (by omega)).symm.trans (hc' 2 (by omega))
    have c3 := (hc 3 (by omega)).symm.trans (hc' 3 (by omega))
    rw [hv, hv'] at c0 c1 c2 c3 ⊢
    simp [partAt] at c0 c1 c2 c3
    simp [c0, c1, c2, c3]
  rw [← this] at ht'
  exact hu i hi _ _ _ ht ht'

theorem _root_.Go.Proofs.YtlmbnefoobameaaDoor.OtAt.uniq (t : Ot) : ∀ {w : World} {B B' : Nat} {v : Value} {t' : Ot}, OtAt w B v t → OtAt w B' v t' → t = t' := by
  induction t using Ot.ind with
  | h k n nm ts ih =>
    intro w B B' v t' h h'
    obtain ⟨A, ac, hv, _, ha⟩ := h.open
    obtain ⟨A', ac', hv', _, ha'⟩ := h'.open
    rw [hv] at hv'
    simp at hv'
    obtain ⟨e1, em, en, e5, e6, e7⟩ := hv'
    subst e5
    have h2 := OtsAt.uniq_of (fun i hi v B' t' a b => ih i hi a b) ha ha' e6
    cases t'
    simp only [Ot.kind, Ot.num, Ot.name, Ot.args] at *
    rw [e1, en, em, h2]

theorem _root_.Go.Proofs.YtlmbnefoobameaaDoor.OtsIn.uniq {w : World} {S S' : Nat → Prop} {A : Option Addr} {ts ts' : List Ot} (h : OtsIn w S A ts) (h' : OtsIn w S' A ts') (hl : ts.length = ts'.length) : ts = ts' :=
  OtsAt.uniq_of (fun _ _ _ _ _ a b => OtAt.uniq _ a b) h.here h'.here hl

/-- A frame: a slice of trees, of which the first k have been measured. -/
structure Fr where
  g : Nat
  c : Nat
  ts : List Ot
  k : Nat

def frCells (f : Fr) : List Value := [.slice (some ⟨f.g, 0, none⟩) f.ts.length f.c, .int .i64 (f.k : Int), .int .i64 (sizeOts (f.ts.take f.k) : Int), .int .i64 (depthOts (f.ts.take f.k) : Int)]
def stkCells : List Fr → List Value | [] => [] | f :: r => stkCells r ++ frCells f
theorem stkCells_len : ∀ l : List Fr, (stkCells l).length = l.length * 4
  | [] => rfl
  | f :: r => by
    rw [stkCells, List.length_append, stkCells_len r]
    simp [frCells]
    omega

def FrOk (w1 : World) (B : Nat) (f : Fr) : Prop := f.ts ≠ [] ∧ OtsIn w1 (fun b => b < B) (some ⟨f.g, 0, none⟩) f.ts
def Link (w1 : World) (f f' : Fr) : Prop := ∃ h : f.k < f.ts.length, f'.ts = f.ts[f.k].args ∧ w1.cell? ⟨f.g, f.k * 4 + 3, none⟩ = some (.slice (some ⟨f'.g, 0, none⟩) f'.ts.length f'.c)
def Stk (w1 : World) (B : Nat) (ts0 : List Ot) : List Fr → Prop
  | [] => False
  | [f] => FrOk w1 B f ∧ f.ts = ts0 ∧ sizeOts f.ts ≤ 2000000
  | f' :: f :: r => FrOk w1 B f' ∧ Link w1 f f' ∧ Stk w1 B ts0 (f :: r)

theorem Stk.ok {w1 : World} {B : Nat} {ts0 : List Ot} {f : Fr} {r : List Fr} (h : Stk w1 B ts0 (f :: r)) : FrOk w1 B f := by
  cases r with
  | nil => exact h.1
  | cons a r => exact h.1
theorem Stk.top {w1 : World} {B : Nat} {ts0 : List Ot} {f : Fr} {r : List Fr} (h : Stk w1 B ts0 (f :: r)) (k : Nat) : Stk w1 B ts0 ({ f with k := k } :: r) := by
  cases r with
  | nil => exact h
  | cons a r => exact h

theorem sizeOts_part (ts : List Ot) (k : Nat) (h : k < ts.length) : sizeOts ts[k].args < sizeOts ts := by
  have h1 := sizeOts_take ts k h
  have h2 := sizeOts_le ts (k + 1)
  have h3 := sizeOt_eq ts[k]
  omega

theorem Stk.small {w1 : World} {B : Nat} {ts0 : List Ot} : ∀ {r : List Fr} {f : Fr}, Stk w1 B ts0 (f :: r) → ∀ x ∈ r, sizeOts f.ts < sizeOts x.ts
  | [], _, _, x, hx => absurd hx (by simp)
  | a :: r, f, h, x, hx => by
    obtain ⟨_, ⟨hk, hts, _⟩, h3⟩ := h
    have := sizeOts_part a.ts a.k hk
    rw [← hts] at this
    rcases List.mem_cons.1 hx with rfl | hx
    · exact this
    · exact Nat.lt_trans this (h3.small x hx)
theorem Stk.len {w1 : World} {B : Nat} {ts0 : List Ot} : ∀ {r : List Fr} {f : Fr}, Stk w1 B ts0 (f :: r) → r.length + sizeOts f.ts ≤ 2000000
  | [], _, h => by simpa using h.2.2
  | a :: r, f, h => by
    obtain ⟨_, ⟨hk, hts, _⟩, h3⟩ := h
    have := sizeOts_part a.ts a.k hk
    rw [← hts] at this
    have := h3.len
    simp only [List.length_cons]
    omega

/-- Tree k of a frame: its cells, and its parts. -/
theorem FrOk.elem {w1 : World} {B : Nat} {f : Fr} (h : FrOk w1 B f) (k : Nat) (hk : k < f.ts.length) : f.g < B ∧ ∃ A' ac, w1.cell? ⟨f.g, k * 4, none⟩ = some (.int .i64 f.ts[k].kind) ∧ w1.cell? ⟨f.g, k * 4 + 2, none⟩ = some (.int .i64 f.ts[k].num) ∧ w1.cell? ⟨f.g, k * 4 + 1, none⟩ = some (.string f.ts[k].name) ∧     w1.cell? ⟨f.g, k * 4 + 3, none⟩ = some (.slice A' f.ts[k].args.length ac) ∧ OtsIn w1 (fun b => b < B) A' f.ts[k].args ∧ f.ts[k].args.length ≤ maxLen := by
  obtain ⟨h0, hm, ga, vs, Ss, h1, h2, h3, h4⟩ := h
  rcases h1 with h1 | ⟨h1, h5, h6⟩
  · exact absurd h1 h0
  · cases h1
    obtain ⟨A', ac, hv, _, ha⟩ := (h4 k hk).open
    have c0 := h6.cell k 0 hk (by omega)
    have c1 := h6.cell k 1 hk (by omega)
    have c2 := h6.cell k 2 hk (by omega)
    have c3 := h6.cell k 3 hk (by omega)
    rw [hv] at c0 c1 c2 c3
    refine ⟨h5, A', ac, c0, c2, c1, c3, ?_, ha.1⟩
    obtain ⟨m0, ga', vs', Ss', m1, m2, m3, m4⟩ := ha
    exact ⟨m0, ga', vs', Ss', m1.imp id fun ⟨a, b, c⟩ => ⟨a, (h2 k hk _ b).1, c⟩, fun i hi b hb => ⟨(h2 k hk _ (m2 i hi b hb).1).1, (m2 i hi b hb).2⟩, m3, m4⟩

theorem _root_.Go.Proofs.YtlmbnefoobameaaDoor.OtsIn.addr {w1 : World} {S : Nat → Prop} {A : Option Addr} {ts : List Ot} (h : OtsIn w1 S A ts) (h0 : ts ≠ []) : ∃ g cs, A = some ⟨g, 0, none⟩ ∧ S g ∧ Whole1 w1 g 50 cs := by
  obtain ⟨_, ga, vs, Ss, h1, _⟩ := h
  rcases h1 with h1 | ⟨h1, h5, cs, h6, _⟩
  · exact absurd h1 h0
  · exact ⟨ga, cs, h1, h5, h6⟩

def extV (ts : List Ot) : Value := .agg #[.int .i64 (sizeOts ts : Int), .int .i64 (depthOts ts : Int)]
def bigV : Value := .agg #[.int .i64 9223372036854775807, .int .i64 9223372036854775807]

/-- The state of the walk. -/
structure Inv (w1 : World) (B mb : Nat) (ts0 : List Ot) (wc w : World) (v : Value) (f : Fr) (r : List Fr) (F : Pl → Option Value) (ret : Bool) : Prop where
  own : w.ownsRow B 186 4 v (r.length + 1) (stkCells r ++ frCells f)
  keep : PlWd w1 B mb w
  call : Below wc.heap.size wc w
  known : Known plVal (PlOk w1 B mb) w mb F
  zero : F none = some (extV [])
  vals : ∀ g ts u, OtsIn w1 (fun b => b < B) (some ⟨g, 0, none⟩) ts → ts ≠ [] → F (some (g, ts.length)) = some u → u = extV ts ∨ ∃ x ∈ f :: r, x.g = g ∧ x.ts.length = ts.length
  stk : Stk w1 B ts0 (f :: r)
  le : f.k ≤ f.ts.length
  ret : ret = true → ∃ (h : f.k < f.ts.length) (g c : Nat), w1.cell? ⟨f.g, f.k * 4 + 3, none⟩ = some (.slice (some ⟨g, 0, none⟩) f.ts[f.k].args.length c) ∧ F (some (g, f.ts[f.k].args.length)) = some (extV f.ts[f.k].args)
  size : B ≤ w.heap.size

/-- What is known of a slice that is met is right. -/
theorem Inv.right {w1 wc w : World} {B mb : Nat} {ts0 : List Ot} {v : Value} {f : Fr} {r : List Fr} {F : Pl → Option Value} {ret : Bool} (h : Inv w1 B mb ts0 wc w v f r F ret) (hk : f.k < f.ts.length) (g : Nat) (hg : OtsIn w1 (fun b => b < B) (some ⟨g, 0, none⟩) f.ts[f.k].args) (h0 : f.ts[f.k].args ≠ []) (u : Value)
    (hu : F (some (g, f.ts[f.k].args.length)) = some u) : u = extV f.ts[f.k].args := by
  rcases h.vals g _ u hg h0 hu with h1 | ⟨x, hx, rfl, hl⟩
  · exact h1
  · exfalso
    have hsz := sizeOts_part f.ts f.k hk
    have hok : FrOk w1 B x := by
      have : ∀ (r : List Fr) (f : Fr), Stk w1 B ts0 (f :: r) → x ∈ f :: r → FrOk w1 B x := by
        intro r
        induction r with
        | nil =>
          intro f hs hm
          have : x = f := by simpa using hm
          rw [this]
          exact hs.ok
        | cons a r ih =>
          intro f hs hm
          rcases List.mem_cons.1 hm with rfl | hm
          · exact hs.ok
          · exact ih a hs.2.2 hm
      exact this r f h.stk hx
    have he := hok.2.uniq hg hl
    rcases List.mem_cons.1 hx with rfl | hx
    · have := congrArg sizeOts he
      omega
    · have h1 := h.stk.small x hx
      have h2 := congrArg sizeOts he
      omega

theorem okKey {w1 : World} {B mb : Nat} (hmb : ∀ (t : TypeId) (cs : Array Value), ¬ Whole1 w1 mb t cs) {g : Nat} {ts : List Ot} (hg : OtsIn w1 (fun b => b < B) (some ⟨g, 0, none⟩) ts) (h0 : ts ≠ []) (n : Nat) : PlOk w1 B mb (some (g, n)) := by
  intro g' n' e
  cases e
  obtain ⟨ga, cs, e, h1, h2⟩ := hg.addr h0
  cases e
  exact ⟨h1, fun e => hmb _ _ (e ▸ h2), cs, _, h2⟩

/-- How much is to come. -/
def muRest : List Fr → Nat | [] => 0 | f :: r => 3 * sizeOts (f.ts.drop (f.k + 1)) + 2 + muRest r
def mu (f : Fr) (r : List Fr) (ret : Bool) : Nat := (if ret then 3 * sizeOts (f.ts.drop (f.k + 1)) + 2 else 3 * sizeOts (f.ts.drop f.k) + 1) + muRest r

theorem drop_size (ts : List Ot) (k : Nat) (h : k < ts.length) : sizeOts (ts.drop k) = 1 + sizeOts ts[k].args + sizeOts (ts.drop (k + 1)) := by
  rw [List.drop_eq_getElem_cons h, sizeOts, sizeOt_eq]

theorem mu_add (f : Fr) (r : List Fr) (ret : Bool) (h : f.k < f.ts.length) : mu { f with k := f.k + 1 } r false < mu f r ret := by
  unfold mu
  have := drop_size f.ts f.k h
  cases ret <;> simp <;> omega
theorem mu_push (f : Fr) (r : List Fr) (h : f.k < f.ts.length) (g c : Nat) : mu ⟨g, c, f.ts[f.k].args, 0⟩ (f :: r) false < mu f r false := by
  unfold mu
  have := drop_size f.ts f.k h
  simp [muRest]
  omega
theorem mu_pop (f f2 : Fr) (r : List Fr) (ret : Bool) : mu f2 r true < mu f (f2 :: r) ret := by
  unfold mu
  cases ret <;> simp [muRest] <;> omega

section
variable {w1 wc w : World} {B mb : Nat} {ts0 : List Ot} {v : Value} {f : Fr} {r : List Fr} {F : Pl → Option Value} {ret : Bool}

theorem Inv.below {w' : World} (h : Inv w1 B mb ts0 wc w v f r F ret) (hB0 : wc.heap.size ≤ w.heap.size) (hb : Below w.heap.size w w') : Inv w1 B mb ts0 wc w' v f r F ret :=
  { h with
    own := owns_keep4 h.own fun g hg => hb.block g (h.own.lt g hg).2
    keep := fun g hg hne => (hb.block g (Nat.lt_of_lt_of_le hg h.size)).trans (h.keep g hg hne)
    call := h.call.trans (hb.mono hB0)
    known := h.known.keep (hb.block mb h.known.lt)
    size := Nat.le_trans h.size hb.size }

/-- The top has been measured, and is taken off. -/
theorem Inv.pop {w' : World} {f2 : Fr} {q cap : Nat} (h : Inv w1 B mb ts0 wc w (.slice (some ⟨q, 0, none⟩) (r.length + 1 + 1) cap) f (f2 :: r) F ret) (hk : f.k = f.ts.length) (hmB : mb < B) (hmc : wc.heap.size ≤ mb) (ho : MapOnly mb w w') (hkn : Known plVal (PlOk w1 B mb) w' mb (put F (some (f.g, f.ts.length)) (extV f.ts))) :
    Inv w1 B mb ts0 wc w' (.slice (some ⟨q, 0, none⟩) (r.length + 1) cap) f2 r (put F (some (f.g, f.ts.length)) (extV f.ts)) true := by
  obtain ⟨hgb, hsz⟩ := ho
  have hst := h.stk
  obtain ⟨hfo, ⟨hlk, hts, hcell⟩, hst2⟩ := hst
  refine { own := ?_, keep := fun g hg hne => (hgb.block g (Nat.lt_of_lt_of_le hg h.size) (fun e => hne (Option.some.inj e))).trans (h.keep g hg hne), call := h.call.grown hgb (by have := h.call.size; omega) (fun k hk => by cases hk; exact hmc), known := hkn, zero := ?_, vals := ?_, stk := hst2, le := Nat.le_of_lt hlk, ret := fun _ => ⟨hlk, f.g, f.c, by rw [hcell, hts], by rw [← hts, put_same]⟩, size := by have := h.size; omega }
  · obtain ⟨q', cap', cur, he, hq, hW, hcap, hcap2, hcs, htk, _⟩ := row_top h.own (stkCells_len _)
    simp at he
    obtain ⟨rfl, rfl⟩ := he
    have hqm : q ≠ mb := by have := hq; omega
    exact row_pop hq ((hgb.block q hW.lt (fun e => hqm (Option.some.inj e))).trans hW) hcap hcap2 hcs (stkCells_len (f2 :: r)) htk
  · rw [put_other _ _ _ _ (by simp)]
    exact h.zero
  · intro g ts u hg h0 hu
    by_cases he : (some (g, ts.length) : Pl) = some (f.g, f.ts.length)
    · simp at he
      obtain ⟨rfl, hl⟩ := he
      have := hg.uniq hfo.2 hl
      subst this
      rw [put_same] at hu
      exact .inl (Option.some.inj hu).symm
    · rw [put_other _ _ _ _ he] at hu
      rcases h.vals g ts u hg h0 hu with h1 | ⟨x, hx, h2, h3⟩
      · exact .inl h1
      · rcases List.mem_cons.1 hx with rfl | hx
        · exact absurd (by rw [h2, h3]) he
        · exact .inr ⟨x, hx, h2, h3⟩

/-- One more tree of the top has been measured. -/
theorem Inv.add {w' : World} {q cap : Nat} {cur cur' : Array Value} (h : Inv w1 B mb ts0 wc w (.slice (some ⟨q, 0, none⟩) (r.length + 1) cap) f r F ret) (hk : f.k < f.ts.length) (hmB : mb < B) (hcB : wc.heap.size ≤ B) (hW : Whole1 w q 186 cur) (hW' : Whole1 w' q 186 cur')
    (hg : w.grownBy w' (some q)) (hcs : cur'.size = cur.size) (hold : ∀ i : Nat, i ≤ r.length * 4 → cur'[i]? = cur[i]?) (h1 : cur'[r.length * 4 + 1]? = some (.int .i64 ((f.k + 1 : Nat) : Int))) (h2 : cur'[r.length * 4 + 2]? = some (.int .i64 (sizeOts (f.ts.take (f.k + 1)) : Int)))
    (h3 : cur'[r.length * 4 + 3]? = some (.int .i64 (depthOts (f.ts.take (f.k + 1)) : Int))) : Inv w1 B mb ts0 wc w' (.slice (some ⟨q, 0, none⟩) (r.length + 1) cap) { f with k := f.k + 1 } r F false := by
  obtain ⟨q', cap', cur0, he, hq, hW0, hcap, hcap2, hcs0, htk, c0, _⟩ := row_top h.own (stkCells_len _)
  simp at he
  obtain ⟨rfl, rfl⟩ := he
  have hc : cur0 = cur := by
    unfold Whole1 at hW hW0
    rw [hW] at hW0
    injection hW0 with e
    injection e with e
    exact e.symm
  subst hc
  have hne : ∀ g, g < B → g ≠ q := fun g hg => by omega
  refine { own := ?_, keep := fun g hg' hne' => (hg.block g (Nat.lt_of_lt_of_le hg' h.size) (fun e => hne g hg' (Option.some.inj e))).trans (h.keep g hg' hne'), call := h.call.grown hg h.call.size (fun k hk => by cases hk; omega), known := h.known.keep (hg.block mb h.known.lt (fun e => hne mb hmB (Option.some.inj e))), zero := h.zero, vals := ?_, stk := h.stk.top _, le := hk, ret := fun e => (by cases e), size := Nat.le_trans h.size hg.size }
  · refine row_of hq hW' hcap hcap2 (by rw [hcs, hcs0]) (stkCells_len r) ?_ (by rw [hold _ (Nat.le_refl _)]; exact c0) h1 h2 h3
    rw [← htk]
    apply List.ext_getElem?
    intro i
    rw [List.getElem?_take, List.getElem?_take]
    by_cases hi : i < r.length * 4
    · rw [if_pos hi, if_pos hi]
      simpa using hold i (by omega)
    · rw [if_neg hi, if_neg hi]
  · intro g ts u hg' h0 hu
    rcases h.vals g ts u hg' h0 hu with a | ⟨x, hx, b, c⟩
    · exact .inl a
    · rcases List.mem_cons.1 hx with rfl | hx
      · exact .inr ⟨_, List.mem_cons_self, b, c⟩
      · exact .inr ⟨x, List.mem_cons_of_mem _ hx, b, c⟩

/-- The parts of a tree of the top are laid onto the stack. -/
theorem Inv.push {w' : World} {v' : Value} (h : Inv w1 B mb ts0 wc w v f r F ret) (hk : f.k < f.ts.length) (g c : Nat) (hcell : w1.cell? ⟨f.g, f.k * 4 + 3, none⟩ = some (.slice (some ⟨g, 0, none⟩) f.ts[f.k].args.length c)) (hg : OtsIn w1 (fun b => b < B) (some ⟨g, 0, none⟩) f.ts[f.k].args) (h0 : f.ts[f.k].args ≠ [])
    (hkn : Known plVal (PlOk w1 B mb) w' mb (put F (some (g, f.ts[f.k].args.length)) bigV)) (hown : w'.ownsRow B 186 4 v' (r.length + 1 + 1) ((stkCells r ++ frCells f) ++ frCells ⟨g, c, f.ts[f.k].args, 0⟩)) (hkeep : PlWd w1 B mb w') (hcall : Below wc.heap.size wc w') (hB : B ≤ w'.heap.size) :
    Inv w1 B mb ts0 wc w' v' ⟨g, c, f.ts[f.k].args, 0⟩ (f :: r) (put F (some (g, f.ts[f.k].args.length)) bigV) false := by
  refine { own := hown, keep := hkeep, call := hcall, known := hkn, zero := ?_, vals := ?_, stk := ⟨⟨h0, hg⟩, ⟨hk, rfl, hcell⟩, h.stk⟩, le := Nat.zero_le _, ret := fun e => (by cases e), size := hB }
  · rw [put_other _ _ _ _ (by simp)]
    exact h.zero
  · intro g' ts u hg' h0' hu
    by_cases he : (some (g', ts.length) : Pl) = some (g, f.ts[f.k].args.length)
    · simp at he
      exact .inr ⟨_, List.mem_cons_self, he.1.symm, he.2.symm⟩
    · rw [put_other _ _ _ _ he] at hu
      rcases h.vals g' ts u hg' h0' hu with a | ⟨x, hx, b, c⟩
      · exact .inl a
      · exact .inr ⟨x, List.mem_cons_of_mem _ hx, b, c⟩

end

/-- At the start. -/
theorem Inv.start {wc w3 w1 : World} {t : Ot} {S : Nat → Prop} {a b c d : Value} (hv : OtIn wc S (.agg #[a, b, c, d]) t) (hS : ∀ b, S b → b < wc.heap.size) (hsz : sizeOt t ≤ 2000000) (hb3 : Below wc.heap.size wc w3) (hs3 : w3.heap.size = wc.heap.size + 2 + 1)
    (hk : Known plVal (PlOk wc 0 (wc.heap.size + 2)) w3 (wc.heap.size + 2) (put (fun _ => none) none (.agg #[.int .i64 0, .int .i64 0])))
    (hw1 : (w3.alloc (.cells #[a, b, c, d] 50)).alloc (.cells #[.slice (some ⟨wc.heap.size + 2 + 1, 0, none⟩) 1 1, .int .i64 0, .int .i64 0, .int .i64 0] 186) = w1) :
    Inv w1 (wc.heap.size + 4) (wc.heap.size + 2) [t] wc w1 (.slice (some ⟨wc.heap.size + 2 + 1 + 1, 0, none⟩) 1 1) ⟨wc.heap.size + 3, 1, [t], 0⟩ [] (put (fun _ => none) none (.agg #[.int .i64 0, .int .i64 0])) false := by
  have hs4 : (w3.alloc (.cells #[a, b, c, d] 50)).heap.size = wc.heap.size + 4 := by simp [hs3]
  have hb1 : Below w3.heap.size w3 w1 := by
    rw [← hw1]
    exact ((Below.refl _ _).alloc (Nat.le_refl _) _).alloc (by simp) _
  have hs1 : w1.heap.size = wc.heap.size + 5 := by rw [← hw1]; simp [hs3]
  have hcall : Below wc.heap.size wc w1 := hb3.trans (hb1.mono (by omega))
  have hroot : Whole1 w1 (wc.heap.size + 3) 50 #[a, b, c, d] := by
    rw [← hw1]
    refine (Below.heap_alloc _ _ _ (by omega)).trans ?_
    have := Whole1.new w3 50 #[a, b, c, d]
    rw [hs3] at this
    exact this
  have htop : Whole1 w1 (wc.heap.size + 4) 186 #[.slice (some ⟨wc.heap.size + 2 + 1, 0, none⟩) 1 1, .int .i64 0, .int .i64 0, .int .i64 0] := by
    rw [← hw1]
    have := Whole1.new (w3.alloc (.cells #[a, b, c, d] 50)) 186 #[.slice (some ⟨wc.heap.size + 2 + 1, 0, none⟩) 1 1, .int .i64 0, .int .i64 0, .int .i64 0]
    rw [hs4] at this
    exact this
  refine { own := ?_, keep := fun _ _ _ => rfl, call := hcall, known := ?_, zero := ?_, vals := ?_, stk := ?_, le := Nat.zero_le _, ret := fun e => (by cases e), size := by omega }
  · exact ⟨rfl, .inr ⟨wc.heap.size + 4, 1, _, rfl, Nat.le_refl _, htop, Nat.le_refl _, by decide, rfl, rfl⟩⟩
  · obtain ⟨es, clock, h1, h2, h3⟩ := hk
    exact ⟨es, clock, (hb1.block _ (by omega)).trans h1, fun e he => by
      obtain ⟨k, k1, k2⟩ := h2 e he
      exact ⟨k, fun g n e => absurd (k1 g n e).1 (Nat.not_lt_zero _), k2⟩, h3⟩
  · rw [put_same]
    simp [extV, sizeOts, depthOts]
  · intro g ts u _ _ hu
    rw [put_other _ _ _ _ (by simp)] at hu
    cases hu
  · refine ⟨⟨by simp, by simp [maxLen], wc.heap.size + 3, fun _ => .agg #[a, b, c, d], fun _ => S, .inr ⟨rfl, by omega, _, hroot, ?_⟩, ?_, ?_, ?_⟩, rfl, by simp [sizeOts]; exact hsz⟩
    · intro i hi j hj
      have hi0 : i = 0 := by simpa using hi
      subst hi0
      have : j = 0 ∨ j = 1 ∨ j = 2 ∨ j = 3 := by omega
      rcases this with rfl | rfl | rfl | rfl <;> simp [partAt]
    · intro i _ b hb
      have := hS b hb
      exact ⟨by omega, by omega⟩
    · intro i j hi hj hne
      simp at hi hj
      omega
    · intro i hi
      have hi0 : i = 0 := by simpa using hi
      subst hi0
      exact hv.keep fun b hb _ => hcall.block b (hS b hb)

/-- The next tree of the top: its cells, the place of its parts, and what is known of that. -/
theorem Inv.next {w1 wc w : World} {B mb : Nat} {ts0 : List Ot} {v : Value} {f : Fr} {r : List Fr} {F : Pl → Option Value} {ret : Bool} (h : Inv w1 B mb ts0 wc w v f r F ret) (hk : f.k < f.ts.length) (hmb : ∀ (t : TypeId) (cs : Array Value), ¬ Whole1 w1 mb t cs) :
    ∃ A' ac key, f.g < B ∧ f.g ≠ mb ∧ w1.cell? ⟨f.g, f.k * 4, none⟩ = some (.int .i64 f.ts[f.k].kind) ∧ w1.cell? ⟨f.g, f.k * 4 + 2, none⟩ = some (.int .i64 f.ts[f.k].num) ∧ w1.cell? ⟨f.g, f.k * 4 + 1, none⟩ = some (.string f.ts[f.k].name) ∧ w1.cell? ⟨f.g, f.k * 4 + 3, none⟩ = some (.slice A' f.ts[f.k].args.length ac) ∧
      (∀ W, Calls Tryd.prog 145 #[.slice A' f.ts[f.k].args.length ac] W (PlaceRet W key)) ∧ PlOk w1 B mb key ∧ (∀ u, F key = some u → u = extV f.ts[f.k].args) ∧
      (F key = none → ret = false ∧ f.ts[f.k].args ≠ [] ∧ ∃ g', A' = some ⟨g', 0, none⟩ ∧ key = some (g', f.ts[f.k].args.length) ∧ OtsIn w1 (fun b => b < B) (some ⟨g', 0, none⟩) f.ts[f.k].args) := by
  have hfo := h.stk.ok
  obtain ⟨hgB, A', ac, c0, cn, cm, c2, hargs, _⟩ := hfo.elem f.k hk
  obtain ⟨g0, cs0, e0, _, hw0⟩ := hfo.2.addr hfo.1
  cases e0
  have hgm : f.g ≠ mb := fun e => hmb _ _ (e ▸ hw0)
  by_cases h0 : f.ts[f.k].args = []
  · refine ⟨A', ac, none, hgB, hgm, c0, cn, cm, c2, fun W => ?_, fun g n e => (by cases e), fun u hu => ?_, fun hn => ?_⟩
    · rw [h0]
      exact placeOf_nil A' ac W
    · rw [h.zero] at hu
      rw [h0]
      exact (Option.some.inj hu).symm
    · rw [h.zero] at hn
      cases hn
  · obtain ⟨g', cs', rfl, _, _⟩ := hargs.addr h0
    refine ⟨_, ac, some (g', f.ts[f.k].args.length), hgB, hgm, c0, cn, cm, c2, fun W => placeOf_some g' _ ac W (List.length_pos_iff.2 h0), okKey hmb hargs h0 _, fun u hu => h.right hk g' hargs h0 u hu, fun hn => ⟨?_, h0, g', rfl, rfl, hargs⟩⟩
    cases hr : ret with
    | false => rfl
    | true =>
      obtain ⟨_, g, c, hc, hF⟩ := h.ret hr
      rw [c2] at hc
      simp at hc
      rw [hc.1] at hn
      rw [hF] at hn
      cases hn

end Go.Proofs.YtlmbnefoobameaaDoor.O

namespace Go.Proofs.YtlmbnefoobameaaDoor.O
set_option maxRecDepth 100000
open Go.RowKit

theorem infoVisit : (Tryd.prog.info? 186).map (fun i => (i.zero, i.size, i.bytes)) = some (some (.agg #[.slice none 0 0, .int .i64 0, .int .i64 0, .int .i64 0]), 4, 48) := by kernel_rfl

def ExtRet (w : World) (t : Ot) (e : Ending) (w' : World) : Prop := e = .returned (.agg #[.int .i64 (sizeOt t : Int), .int .i64 (depthOt t : Int)]) ∧ Below w.heap.size w w'

set_option maxHeartbeats 4000000 in
theorem extentOf_any (t : Ot) (v : Value) (S : Nat → Prop) (w : World) (hv : OtIn w S v t) (hS : ∀ b, S b → b < w.heap.size) (hsz : sizeOt t ≤ 2000000) :
    Calls Tryd.prog 131 #[v, .func (.func 132) #[] #[]] w (ExtRet w t) := by
  obtain ⟨A, ac, hv0, _, ha⟩ := hv.open
  have HV := Lib.hid hv
  subst hv0
  clear hv ha
  have hmm := @run_makeMap Tryd.prog
  obtain ⟨hb2, p2, r2, hs2⟩ := boxes2 w 50 69 #[.int .i64 t.kind, .string t.name, .int .i64 t.num, .slice A t.args.length ac] #[.int .i64 0, .int .i64 0]
  go_enter Tryd.func131, Tryd.ntmps131
  go_upto_region 1 with fail
  generalize (w.alloc (.cells #[.int .i64 t.kind, .string t.name, .int .i64 t.num, .slice A t.args.length ac] 50)).alloc (.cells #[.int .i64 0, .int .i64 0] 69) = w2 at *
  have hkn : Known plVal (PlOk w 0 (w.heap.size + 2)) (w2.alloc (.map #[] 0)) (w.heap.size + 2) (fun _ => none) := by rw [← hs2]; exact Known.new w2
  obtain ⟨w3, hrun, hk3, ho3, hs3⟩ := hkn.store (plKit w 0 (w.heap.size + 2)) Tryd.underlying181 (fun g hg => absurd hg (Nat.not_lt_zero _)) (k := none) (fun g n e => by cases e) (.agg #[.int .i64 0, .int .i64 0])
  have hrun' : (Instr.mapUpdate 181 (.map (some (w.heap.size + 2))) (.agg #[.pointer none, .int .i64 0]) (.agg #[.int .i64 0, .int .i64 0])).run Tryd.prog (w2.alloc (.map #[] 0)) = .ok () w3 := hrun
  simp only [World.size_alloc] at hs3
  have hb3 : Below w.heap.size w w3 := (hb2.alloc hb2.size (.map #[] 0)).grown ho3 (by simp; omega) (fun q hq => by cases hq; omega)
  have p3 : Whole1 w3 w.heap.size 50 #[.int .i64 t.kind, .string t.name, .int .i64 t.num, .slice A t.args.length ac] := (ho3.block _ (by simp; omega) (fun e => by injection e with e; omega)).trans ((Below.heap_alloc _ _ _ (by omega)).trans p2)
  have r3 : Whole1 w3 (w.heap.size + 1) 69 #[.int .i64 0, .int .i64 0] := (ho3.block _ (by simp; omega) (fun e => by injection e with e; omega)).trans ((Below.heap_alloc _ _ _ (by omega)).trans r2)
  have HK := Lib.hid hk3
  have HP := Lib.hid p3
  have HR := Lib.hid r3
  have q0 : w3.cell? ⟨w.heap.size, 0, none⟩ = some (.int .i64 t.kind) := p3.cell 0
  have qn : w3.cell? ⟨w.heap.size, 2, none⟩ = some (.int .i64 t.num) := p3.cell 2
  have qm : w3.cell? ⟨w.heap.size, 1, none⟩ = some (.string t.name) := p3.cell 1
  have q2 : w3.cell? ⟨w.heap.size, 3, none⟩ = some (.slice A t.args.length ac) := p3.cell 3
  rw [hs2] at hs3
  clear p2 r2 hk3 p3 r3 hkn hrun ho3
  go_upto_region 3 with fail
  clear hrun' hmm hb2 hs2
  go_wp2
  generalize hw1 : (w3.alloc (.cells #[.int .i64 t.kind, .string t.name, .int .i64 t.num, .slice A t.args.length ac] 50)).alloc _ = w1
  have hstart := Inv.start HV.out hS hsz hb3 hs3 HK.out hw1
  have HR1 : Hid (Whole1 w1 (w.heap.size + 1) 69 #[.int .i64 0, .int .i64 0]) := by
    apply Lib.hid
    rw [← hw1]
    exact (Below.heap_alloc _ _ _ (by simp; omega)).trans ((Below.heap_alloc _ _ _ (by omega)).trans HR.out)
  have hs1 : w1.heap.size = w.heap.size + 5 := by rw [← hw1]; simp [hs3]
  have hmb : ∀ (t : TypeId) (cs : Array Value), ¬ Whole1 w1 (w.heap.size + 2) t cs := by
    obtain ⟨es, clock, h1, _⟩ := hstart.known
    intro t cs h
    unfold Whole1 at h
    rw [h1] at h
    cases h
  have HMB := Lib.hid hmb
  clear HK HP HR HV hw1 hb3 hs3 q0 qn qm q2 hmb
  go_loopg [6] (mu ⟨w.heap.size + 3, 1, [t], 0⟩ [] false) (fun gn v wr => ∃ f r F ret, Inv w1 (w.heap.size + 4) (w.heap.size + 2) [t] w wr v f r F ret ∧ mu f r ret = gn)
  case atStart => exact ⟨_, _, _, _, hstart, rfl⟩
  case round =>
    clear hstart
    obtain ⟨f, r, F, ret, hI, hmu⟩ := hrel
    have hlen := hI.stk.len
    have hfok := hI.stk.ok
    have hfl := hfok.2.1
    unfold maxLen at hfl
    have hfle := hI.le
    have hwz := hI.size
    have hcz := hI.call.size
    have HF := Lib.hid hfok
    obtain ⟨q, cap, cur, rfl, hq, hW, hcap, hcap2, hcs, htk, d0, d1, d2, d3⟩ := row_top (hI.own) (stkCells_len r)
    have HI := Lib.hid hI
    have HMU := Lib.hid hmu
    have hql := hW.lt
    clear hI hmu hfok htk
    obtain ⟨n, hn⟩ : ∃ n, n = r.length := ⟨_, rfl⟩
    have HN := Lib.hid hn
    rw [← hn] at d0 d1 d2 d3 hcap hlen ⊢
    clear hn
    have hszk := sizeOts_le f.ts f.k
    have hdpk := depths_le_sizesO (f.ts.take f.k)
    have hlt0 : (n : Int) < (n : Int) + 1 := by omega
    by_cases hke : f.k = f.ts.length
    · have hkI : ((f.k : Int) == (f.ts.length : Int)) = true := by rw [beq_iff_eq]; omega
      by_cases hn0 : n = 0
      · subst hn0
        have e0 : wr.cell? ⟨q, 0, none⟩ = some (.slice (some ⟨f.g, 0, none⟩) f.ts.length f.c) := (hW.cell _).trans (by simpa using d0)
        have e1 : wr.cell? ⟨q, 1, none⟩ = some (.int .i64 (f.k : Int)) := (hW.cell _).trans (by simpa using d1)
        have e2 : wr.cell? ⟨q, 2, none⟩ = some (.int .i64 (sizeOts (f.ts.take f.k) : Int)) := (hW.cell _).trans (by simpa using d2)
        have e3 : wr.cell? ⟨q, 3, none⟩ = some (.int .i64 (depthOts (f.ts.take f.k) : Int)) := (hW.cell _).trans (by simpa using d3)
        have hR : Whole1 wr (w.heap.size + 1) 69 #[.int .i64 0, .int .i64 0] := (HI.out.keep _ (by omega) (by omega)).trans HR1.out
        have f0 : wr.frozen? ⟨w.heap.size + 1, 0, none⟩ = false := hR.free 0
        have f1 : wr.frozen? ⟨w.heap.size + 1, 1, none⟩ = false := hR.free 1
        have z0 : wr.cell? ⟨w.heap.size + 1, 0, none⟩ = some (.int .i64 0) := hR.cell 0
        have z1 : wr.cell? ⟨w.heap.size + 1, 1, none⟩ = some (.int .i64 0) := hR.cell 1
        clear hR
        go_upto_region 5 with fail
        clear hke
        go_quiet (fail)
        go_wp2
        have hx : sizeOts (f.ts.take f.k) = sizeOt t ∧ depthOts (f.ts.take f.k) = depthOt t := by
          have h1 : f.k = f.ts.length := by have := beq_iff_eq.1 hkI; omega
          have h2 : f.ts = [t] := by
            have h3 := HI.out.stk
            have h4 : r = [] := List.length_eq_zero_iff.1 HN.out.symm
            rw [h4] at h3
            exact h3.2.1
          rw [h1, List.take_length, h2]
          simp [sizeOts, depthOts]
        have hcall := HI.out.call
        rw [hx.1, hx.2]
        refine bodyPost_ret (v := .agg #[.int .i64 (sizeOt t : Int), .int .i64 (depthOt t : Int)]) (by simp [results, Tryd.results131, go_sem, z0, z1]) rfl ⟨rfl, (Below.setCell (p := ⟨w.heap.size + 1, 0, none⟩) (hcall.trans (b := wr) (c := wr.drewN nq) ⟨rfl, rfl, rfl, Nat.le_refl _, fun _ _ => rfl⟩) (by simp) _).setCell (p := ⟨w.heap.size + 1, 1, none⟩) (by simp) _⟩
      · obtain ⟨f2, r2, hr⟩ : ∃ f2 r2, r = f2 :: r2 := by
          have := HN.out
          cases r with
          | nil => exact absurd this hn0
          | cons f2 r2 => exact ⟨f2, r2, rfl⟩
        have hnI : ((n : Int) + 1 == 1) = false := by rw [beq_eq_false_iff_ne]; omega
        have hpos : 0 < f.ts.length := List.length_pos_iff.2 HF.out.1
        have HNP := Lib.hid hn0
        have e0 : wr.cell? ⟨q, n * 4, none⟩ = some (.slice (some ⟨f.g, 0, none⟩) f.ts.length f.c) := (hW.cell _).trans d0
        have e1 : wr.cell? ⟨q, n * 4 + 1, none⟩ = some (.int .i64 (f.k : Int)) := (hW.cell _).trans d1
        clear hke hn0 d0 d1
        go_upto_region 5 with fail
        go_quiet (fail)
        have HIa := Lib.hid (HI.out.below hcz ⟨rfl, rfl, rfl, Nat.le_refl _, fun _ _ => rfl⟩ : Inv w1 (w.heap.size + 4) (w.heap.size + 2) [t] w (wr.drewN nq) _ f r F ret)
        have hWa : Whole1 (wr.drewN nq) q 186 cur := hW
        have hqla : q < (wr.drewN nq).heap.size := hql
        have e0a : (wr.drewN nq).cell? ⟨q, n * 4, none⟩ = some (.slice (some ⟨f.g, 0, none⟩) f.ts.length f.c) := e0
        clear e0 e1 HI hW hql hwz hcz
        generalize wr.drewN nq = wa at *
        have e2 : wa.cell? ⟨q, n * 4 + 2, none⟩ = some (.int .i64 (sizeOts (f.ts.take f.k) : Int)) := (hWa.cell _).trans d2
        have e3 : wa.cell? ⟨q, n * 4 + 3, none⟩ = some (.int .i64 (depthOts (f.ts.take f.k) : Int)) := (hWa.cell _).trans d3
        clear d2 d3
        go_upto_region 8 with fail
        have ed := (Below.refl wa.heap.size wa).drew
        have k0 : wa.drew.cell? ⟨q, n * 4, none⟩ = some (.slice (some ⟨f.g, 0, none⟩) f.ts.length f.c) := e0a
        have k2 : wa.drew.cell? ⟨q, n * 4 + 2, none⟩ = some (.int .i64 (sizeOts (f.ts.take f.k) : Int)) := e2
        have k3 : wa.drew.cell? ⟨q, n * 4 + 3, none⟩ = some (.int .i64 (depthOts (f.ts.take f.k) : Int)) := e3
        go_region_held3 (fun x => x.cell? ⟨q, n * 4, none⟩ = some (.slice (some ⟨f.g, 0, none⟩) f.ts.length f.c) ∧ x.cell? ⟨q, n * 4 + 2, none⟩ = some (.int .i64 (sizeOts (f.ts.take f.k) : Int)) ∧ x.cell? ⟨q, n * 4 + 3, none⟩ = some (.int .i64 (depthOts (f.ts.take f.k) : Int)))
          (first | (with_reducible exact ⟨k0, k2, k3⟩) | (with_reducible exact ⟨m0, m2, m3⟩) | (with_reducible exact ⟨o0, o2, o3⟩))
          (first | (go_at_call 145; refine (placeOf_some f.g f.ts.length f.c _ hpos).mono ?_; rintro e w' ⟨rfl, hb1⟩; have hb2 := ed.trans hb1; have m0 := (hb2.cell (p := ⟨q, n * 4, none⟩) hqla).trans e0a; have m2 := (hb2.cell (p := ⟨q, n * 4 + 2, none⟩) hqla).trans e2; have m3 := (hb2.cell (p := ⟨q, n * 4 + 3, none⟩) hqla).trans e3; have hI5 := HIa.out.below HIa.out.call.size hb2; obtain ⟨w5, hrun5, hkn5, ho5⟩ := hI5.known.store (plKit w1 (w.heap.size + 4) (w.heap.size + 2)) Tryd.underlying181 hI5.keep (okKey HMB.out HF.out.2 HF.out.1 f.ts.length) (.agg #[.int .i64 (sizeOts (f.ts.take f.k) : Int), .int .i64 (depthOts (f.ts.take f.k) : Int)]); have hq5 := ho5.1.block q (Nat.lt_of_lt_of_le hqla hb2.size) (fun e => by injection e with e; omega); have o0 := (World.cell?_of_block (a := ⟨q, n * 4, none⟩) hq5).trans m0; have o2 := (World.cell?_of_block (a := ⟨q, n * 4 + 2, none⟩) hq5).trans m2; have o3 := (World.cell?_of_block (a := ⟨q, n * 4 + 3, none⟩) hq5).trans m3))
        have HI5 := Lib.hid hI5
        have HK5 := Lib.hid hkn5
        have HO5 := Lib.hid ho5
        have HR5 := Lib.hid hr
        have hnc : (n : Int) ≤ (cap : Int) := by omega
        clear hI5 hkn5 ho5 hrun5 hr hq5 o0 o2 o3 m0 m2 m3 k0 k2 k3 e0a e2 e3
        go_wp2
        have hr := HR5.out
        subst hr
        have hn2 : n = r2.length + 1 := HN.out
        subst hn2
        go_roundg (mu f2 r2 true)
        case measure => rw [← HMU.out]; exact mu_pop f f2 r2 ret
        case rel =>
          have hke : f.k = f.ts.length := by have := beq_iff_eq.1 hkI; omega
          have hkn := HK5.out
          rw [hke, List.take_length] at hkn
          exact ⟨f2, r2, _, true, HI5.out.pop hke (by omega) (by omega) HO5.out hkn, rfl⟩
    · have hk : f.k < f.ts.length := by omega
      have hkI : ((f.k : Int) == (f.ts.length : Int)) = false := by rw [beq_eq_false_iff_ne]; omega
      have hkI2 : (f.k : Int) < (f.ts.length : Int) := by omega
      obtain ⟨A', ac', key, hgB, hgm, c0, cn, cm, c2, hpl, hok, hright, hnew⟩ := HI.out.next hk HMB.out
      have HPL := Lib.hid hpl
      have HOK := Lib.hid hok
      have HRI := Lib.hid hright
      have HNW := Lib.hid hnew
      have HC2 := Lib.hid c2
      have hkeep := fun (x : World) (hx : PlWd w1 (w.heap.size + 4) (w.heap.size + 2) x) (o : Nat) => World.cell?_of_block (w := w1) (w' := x) (a := ⟨f.g, o, none⟩) (hx f.g hgB hgm)
      have y0 := (hkeep wr HI.out.keep _).trans c0
      have yn := (hkeep wr HI.out.keep _).trans cn
      have ym := (hkeep wr HI.out.keep _).trans cm
      have y2 := (hkeep wr HI.out.keep _).trans c2
      have e0 : wr.cell? ⟨q, n * 4, none⟩ = some (.slice (some ⟨f.g, 0, none⟩) f.ts.length f.c) := (hW.cell _).trans d0
      have e1 : wr.cell? ⟨q, n * 4 + 1, none⟩ = some (.int .i64 (f.k : Int)) := (hW.cell _).trans d1
      have hst := Lib.hid (sizeOts_take f.ts f.k hk)
      have hdt := Lib.hid (depthOts_take f.ts f.k hk)
      have hse := sizeOt_eq f.ts[f.k]
      have hde := depthOt_eq f.ts[f.k]
      have hle2 := sizeOts_le f.ts (f.k + 1)
      have hds := depths_le_sizesO f.ts[f.k].args
      have hsmall : sizeOts (f.ts.take f.k) + sizeOts f.ts[f.k].args + 1 ≤ 2000000 := by have := hst.out; omega
      have HSE := Lib.hid hse
      have HDE := Lib.hid hde
      clear hke hpl hok hright hnew hkeep c0 cn cm c2 hse hde hle2
      go_upto_region 5 with fail
      go_quiet (fail)
      have HIa := Lib.hid (HI.out.below hcz ⟨rfl, rfl, rfl, Nat.le_refl _, fun _ _ => rfl⟩ : Inv w1 (w.heap.size + 4) (w.heap.size + 2) [t] w (wr.drewN nq) _ f r F ret)
      have hWa : Whole1 (wr.drewN nq) q 186 cur := hW
      have hqla : q < (wr.drewN nq).heap.size := hql
      have e0a : (wr.drewN nq).cell? ⟨q, n * 4, none⟩ = some (.slice (some ⟨f.g, 0, none⟩) f.ts.length f.c) := e0
      have e1a : (wr.drewN nq).cell? ⟨q, n * 4 + 1, none⟩ = some (.int .i64 (f.k : Int)) := e1
      have y0a : (wr.drewN nq).cell? ⟨f.g, f.k * 4, none⟩ = some (.int .i64 f.ts[f.k].kind) := y0
      have yna : (wr.drewN nq).cell? ⟨f.g, f.k * 4 + 2, none⟩ = some (.int .i64 f.ts[f.k].num) := yn
      have yma : (wr.drewN nq).cell? ⟨f.g, f.k * 4 + 1, none⟩ = some (.string f.ts[f.k].name) := ym
      have y2a : (wr.drewN nq).cell? ⟨f.g, f.k * 4 + 3, none⟩ = some (.slice A' f.ts[f.k].args.length ac') := y2
      clear e0 e1 HI hW hql hwz hcz y0 yn ym y2
      generalize wr.drewN nq = wa at *
      go_upto_region 10 with fail
      refine wp_region_still_tail 11 (by kernel_rfl) (by kernel_rfl) ?_
      simp only [List.take_succ_cons, List.take_zero, List.drop_succ_cons, List.drop_zero]
      repeat still_step
      refine wpStill_nil ?_
      change wpList _ _ _ _ _ wa.drew
      have HIb := Lib.hid (HIa.out.below HIa.out.call.size ⟨rfl, rfl, rfl, Nat.le_refl _, fun _ _ => rfl⟩ : Inv w1 (w.heap.size + 4) (w.heap.size + 2) [t] w wa.drew _ f r F ret)
      have hWb : Whole1 wa.drew q 186 cur := hWa
      have hqlb : q < wa.drew.heap.size := hqla
      clear HIa hWa hqla e0a e1a y0a yna yma y2a
      generalize wa.drew = wb at *
      go_wp2_with fail
      refine (argsOf_any _ _ _ _ wb).mono ?_
      rintro e w5 ⟨rfl, hb5⟩
      have HI5 := Lib.hid (HIb.out.below HIb.out.call.size hb5)
      have hW5 := hWb.below hb5 hqlb
      have hql5 := hW5.lt
      clear HIb hWb hqlb hb5
      go_wp2_with fail
      refine (HPL.out w5).mono ?_
      rintro e w6 ⟨rfl, hb6⟩
      have hI6 := HI5.out.below HI5.out.call.size hb6
      have hW6 := hW5.below hb6 hql5
      have hql6 := hW6.lt
      have hlook := hI6.known.look (plKit w1 (w.heap.size + 4) (w.heap.size + 2)) Tryd.underlying181 (zeroExtent w6) hI6.keep HOK.out
      have HI6 := Lib.hid hI6
      clear HI5 hW5 hql5 hb6 hI6
      cases hF : F key with
      | some u =>
        have hu := HRI.out u hF
        subst hu
        rw [hF] at hlook
        have hl2 : (Instr.lookup 181 (.map (some (w.heap.size + 2))) (plVal key) true).run Tryd.prog w6 = .ok (.tuple #[.agg #[.int .i64 (sizeOts f.ts[f.k].args : Int), .int .i64 (depthOts f.ts[f.k].args : Int)], .bool true]) w6 := hlook
        clear hlook hF
        go_upto_region 13 with fail
        have hb7 := (Below.refl w6.heap.size w6).alloc (Nat.le_refl _) (.cells #[.int .i64 (sizeOts f.ts[f.k].args : Int), .int .i64 (depthOts f.ts[f.k].args : Int)] 69)
        have HI7 := Lib.hid (HI6.out.below HI6.out.call.size hb7)
        have hW7 := hW6.below hb7 hql6
        have hin := Whole1.new w6 69 #[.int .i64 (sizeOts f.ts[f.k].args : Int), .int .i64 (depthOts f.ts[f.k].args : Int)]
        clear hl2 HI6 hW6 hb7
        generalize w6.alloc (.cells #[.int .i64 (sizeOts f.ts[f.k].args : Int), .int .i64 (depthOts f.ts[f.k].args : Int)] 69) = w7 at *
        have i0 : w7.cell? ⟨w6.heap.size, 0, none⟩ = some (.int .i64 (sizeOts f.ts[f.k].args : Int)) := hin.cell 0
        have i1 : w7.cell? ⟨w6.heap.size, 1, none⟩ = some (.int .i64 (depthOts f.ts[f.k].args : Int)) := hin.cell 1
        refine wp_region_still_tail 4 (by kernel_rfl) (by kernel_rfl) ?_
        simp only [List.take_succ_cons, List.take_zero, List.drop_succ_cons, List.drop_zero]
        repeat still_step
        refine wpStill_nil ?_
        change wpList _ _ _ _ _ w7.drew
        have HI8 := Lib.hid (HI7.out.below HI7.out.call.size ⟨rfl, rfl, rfl, Nat.le_refl _, fun _ _ => rfl⟩ : Inv w1 (w.heap.size + 4) (w.heap.size + 2) [t] w w7.drew _ f r F ret)
        have hW8 : Whole1 w7.drew q 186 cur := hW7
        clear HI7 hW7 i0 i1 hin
        generalize w7.drew = w8 at *
        have HAD := Lib.hid (addNode_any w8 q (n * 4 + 2) _ cur _ _ (sizeOts f.ts[f.k].args) (depthOts f.ts[f.k].args) hW8 d2 d3 (by omega) (by omega))
        have HW8 := Lib.hid hW8
        have D0 := Lib.hid d0
        have D1 := Lib.hid d1
        have D2 := Lib.hid d2
        have D3 := Lib.hid d3
        clear hW8 d0 d1 d2 d3
        go_wp2_with fail
        refine HAD.out.mono ?_
        rintro e w9 ⟨rfl, hW9, hg9⟩
        have hs1' : n * 4 + 3 < cur.size := (Array.getElem?_eq_some_iff.1 D3.out).1
        have e1 : w9.cell? ⟨q, n * 4 + 1, none⟩ = some (.int .i64 (f.k : Int)) := (hW9.cell _).trans (by rw [Array.getElem?_setIfInBounds, if_neg (by omega), Array.getElem?_setIfInBounds, if_neg (by omega)]; exact D1.out)
        have f1 : w9.frozen? ⟨q, n * 4 + 1, none⟩ = false := hW9.free _
        have HW9 := Lib.hid (hW9.set (n * 4 + 1) (.int .i64 ((f.k + 1 : Nat) : Int)))
        have HG9 := Lib.hid (only_set hg9 (n * 4 + 1) (.int .i64 ((f.k + 1 : Nat) : Int)))
        clear hW9 hg9 HAD
        go_wp2
        have hn2 := HN.out
        subst hn2
        go_roundg (mu { f with k := f.k + 1 } r false)
        case measure => rw [← HMU.out]; exact mu_add f r ret hk
        case rel =>
          refine ⟨_, r, F, false, HI8.out.add hk (by omega) (by omega) HW8.out HW9.out HG9.out (by simp) (fun i hi => ?_) ?_ ?_ ?_, rfl⟩
          · rw [Array.getElem?_setIfInBounds, if_neg (by omega), Array.getElem?_setIfInBounds, if_neg (by omega), Array.getElem?_setIfInBounds, if_neg (by omega)]
          · rw [Array.getElem?_setIfInBounds, if_pos rfl, if_pos (by simp; omega)]
          · rw [Array.getElem?_setIfInBounds, if_neg (by omega), Array.getElem?_setIfInBounds, if_neg (by omega), Array.getElem?_setIfInBounds, if_pos rfl, if_pos (by omega), hst.out, HSE.out]
            congr 3
            omega
          · rw [Array.getElem?_setIfInBounds, if_neg (by omega), Array.getElem?_setIfInBounds, if_pos rfl, if_pos (by simp; omega), hdt.out, HDE.out]
      | none =>
        obtain ⟨hret, h0, g', rfl, rfl, hargs⟩ := HNW.out hF
        subst hret
        rw [hF] at hlook
        have hl2 : (Instr.lookup 181 (.map (some (w.heap.size + 2))) (plVal (some (g', f.ts[f.k].args.length))) true).run Tryd.prog w6 = .ok (.tuple #[.agg #[.int .i64 0, .int .i64 0], .bool false]) w6 := hlook
        have HARG := Lib.hid hargs
        have H0 := Lib.hid h0
        clear hlook hF hargs h0 HNW HRI
        go_upto_region 15 with fail
        have hb7 := (Below.refl w6.heap.size w6).alloc (Nat.le_refl _) (.cells #[.int .i64 0, .int .i64 0] 69)
        have HI7 := Lib.hid (HI6.out.below HI6.out.call.size hb7)
        clear hl2 HI6 hW6 hb7 d0 d1 d2 d3
        generalize w6.alloc (.cells #[.int .i64 0, .int .i64 0] 69) = w7 at *
        go_wp2_with fail
        refine (HPL.out w7).mono ?_
        rintro e w8 ⟨rfl, hb8⟩
        have hI8 := HI7.out.below HI7.out.call.size hb8
        obtain ⟨w9, hrun9, hkn9, ho9⟩ := hI8.known.store (plKit w1 (w.heap.size + 4) (w.heap.size + 2)) Tryd.underlying181 hI8.keep HOK.out (.agg #[.int .i64 9223372036854775807, .int .i64 9223372036854775807])
        have hqb : q < w8.heap.size := (hI8.own.lt q rfl).2
        have hmb8 := hI8.known.lt
        have hown9 := owns_keep4 hI8.own fun g hg => ho9.1.block g (hI8.own.lt g hg).2 (fun e => by have := (hI8.own.lt g hg).1; injection e with e; omega)
        have hown10 := hown9.alloc (.cells #[.slice (some ⟨g', 0, none⟩) f.ts[f.k].args.length ac', .int .i64 0, .int .i64 0, .int .i64 0] 186)
        rw [← HN.out] at hown10
        have HKN := Lib.hid hkn9
        have HO9 := Lib.hid ho9
        have HI8 := Lib.hid hI8
        have HS9 := Lib.hid ho9.2
        have hz8 := hI8.size
        have hc8 := hI8.call.size
        obtain ⟨i1, hi1, hy0, hy1, hy2⟩ := info_parts infoVisit
        clear HI7 hb8 hI8 hkn9 ho9 hown9
        go_wp2_with (at_builtin; refine wpList_append_cells _ rfl (.tmp 92) (.tmp 95) _ rfl (w.heap.size + 4) 186 i1 (.agg #[.slice none 0 0, .int .i64 0, .int .i64 0, .int .i64 0]) 4 48 Tryd.underlying187 hi1 hy0 hy1 hy2 rfl (by decide) _ (n + 1) _ rfl hown10 (some ⟨w9.heap.size, 0, none⟩) 1 1 [.slice (some ⟨g', 0, none⟩) f.ts[f.k].args.length ac', .int .i64 0, .int .i64 0, .int .i64 0] rfl rfl (news4 w9 _ _ _ _ _) (ones4 _ _ _ _) (by unfold maxLen; omega) (by omega) (by have := HS9.out; simp; omega) ?_; intro v11 w11 hown11 hg11)
        have HOWN := Lib.hid hown11
        have HG11 := Lib.hid hg11
        clear hown11 hg11 hown10 hrun9
        go_wp2
        go_roundg (mu ⟨g', ac', f.ts[f.k].args, 0⟩ (f :: r) false)
        case measure => rw [← HMU.out]; exact mu_push f r hk g' ac'
        case rel =>
          have hs9 := HS9.out
          have hblk : ∀ g, g < w8.heap.size → g ≠ q → w11.heap[g]? = w9.heap[g]? := fun g hg hne => (HG11.out.block g (by simp; omega) (fun e => hne (Option.some.inj e))).trans (Below.heap_alloc _ _ _ (by omega))
          have hcall9 : Below w.heap.size w w9 := HI8.out.call.grown HO9.out.1 hc8 (fun k hk => by cases hk; omega)
          have hcall : Below w.heap.size w w11 := (hcall9.alloc (by omega) _).grown HG11.out (by simp; omega) (fun k hk => by cases hk; show w.heap.size ≤ q; omega)
          refine ⟨_, f :: r, _, false, HI8.out.push hk g' ac' HC2.out HARG.out H0.out (HKN.out.keep (hblk _ hmb8 (by omega))) ?_ (fun g hg hne => ?_) hcall (by have := HG11.out.size; simp at this; omega), rfl⟩
          · have := HOWN.out
            rw [HN.out] at this
            exact this
          · exact (hblk g (by omega) (by omega)).trans ((HO9.out.1.block g (by omega) (fun e => hne (Option.some.inj e))).trans (HI8.out.keep g hg hne))

end Go.Proofs.YtlmbnefoobameaaDoor.O

namespace Go.Proofs.YtlmbnefoobameaaDoor.O
set_option maxRecDepth 100000
open Go.RowKit

/-- The value reads as the tree, in blocks that are there, each slice in one of its own. -/
def _root_.Go.Proofs.YtlmbnefoobameaaDoor.OwnO (w : World) (v : Value) (t : Ot) : Prop := ∃ S, OtIn w S v t ∧ ∀ b, S b → b < w.heap.size
theorem _root_.Go.Proofs.YtlmbnefoobameaaDoor.OwnO.up {w w' : World} {v : Value} {t : Ot} (h : OwnO w v t) (hb : Below w.heap.size w w') : OwnO w' v t := by
  obtain ⟨S, h1, h2⟩ := h
  exact ⟨S, h1.keep fun b hb' hbl => hb.block b hbl, fun b hb' => Nat.lt_of_lt_of_le (h2 b hb') hb.size⟩
theorem _root_.Go.Proofs.YtlmbnefoobameaaDoor.OwnO.here {w : World} {v : Value} {t : Ot} (h : OwnO w v t) : OtAt w w.heap.size v t := by
  obtain ⟨S, h1, h2⟩ := h
  exact h1.here
theorem _root_.Go.Proofs.YtlmbnefoobameaaDoor.OwnO.of {w : World} {v : Value} {t : Ot} {a : Nat} (h : OtIn w (Span a w.heap.size) v t) : OwnO w v t := ⟨_, h, fun _ hb => hb.2⟩

/-- The parts. -/
def _root_.Go.Proofs.YtlmbnefoobameaaDoor.OwnOs (w : World) (A : Option Addr) (ts : List Ot) : Prop := ∃ S, OtsIn w S A ts ∧ ∀ b, S b → b < w.heap.size
theorem _root_.Go.Proofs.YtlmbnefoobameaaDoor.OwnOs.up {w w' : World} {A : Option Addr} {ts : List Ot} (h : OwnOs w A ts) (hb : Below w.heap.size w w') : OwnOs w' A ts := by
  obtain ⟨S, h1, h2⟩ := h
  exact ⟨S, h1.keep fun b hb' hbl => hb.block b hbl, fun b hb' => Nat.lt_of_lt_of_le (h2 b hb') hb.size⟩
theorem _root_.Go.Proofs.YtlmbnefoobameaaDoor.OwnOs.here {w : World} {A : Option Addr} {ts : List Ot} (h : OwnOs w A ts) : OtsAt w w.heap.size A ts := by
  obtain ⟨S, h1, h2⟩ := h
  exact h1.here
theorem _root_.Go.Proofs.YtlmbnefoobameaaDoor.OwnO.open {w : World} {v : Value} {t : Ot} (h : OwnO w v t) : ∃ A ac, v = .agg #[.int .i64 t.kind, .string t.name, .int .i64 t.num, .slice A t.args.length ac] ∧ t.name.size ≤ maxLen ∧ OwnOs w A t.args := by
  obtain ⟨S, h1, h2⟩ := h
  obtain ⟨A, ac, hv, hnm, ha⟩ := h1.open
  exact ⟨A, ac, hv, hnm, S, ha, h2⟩

/-- Part i: its cells, and that it lies in blocks of its own. -/
theorem _root_.Go.Proofs.YtlmbnefoobameaaDoor.OwnOs.elem {w : World} {A : Option Addr} {ts : List Ot} (h : OwnOs w A ts) (i : Nat) (hi : i < ts.length) : ∃ g A' ac, A = some ⟨g, 0, none⟩ ∧ g < w.heap.size ∧ w.cell? ⟨g, i * 4, none⟩ = some (.int .i64 ts[i].kind) ∧ w.cell? ⟨g, i * 4 + 2, none⟩ = some (.int .i64 ts[i].num) ∧ w.cell? ⟨g, i * 4 + 1, none⟩ = some (.string ts[i].name) ∧     w.cell? ⟨g, i * 4 + 3, none⟩ = some (.slice A' ts[i].args.length ac) ∧ OwnO w (.agg #[.int .i64 ts[i].kind, .string ts[i].name, .int .i64 ts[i].num, .slice A' ts[i].args.length ac]) ts[i] := by
  obtain ⟨S, ⟨hm, ga, vs, Ss, h1, h2, h3, h4⟩, hS⟩ := h
  rcases h1 with rfl | ⟨rfl, h5, h6⟩
  · exact absurd hi (by simp)
  · obtain ⟨A', ac, hv, _⟩ := (h4 i hi).open
    have c0 := h6.cell i 0 hi (by omega)
    have c1 := h6.cell i 1 hi (by omega)
    have c2 := h6.cell i 2 hi (by omega)
    have c3 := h6.cell i 3 hi (by omega)
    have ht := h4 i hi
    rw [hv] at c0 c1 c2 c3 ht
    exact ⟨ga, A', ac, rfl, h6.lt, c0, c2, c1, c3, _, ht, fun b hb => hS b (h2 i hi b hb).1⟩

theorem implSizeO_any (t : Ot) (v : Value) (w : World) (hv : OwnO w v t) (hsz : sizeOt t ≤ 2000000) : Calls Tryd.prog 99 #[v] w (IntBelow (sizeOt t) w) := by
  obtain ⟨A, ac, rfl, _⟩ := hv.open
  obtain ⟨hb0, p0, hs0⟩ := boxes1 w 50 #[.int .i64 t.kind, .string t.name, .int .i64 t.num, .slice A t.args.length ac]
  have hv0 := hv.up hb0
  go_enter Tryd.func99, Tryd.ntmps99
  go_wp2_with fail
  have hfd := ext_field0
  obtain ⟨S, h1, h2⟩ := hv0
  refine (extentOf_any t _ S _ h1 h2 hsz).mono ?_
  rintro e w1 ⟨rfl, hb1⟩
  go_wp2
  go_ret
  exact ⟨rfl, hb0.trans (hb1.mono hb0.size)⟩

end Go.Proofs.YtlmbnefoobameaaDoor.O
end

section
namespace Go.Proofs.YtlmbnefoobameaaDoor
open Go.RowKit

/-- The value v owns a row of k elements, the aggregates vs, whose cells are xs; each reads as its tree, in blocks of its own. -/
structure OGatherAt (w : World) (base : Nat) (v : Value) (k : Nat) (ts : List Ot) (xs : List Value) (vs : Nat → Value) (lo hi : Nat → Nat) : Prop where
  own : w.ownsRow base 50 4 v k xs
  cells : ∀ i, i < k → ∀ j, j < 4 → (partAt (vs i) j).isSome = true ∧ xs[i * 4 + j]? = partAt (vs i) j
  low : ∀ i, i < k → base ≤ lo i ∧ hi i ≤ w.heap.size
  apart : ∀ i j, i < j → j < k → hi i ≤ lo j
  free : ∀ i, i < k → ∀ g, v.ownBlock = some g → ¬ Span (lo i) (hi i) g
  kids : ∀ i, (h : i < ts.length) → i < k → OtIn w (Span (lo i) (hi i)) (vs i) ts[i]
def OGather (w : World) (base : Nat) (v : Value) (k : Nat) (ts : List Ot) : Prop := ∃ xs vs lo hi, OGatherAt w base v k ts xs vs lo hi

theorem OGather.start (w : World) (base : Nat) (ts : List Ot) : OGather w base (.slice none 0 0) 0 ts :=
  ⟨[], fun _ => .bool false, fun _ => 0, fun _ => 0, World.ownsRow_nil w base _ 4, fun _ h => absurd h (Nat.not_lt_zero _), fun _ h => absurd h (Nat.not_lt_zero _), fun _ _ _ h => absurd h (Nat.not_lt_zero _), fun _ h => absurd h (Nat.not_lt_zero _), fun _ _ h => absurd h (Nat.not_lt_zero _)⟩

theorem own_keep4o {w w' : World} {base k : Nat} {e : TypeId} {v : Value} {xs : List Value} (h : w.ownsRow base e 4 v k xs) (hk : ∀ g, v.ownBlock = some g → w'.heap[g]? = w.heap[g]?) : w'.ownsRow base e 4 v k xs := by
  refine ⟨h.1, ?_⟩
  rcases h.2 with h2 | ⟨g, cap, cur, h1, h2, h3, h4⟩
  · exact .inl h2
  · exact .inr ⟨g, cap, cur, h1, h2, (hk g (by rw [h1]; rfl)).trans h3, h4⟩

/-- Where the blocks from base on stand, but for one outside, all stands. -/
theorem OGatherAt.keep {w w' : World} {base k : Nat} {v : Value} {ts : List Ot} {xs : List Value} {vs : Nat → Value} {lo hi : Nat → Nat} (h : OGatherAt w base v k ts xs vs lo hi) (hs : w.heap.size ≤ w'.heap.size) (hk : ∀ g, base ≤ g → g < w.heap.size → w'.heap[g]? = w.heap[g]?) : OGatherAt w' base v k ts xs vs lo hi :=
  ⟨own_keep4o h.own fun g hg => hk g (h.own.lt g hg).1 (h.own.lt g hg).2, h.cells, fun i hi' => ⟨(h.low i hi').1, Nat.le_trans (h.low i hi').2 hs⟩, h.apart, h.free,
    fun i hi' hik => (h.kids i hi' hik).keep fun b hb hbl => hk b (Nat.le_trans (h.low i hik).1 hb.1) hbl⟩
theorem OGather.keep {w w' : World} {base k : Nat} {v : Value} {ts : List Ot} (h : OGather w base v k ts) (hs : w.heap.size ≤ w'.heap.size) (hk : ∀ g, base ≤ g → g < w.heap.size → w'.heap[g]? = w.heap[g]?) : OGather w' base v k ts := by
  obtain ⟨xs, vs, lo, hi, h⟩ := h
  exact ⟨xs, vs, lo, hi, h.keep hs hk⟩
theorem OGather.below {w w' : World} {base k : Nat} {v : Value} {ts : List Ot} (h : OGather w base v k ts) (hb : Below w.heap.size w w') : OGather w' base v k ts := h.keep hb.size fun g _ hg => hb.block g hg
theorem OGather.set {w : World} {base k p o : Nat} {v u : Value} {ts : List Ot} (h : OGather w base v k ts) (hp : p < base) : OGather (w.setCell ⟨p, o, none⟩ u) base v k ts :=
  h.keep (by simp [World.setCell]) fun g hg _ => Below.heap_setCell _ _ _ _ (by show g ≠ p; omega)

/-- One more tree is appended. -/
theorem OGatherAt.step {w w1 w3 : World} {base k g cap : Nat} {v a b c d : Value} {ts : List Ot} {xs : List Value} {vs : Nat → Value} {lo hi : Nat → Nat} (h : OGatherAt w base v k ts xs vs lo hi) (hb : Below w.heap.size w w1) (hbase : base ≤ w.heap.size) (hk : k < ts.length)
    (ht : OtIn w1 (Span w.heap.size w1.heap.size) (.agg #[a, b, c, d]) ts[k]) (hown : w3.ownsRow base 50 4 (.slice (some ⟨g, 0, none⟩) (k + 1) cap) (k + 1) (xs ++ [a, b, c, d]))
    (hg : (w1.alloc (.cells #[a, b, c, d] 50)).grownBy w3 v.ownBlock) (hat : v.ownBlock = some g ∨ g = w1.heap.size + 1) : OGather w3 base (.slice (some ⟨g, 0, none⟩) (k + 1) cap) (k + 1) ts := by
  have hs1 := hb.size
  have hs3 : w1.heap.size + 1 ≤ w3.heap.size := by have := hg.size; simp at this; exact this
  have hxl : xs.length = k * 4 := h.own.1
  have hkeep : ∀ q, q < w1.heap.size → v.ownBlock ≠ some q → w3.heap[q]? = w1.heap[q]? := fun q hq hne =>
    (hg.block q (by simp; omega) (fun e => hne e.symm)).trans (Below.heap_alloc _ _ _ hq)
  refine ⟨xs ++ [a, b, c, d], fun i => if i = k then .agg #[a, b, c, d] else vs i, fun i => if i = k then w.heap.size else lo i, fun i => if i = k then w1.heap.size else hi i, hown, fun i hi' j hj => ?_, fun i hi' => ?_, fun i j hij hj => ?_, fun i hi' q hq => ?_, fun i hi' hik => ?_⟩
  · by_cases ek : i = k
    · subst ek
      rw [if_pos rfl, List.getElem?_append_right (by omega), hxl]
      have : j = 0 ∨ j = 1 ∨ j = 2 ∨ j = 3 := by omega
      rcases this with rfl | rfl | rfl | rfl
      · simp [partAt]
      · simp [partAt]
      · simp [partAt]
      · simp [partAt]
    · rw [if_neg ek, List.getElem?_append_left (by omega)]
      exact h.cells i (by omega) j hj
  · by_cases ek : i = k
    · rw [if_pos ek, if_pos ek]
      omega
    · rw [if_neg ek, if_neg ek]
      have := h.low i (by omega)
      omega
  · rw [if_neg (show i ≠ k by omega)]
    by_cases ek : j = k
    · rw [if_pos ek]
      exact (h.low i (by omega)).2
    · rw [if_neg ek]
      exact h.apart i j hij (by omega)
  · have hqg : q = g := (Option.some.inj hq).symm
    subst hqg
    by_cases ek : i = k
    · rw [if_pos ek, if_pos ek]
      intro hs
      have a1 := hs.1
      have a2 := hs.2
      rcases hat with hat | hat
      · have := (h.own.lt q hat).2
        omega
      · omega
    · rw [if_neg ek, if_neg ek]
      rcases hat with hat | hat
      · exact h.free i (by omega) q hat
      · intro hs
        have := hs.2
        have := (h.low i (by omega)).2
        omega
  · by_cases ek : i = k
    · subst ek
      rw [if_pos rfl, if_pos rfl, if_pos rfl]
      refine ht.keep fun q hq _ => hkeep q hq.2 fun hv => ?_
      have := (h.own.lt q hv).2
      have := hq.1
      omega
    · rw [if_neg ek, if_neg ek, if_neg ek]
      refine (h.kids i hi' (by omega)).keep fun q hq hql => ?_
      rw [hkeep q (by omega) fun hv => h.free i (by omega) q hv hq]
      exact hb.block q hql

theorem OGather.done {w : World} {base c : Nat} {A : Option Addr} {ts : List Ot} (h : OGather w base (.slice A ts.length c) ts.length ts) (hm : ts.length ≤ maxLen) : OtsIn w (Span base w.heap.size) A ts := by
  obtain ⟨xs, vs, lo, hi, h⟩ := h
  have hdis : ∀ i j, i < ts.length → j < ts.length → i ≠ j → ∀ b, Span (lo i) (hi i) b → ¬ Span (lo j) (hi j) b := fun i j hi' hj hne b hb hb' => by
    have := hb.1
    have := hb.2
    have := hb'.1
    have := hb'.2
    rcases Nat.lt_or_gt_of_ne hne with hlt | hlt
    · have := h.apart i j hlt hj
      omega
    · have := h.apart j i hlt hi'
      omega
  rcases h.own.2 with ⟨_, h2⟩ | ⟨g, cap, cur, h1, h2, h3, h4, h5, h6, h7⟩
  · have : ts = [] := List.length_eq_zero_iff.1 h2
    subst this
    exact ⟨hm, 0, vs, fun _ _ => False, .inl rfl, fun i hi => absurd hi (by simp), fun i _ hi => absurd hi (by simp), fun i hi => absurd hi (by simp)⟩
  · injection h1 with h1 _ _
    subst h1
    have hgl := (h.own.lt g rfl).2
    refine ⟨hm, g, vs, fun i => Span (lo i) (hi i), .inr ⟨rfl, ⟨h2, hgl⟩, cur, h3, fun i hi' j hj => ?_⟩, fun i hi' b hb => ⟨⟨?_, ?_⟩, fun e => h.free i hi' g rfl (by rw [← e]; exact hb)⟩, hdis, fun i hi' => h.kids i hi' hi'⟩
    · have hc := h.cells i hi' j hj
      refine ⟨hc.1, ?_⟩
      rw [← hc.2, ← h7, List.getElem?_take, if_pos (by omega)]
      simp
    · have := (h.low i hi').1
      have := hb.1
      omega
    · have := (h.low i hi').2
      have := hb.2
      omega


end Go.Proofs.YtlmbnefoobameaaDoor
end

section
namespace Go.Proofs.YtlmbnefoobameaaDoor
open Go.RowKit

mutual
/-- How many marks a tree bears. -/
def cntTy : Ty → Nat | .mk _ ls ts => ls.length + cntTys ts
def cntTys : List Ty → Nat | [] => 0 | t :: r => 1 + cntTy t + cntTys r
end
def setKind (k : Nat) : Ty → Ty | .mk _ ls ts => .mk k ls ts
mutual
/-- The tree with marks from k on; its own kind stands. -/
def markTy : Ty → Nat → Ty | .mk d ls ts, k => .mk d (marks k ls.length) (markTys ts (k + ls.length))
def markTys : List Ty → Nat → List Ty | [], _ => [] | t :: r, k => setKind k (markTy t (k + 1)) :: markTys r (k + 1 + cntTy t)
end
theorem cntTy_eq (t : Ty) : cntTy t = t.labels.length + cntTys t.args := by cases t; rw [cntTy]; rfl
theorem cntTys_append : ∀ (a b : List Ty), cntTys (a ++ b) = cntTys a + cntTys b
  | [], b => by simp [cntTys]
  | t :: a, b => by
    rw [List.cons_append, cntTys, cntTys, cntTys_append a b]
    omega
theorem cntTys_take (ts : List Ty) (k : Nat) (h : k < ts.length) : cntTys (ts.take (k + 1)) = cntTys (ts.take k) + 1 + cntTy ts[k] := by
  rw [List.take_succ_eq_append_getElem h, cntTys_append, cntTys, cntTys]
  omega
theorem cntTys_le (ts : List Ty) (k : Nat) : cntTys (ts.take k) ≤ cntTys ts := by
  have h := cntTys_append (ts.take k) (ts.drop k)
  rw [List.take_append_drop] at h
  omega
theorem markTys_len : ∀ (ts : List Ty) (k : Nat), (markTys ts k).length = ts.length
  | [], _ => by rw [markTys]
  | t :: r, k => by rw [markTys, List.length_cons, List.length_cons, markTys_len r]
theorem markTys_get : ∀ (ts : List Ty) (k i : Nat) (h : i < ts.length), (markTys ts k)[i]? = some (setKind (k + cntTys (ts.take i)) (markTy ts[i] (k + cntTys (ts.take i) + 1)))
  | [], _, i, h => absurd h (by simp)
  | t :: r, k, 0, _ => by rw [markTys]; simp [cntTys]
  | t :: r, k, i + 1, h => by
    rw [markTys, List.getElem?_cons_succ, markTys_get r _ i (by simpa using h)]
    simp only [List.take_succ_cons, cntTys, List.getElem_cons_succ]
    rw [show k + 1 + cntTy t + cntTys (r.take i) = k + (1 + cntTy t + cntTys (r.take i)) by omega]
mutual
theorem cnt_le_sz : ∀ (t : Ty), cntTy t ≤ szTy t
  | .mk _ ls ts => by
    rw [cntTy, szTy]
    have := cnts_le_szs ts
    omega
theorem cnts_le_szs : ∀ (ts : List Ty), cntTys ts ≤ szTys ts
  | [] => Nat.le_refl _
  | t :: r => by
    rw [cntTys, szTys]
    have := cnt_le_sz t
    have := cnts_le_szs r
    omega
end

/-- Of what was there only blocks in S have turned. -/
structure OnlyIn (S : Nat → Prop) (w w' : World) : Prop where
  os : w'.os = w.os
  tape : w'.tape = w.tape
  output : w'.output = w.output
  size : w.heap.size ≤ w'.heap.size
  block : ∀ b, b < w.heap.size → ¬ S b → w'.heap[b]? = w.heap[b]?
theorem OnlyIn.refl (S : Nat → Prop) (w : World) : OnlyIn S w w := ⟨rfl, rfl, rfl, Nat.le_refl _, fun _ _ _ => rfl⟩
theorem OnlyIn.trans {S : Nat → Prop} {a b c : World} (h : OnlyIn S a b) (k : OnlyIn S b c) : OnlyIn S a c :=
  ⟨k.os.trans h.os, k.tape.trans h.tape, k.output.trans h.output, Nat.le_trans h.size k.size, fun i hi hn => (k.block i (Nat.lt_of_lt_of_le hi h.size) hn).trans (h.block i hi hn)⟩
theorem OnlyIn.wide {S S' : Nat → Prop} {a b : World} (h : OnlyIn S a b) (hS : ∀ q, S q → S' q) : OnlyIn S' a b := ⟨h.os, h.tape, h.output, h.size, fun i hi hn => h.block i hi fun q => hn (hS _ q)⟩
theorem OnlyIn.of_row {a b : World} {g : Nat} (h : a.grownBy b (some g)) : OnlyIn (· = g) a b := ⟨h.os, h.tape, h.output, h.size, fun i hi hn => h.block i hi fun e => hn (Option.some.inj e)⟩
theorem OnlyIn.of_below {S : Nat → Prop} {a b : World} (h : Below a.heap.size a b) : OnlyIn S a b := ⟨h.os, h.tape, h.output, h.size, fun i hi _ => h.block i hi⟩
theorem OnlyIn.set {S : Nat → Prop} {a b : World} (h : OnlyIn S a b) {g : Nat} (hg : S g) (i : Nat) (v : Value) : OnlyIn S a (b.setCell ⟨g, i, none⟩ v) :=
  ⟨h.os, h.tape, h.output, by simpa [World.setCell] using h.size, fun k hk hn => (Below.heap_setCell b ⟨g, i, none⟩ v k (fun e => hn (by rw [e]; exact hg))).trans (h.block k hk hn)⟩
theorem OnlyIn.below {S : Nat → Prop} {B : Nat} {a b c : World} (h : Below B a b) (k : OnlyIn S b c) (hB : B ≤ b.heap.size) (hS : ∀ q, S q → B ≤ q) : Below B a c :=
  h.trans ⟨k.os, k.tape, k.output, k.size, fun i hi => k.block i (by omega) fun q => by have := hS i q; omega⟩

/-- Labels are marked. -/
def MarkedLs (w : World) (g k : Nat) (ls : List ByteArray) (e : Ending) (w' : World) : Prop :=
  e = .returned (.int .i64 ((k + ls.length : Nat) : Int)) ∧ (ls = [] ∨ RowStrs w' g (marks k ls.length)) ∧ OnlyIn (fun b => b = g ∧ ls ≠ []) w w'

theorem markIn {w : World} {S Sa : Nat → Prop} {L A : Option Addr} {lc ac gl : Nat} {t : Ty} (q : Nat) (hn : t.labels.length ≤ maxLen) (hq : q + t.labels.length ≤ 2 ^ 62)
    (hl : t.labels = [] ∨ L = some ⟨gl, 0, none⟩ ∧ S gl ∧ RowStrs w gl (marks q t.labels.length)) (ha : TysIn w Sa A (markTys t.args (q + t.labels.length))) (hs : ∀ b, Sa b → S b ∧ b ≠ gl) :
    TyIn w S (.agg #[.int .i64 t.kind, .slice L t.labels.length lc, .slice A t.args.length ac]) (markTy t q) := by
  cases t with
  | mk k ls ts =>
    simp only [Ty.labels, Ty.args, Ty.kind] at *
    rw [markTy]
    have hll := marks_len q ls.length
    have hal := markTys_len ts (q + ls.length)
    have h := TyIn.of (w := w) (S := S) (Sa := Sa) (L := L) (A := A) (lc := lc) (ac := ac) (gl := gl) (t := .mk k (marks q ls.length) (markTys ts (q + ls.length))) (by simp only [Ty.labels]; rw [hll]; exact hn)
      (fun x hx => by
        simp only [Ty.labels] at hx ⊢
        rw [hll] at hx
        have h62 := markB_size (q + x) (by omega)
        have e : (marks q ls.length)[x]'(by rw [hll]; exact hx) = markB (q + x) := by simp [marks]
        rw [e]
        unfold maxLen
        omega)
      (by
        simp only [Ty.labels]
        rcases hl with h | h
        · left
          rw [h]
          rfl
        · exact .inr h)
      ha hs
    simp only [Ty.labels, Ty.args, Ty.kind] at h
    rw [hll, hal] at h
    exact h

/-- A list of trees is marked. -/
def MarkedTys (w : World) (S : Nat → Prop) (A : Option Addr) (k : Nat) (ts : List Ty) (e : Ending) (w' : World) : Prop :=
  e = .returned (.int .i64 ((k + cntTys ts : Nat) : Int)) ∧ TysIn w' S A (markTys ts k) ∧ OnlyIn S w w'

/-- The first j elements are marked. -/
def Marking (w : World) (ga : Nat) (Ss : Nat → Nat → Prop) (ts : List Ty) (k j : Nat) : Prop :=
  ∃ vs : Nat → Value, ElemRow 3 30 w ga ts.length vs ∧ (∀ i, (hi : i < ts.length) → i < j → TyIn w (Ss i) (vs i) (setKind (k + cntTys (ts.take i)) (markTy ts[i] (k + cntTys (ts.take i) + 1)))) ∧ (∀ i, (hi : i < ts.length) → j ≤ i → TyIn w (Ss i) (vs i) ts[i])

theorem Marking.done {w : World} {S : Nat → Prop} {ga k : Nat} {Ss : Nat → Nat → Prop} {ts : List Ty} (h : Marking w ga Ss ts k ts.length) (hm : ts.length ≤ maxLen) (hS : S ga) (h2 : ∀ i, i < ts.length → ∀ b, Ss i b → S b ∧ b ≠ ga) (h3 : ∀ i j, i < ts.length → j < ts.length → i ≠ j → ∀ b, Ss i b → ¬ Ss j b) :
    TysIn w S (some ⟨ga, 0, none⟩) (markTys ts k) := by
  obtain ⟨vs, h4, h5, _⟩ := h
  have hl := markTys_len ts k
  refine ⟨by rw [hl]; exact hm, ga, vs, Ss, .inr ⟨rfl, hS, by rw [hl]; exact h4⟩, by rw [hl]; exact h2, by rw [hl]; exact h3, fun i hi => ?_⟩
  have hi' : i < ts.length := by omega
  have hg := markTys_get ts k i hi'
  rw [List.getElem?_eq_getElem hi] at hg
  rw [Option.some.inj hg]
  exact h5 i hi' hi'

theorem TyIn.setKind {w : World} {S : Nat → Prop} {L A : Option Addr} {lc ac : Nat} {k0 : Int} {n m : Nat} {t : Ty} (h : TyIn w S (.agg #[.int .i64 k0, .slice L n lc, .slice A m ac]) t) (k : Nat) : TyIn w S (.agg #[.int .i64 k, .slice L n lc, .slice A m ac]) (setKind k t) := by
  cases h with
  | mk gl ga vs Ss hn hz hm hls hes hne hsub hdis hks => exact .mk gl ga vs Ss hn hz hm hls hes hne hsub hdis hks

theorem ElemRow.set {t : TypeId} {w : World} {g m : Nat} {vs : Nat → Value} {a b c x : Value} {i : Nat} (h : ElemRow 3 t w g m vs) (hi : i < m) (hv : vs i = .agg #[a, b, c]) : ElemRow 3 t (w.setCell ⟨g, i * 3, none⟩ x) g m (fun j => if j = i then .agg #[x, b, c] else vs j) := by
  obtain ⟨cs, h1, h2⟩ := h
  have hsz : i * 3 < cs.size := by
    have := (h2 i hi 0 (by omega)).2
    rw [hv] at this
    exact (Array.getElem?_eq_some_iff.1 this).1
  refine ⟨_, h1.set (i * 3) x, fun q hq j hj => ?_⟩
  dsimp only
  by_cases e : q = i
  · subst e
    rw [if_pos rfl, Array.getElem?_setIfInBounds]
    have h3 := h2 q hi j hj
    rw [hv] at h3
    have : j = 0 ∨ j = 1 ∨ j = 2 := by omega
    rcases this with rfl | rfl | rfl
    · simp [partAt, hsz]
    · refine ⟨rfl, ?_⟩
      rw [if_neg (by omega)]
      exact h3.2
    · refine ⟨rfl, ?_⟩
      rw [if_neg (by omega)]
      exact h3.2
  · rw [if_neg e, Array.getElem?_setIfInBounds, if_neg (by omega)]
    exact h2 q hq j hj

end Go.Proofs.YtlmbnefoobameaaDoor
end

section
namespace Go.Proofs.YtlmbnefoobameaaDoor
open Go.RowKit

mutual
/-- How many marks a tree bears. -/
def cntOt : Ot → Nat | .mk _ _ _ ts => cntOts ts
def cntOts : List Ot → Nat | [] => 0 | t :: r => 3 + cntOt t + cntOts r
end
def setHeadO (k : Nat) : Ot → Ot | .mk _ _ _ ts => .mk k (k + 2 : Nat) (markB (k + 1)) ts
mutual
/-- The tree with marks from k on; its own root stands. -/
def markOt : Ot → Nat → Ot | .mk d n nm ts, k => .mk d n nm (markOts ts k)
def markOts : List Ot → Nat → List Ot | [], _ => [] | t :: r, k => setHeadO k (markOt t (k + 3)) :: markOts r (k + 3 + cntOt t)
end
theorem cntOt_eq (t : Ot) : cntOt t = cntOts t.args := by cases t; rw [cntOt]; rfl
theorem cntOts_append : ∀ (a b : List Ot), cntOts (a ++ b) = cntOts a + cntOts b
  | [], b => by simp [cntOts]
  | t :: a, b => by
    rw [List.cons_append, cntOts, cntOts, cntOts_append a b]
    omega
theorem cntOts_take (ts : List Ot) (k : Nat) (h : k < ts.length) : cntOts (ts.take (k + 1)) = cntOts (ts.take k) + 3 + cntOt ts[k] := by
  rw [List.take_succ_eq_append_getElem h, cntOts_append, cntOts, cntOts]
  omega
theorem cntOts_le (ts : List Ot) (k : Nat) : cntOts (ts.take k) ≤ cntOts ts := by
  have h := cntOts_append (ts.take k) (ts.drop k)
  rw [List.take_append_drop] at h
  omega
theorem markOts_len : ∀ (ts : List Ot) (k : Nat), (markOts ts k).length = ts.length
  | [], _ => by rw [markOts]
  | t :: r, k => by rw [markOts, List.length_cons, List.length_cons, markOts_len r]
theorem markOts_get : ∀ (ts : List Ot) (k i : Nat) (h : i < ts.length), (markOts ts k)[i]? = some (setHeadO (k + cntOts (ts.take i)) (markOt ts[i] (k + cntOts (ts.take i) + 3)))
  | [], _, i, h => absurd h (by simp)
  | t :: r, k, 0, _ => by rw [markOts]; simp [cntOts]
  | t :: r, k, i + 1, h => by
    rw [markOts, List.getElem?_cons_succ, markOts_get r _ i (by simpa using h)]
    simp only [List.take_succ_cons, cntOts, List.getElem_cons_succ]
    rw [show k + 3 + cntOt t + cntOts (r.take i) = k + (3 + cntOt t + cntOts (r.take i)) by omega]
mutual
theorem cnt_le_szO : ∀ (t : Ot), cntOt t ≤ 3 * szOt t
  | .mk _ _ _ ts => by
    rw [cntOt, szOt]
    have := cnts_le_szOs ts
    omega
theorem cnts_le_szOs : ∀ (ts : List Ot), cntOts ts ≤ 3 * szOts ts
  | [] => by simp [cntOts]
  | t :: r => by
    rw [cntOts, szOts]
    have := cnt_le_szO t
    have := cnts_le_szOs r
    omega
end

theorem markOIn {w : World} {S : Nat → Prop} {A : Option Addr} {ac : Nat} {t : Ot} (q : Nat) (hnm : t.name.size ≤ maxLen) (ha : OtsIn w S A (markOts t.args q)) :
    OtIn w S (.agg #[.int .i64 t.kind, .string t.name, .int .i64 t.num, .slice A t.args.length ac]) (markOt t q) := by
  cases t with
  | mk k n nm ts =>
    simp only [Ot.args, Ot.kind, Ot.num, Ot.name] at *
    rw [markOt]
    have hal := markOts_len ts q
    have h := OtIn.of (w := w) (S := S) (Sa := S) (A := A) (ac := ac) (t := .mk k n nm (markOts ts q)) hnm ha (fun b hb => hb)
    simp only [Ot.args, Ot.kind, Ot.num, Ot.name] at h
    rw [hal] at h
    exact h

/-- A list of trees is marked. -/
def MarkedOts (w : World) (S : Nat → Prop) (A : Option Addr) (k : Nat) (ts : List Ot) (e : Ending) (w' : World) : Prop :=
  e = .returned (.int .i64 ((k + cntOts ts : Nat) : Int)) ∧ OtsIn w' S A (markOts ts k) ∧ OnlyIn S w w'

def MarkOMany (ts : List Ot) : Prop := ∀ (S : Nat → Prop) (A : Option Addr) (c k : Nat) (w : World), OtsIn w S A ts → 0 < k → k + cntOts ts ≤ 2 ^ 62 → Calls Tryd.prog 65 #[.slice A ts.length c, .int .i64 k] w (MarkedOts w S A k ts)

/-- The first j elements are marked. -/
def OMarking (w : World) (ga : Nat) (Ss : Nat → Nat → Prop) (ts : List Ot) (k j : Nat) : Prop :=
  ∃ vs : Nat → Value, ElemRow 4 50 w ga ts.length vs ∧ (∀ i, (hi : i < ts.length) → i < j → OtIn w (Ss i) (vs i) (setHeadO (k + cntOts (ts.take i)) (markOt ts[i] (k + cntOts (ts.take i) + 3)))) ∧ (∀ i, (hi : i < ts.length) → j ≤ i → OtIn w (Ss i) (vs i) ts[i])

theorem OMarking.done {w : World} {S : Nat → Prop} {ga k : Nat} {Ss : Nat → Nat → Prop} {ts : List Ot} (h : OMarking w ga Ss ts k ts.length) (hm : ts.length ≤ maxLen) (hS : S ga) (h2 : ∀ i, i < ts.length → ∀ b, Ss i b → S b ∧ b ≠ ga) (h3 : ∀ i j, i < ts.length → j < ts.length → i ≠ j → ∀ b, Ss i b → ¬ Ss j b) :
    OtsIn w S (some ⟨ga, 0, none⟩) (markOts ts k) := by
  obtain ⟨vs, h4, h5, _⟩ := h
  have hl := markOts_len ts k
  refine ⟨by rw [hl]; exact hm, ga, vs, Ss, .inr ⟨rfl, hS, by rw [hl]; exact h4⟩, by rw [hl]; exact h2, by rw [hl]; exact h3, fun i hi => ?_⟩
  have hi' : i < ts.length := by omega
  have hg := markOts_get ts k i hi'
  rw [List.getElem?_eq_getElem hi] at hg
  rw [Option.some.inj hg]
  exact h5 i hi' hi'

theorem OtIn.setHeadO {w : World} {S : Nat → Prop} {A : Option Addr} {ac : Nat} {k0 n0 : Int} {nm0 : ByteArray} {m : Nat} {t : Ot} (h : OtIn w S (.agg #[.int .i64 k0, .string nm0, .int .i64 n0, .slice A m ac]) t) (k : Nat) (hk : k + 2 ≤ 2 ^ 62) : OtIn w S (.agg #[.int .i64 k, .string (markB (k + 1)), .int .i64 ((k + 2 : Nat) : Int), .slice A m ac]) (setHeadO k t) := by
  have h62 := markB_size (k + 1) (by omega)
  cases h with
  | mk ga vs Ss hnm hm hes hsub hdis hks => exact .mk ga vs Ss (by unfold maxLen; omega) hm hes hsub hdis hks

theorem ElemRow.congrO {sz : Nat} {t : TypeId} {w : World} {g m : Nat} {vs vs' : Nat → Value} (h : ElemRow sz t w g m vs) (he : ∀ i, vs i = vs' i) : ElemRow sz t w g m vs' := by
  have : vs = vs' := funext he
  rw [← this]
  exact h
theorem ElemRow.set4 {t : TypeId} {w : World} {g m : Nat} {vs : Nat → Value} {cs0 : Array Value} {x : Value} {i o : Nat} (h : ElemRow 4 t w g m vs) (hi : i < m) (hv : vs i = .agg cs0) (ho : o < 4) (hz : cs0.size = 4) : ElemRow 4 t (w.setCell ⟨g, i * 4 + o, none⟩ x) g m (fun j => if j = i then .agg (cs0.setIfInBounds o x) else vs j) := by
  obtain ⟨cs, h1, h2⟩ := h
  have hsz : i * 4 + o < cs.size := by
    have h3 := h2 i hi o ho
    have h4 := h3.1
    rw [← h3.2] at h4
    rcases Nat.lt_or_ge (i * 4 + o) cs.size with h5 | h5
    · exact h5
    · rw [Array.getElem?_eq_none h5] at h4
      cases h4
  refine ⟨_, h1.set (i * 4 + o) x, fun q hq j hj => ?_⟩
  dsimp only
  by_cases e : q = i
  · subst e
    rw [if_pos rfl, Array.getElem?_setIfInBounds]
    have h3 := h2 q hi j hj
    rw [hv] at h3
    by_cases ej : o = j
    · subst ej
      rw [if_pos rfl, if_pos hsz]
      simp [partAt, hz, ho]
    · rw [if_neg (by omega)]
      simp only [partAt] at h3 ⊢
      rw [Array.getElem?_setIfInBounds, if_neg ej]
      exact h3
  · rw [if_neg e, Array.getElem?_setIfInBounds, if_neg (by omega)]
    exact h2 q hq j hj

set_option maxHeartbeats 1000000 in
theorem markOpticS_of (ts : List Ot) (hall : ∀ i, (h : i < ts.length) → MarkOMany ts[i].args) : MarkOMany ts := by
  intro S A c k w hA h0 h1
  obtain ⟨hm, ga, vs0, Ss, hrow, hsub, hdis, hks⟩ := hA
  have HALL := Lib.hid hall
  clear hall
  rcases hrow with rfl | ⟨rfl, hSa, hrow⟩
  · go_enter Tryd.func65, Tryd.ntmps65
    go_wp2
    go_loop [1, 5] (fun m i => m = .int .i64 (k : Int) ∧ i = .int .i64 0) (fun _ _ => 0)
    case atStart => exact ⟨rfl, rfl⟩
    case round =>
      obtain ⟨rfl, rfl⟩ := hrel
      go_wp2
      go_ret
      refine ⟨rfl, ?_, OnlyIn.refl _ _⟩
      rw [markOts]
      exact ⟨hm, ga, vs0, Ss, .inl rfl, fun i hi => absurd hi (by simp), fun i _ hi => absurd hi (by simp), fun i hi => absurd hi (by simp)⟩
  · have HSUB := Lib.hid hsub
    have HDIS := Lib.hid hdis
    have HM := Lib.hid hm
    have hstart : OMarking w ga Ss ts k 0 := ⟨vs0, hrow, fun i _ hi => absurd hi (by omega), fun i hi _ => hks i hi⟩
    unfold maxLen at hm
    clear hrow hks hsub hdis
    go_enter Tryd.func65, Tryd.ntmps65
    go_wp2
    go_loopw [1, 5] (fun m i wr => ∃ j q : Nat, j ≤ ts.length ∧ i = .int .i64 j ∧ m = .int .i64 (q : Int) ∧ Hid (q = k + cntOts (ts.take j)) ∧ OMarking wr ga Ss ts k j ∧ OnlyIn S w wr) (fun _ i _ => ts.length - (intOf i).toNat)
    case atStart => exact ⟨0, k, Nat.zero_le _, rfl, rfl, Lib.hid (by simp [cntOts]), hstart, OnlyIn.refl _ _⟩
    case round =>
      obtain ⟨j, q, hj, rfl, rfl, hq, hM, ho⟩ := hrel
      clear hstart
      by_cases hlt : j < ts.length
      · have hc1 := Lib.hid (cntOts_take ts j hlt)
        have hc2 := cntOts_le ts (j + 1)
        have hc4 := Lib.hid (cntOt_eq ts[j])
        have hq1 : q + 3 + cntOts ts[j].args ≤ 2 ^ 62 := by have := hc1.out; have := hc4.out; have := hq.out; omega
        obtain ⟨vs, hrow, hdone, hrest⟩ := hM
        obtain ⟨A', ac, hv, hnm, ha⟩ := (hrest j hlt (Nat.le_refl _)).open
        have hcell := fun (o : Nat) (ho : o < 4) => (hrow.cell j o hlt ho).trans (congrArg (partAt · o) hv)
        have q0 : wr.cell? ⟨ga, j * 4, none⟩ = some (.int .i64 ts[j].kind) := hcell 0 (by omega)
        have q0' : wr.frozen? ⟨ga, j * 4, none⟩ = false := hrow.free _
        have R1 : ElemRow 4 50 (wr.setCell ⟨ga, j * 4, none⟩ (.int .i64 (q : Int))) ga ts.length (fun i => if i = j then .agg #[.int .i64 (q : Int), .string ts[j].name, .int .i64 ts[j].num, .slice A' ts[j].args.length ac] else vs i) := (hrow.set4 (x := .int .i64 (q : Int)) (o := 0) hlt hv (by omega) rfl).congrO fun i => by
          by_cases e : i = j
          · rw [if_pos e, if_pos e]; rfl
          · rw [if_neg e, if_neg e]
        have hgal := hrow.lt
        have HR2a := Lib.hid R1
        have hkeep0 := Lib.hid (fun b (hb : b ≠ ga) => Below.heap_setCell wr ⟨ga, j * 4, none⟩ (.int .i64 (q : Int)) b hb)
        have HD := Lib.hid hdone
        have HV := Lib.hid hv
        have HE := Lib.hid hrest
        have HA' := Lib.hid ha
        have ho0 := Lib.hid (ho.set hSa (j * 4) (.int .i64 (q : Int)))
        have hs0 : wr.heap.size ≤ (wr.setCell ⟨ga, j * 4, none⟩ (.int .i64 (q : Int))).heap.size := by simp [World.setCell]
        have HMT := Lib.hid (fun W => (show Calls Tryd.prog 116 #[.int .i64 ((q : Int) + 1)] W fun e w' => e = .returned (.string (markB (q + 1))) ∧ Below W.heap.size W w' by
          have := markText_any (q + 1) W (by omega) (by omega)
          rw [show ((q + 1 : Nat) : Int) = (q : Int) + 1 by omega] at this
          exact this))
        clear hrow hdone hrest hv ha hcell R1
        go_wp2_with fail
        clear q0 q0'
        generalize (wr.setCell ⟨ga, j * 4, none⟩ (.int .i64 (q : Int))) = w2a at *
        refine (HMT.out w2a).mono ?_
        rintro e wm ⟨rfl, hbm⟩
        have R2m := HR2a.out.keep (hbm.block ga (by omega))
        have q1 : wm.cell? ⟨ga, j * 4 + 1, none⟩ = some (.string ts[j].name) := by
          have := R2m.cell j 1 hlt (by omega)
          rw [if_pos rfl] at this
          exact this
        have q1' : wm.frozen? ⟨ga, j * 4 + 1, none⟩ = false := R2m.free _
        have hrow1 : Hid (ElemRow 4 50 (wm.setCell ⟨ga, j * 4 + 1, none⟩ (.string (markB (q + 1)))) ga ts.length (fun i => if i = j then .agg #[.int .i64 (q : Int), .string (markB (q + 1)), .int .i64 ts[j].num, .slice A' ts[j].args.length ac] else vs i)) := Lib.hid ((R2m.set4 (x := .string (markB (q + 1))) (o := 1) hlt (by rw [if_pos rfl]) (by omega) rfl).congrO fun i => by
          by_cases e : i = j
          · rw [if_pos e, if_pos e]; rfl
          · rw [if_neg e, if_neg e, if_neg e])
        have q2 : (wm.setCell ⟨ga, j * 4 + 1, none⟩ (.string (markB (q + 1)))).cell? ⟨ga, j * 4 + 2, none⟩ = some (.int .i64 ts[j].num) := by
          have := hrow1.out.cell j 2 hlt (by omega)
          rw [if_pos rfl] at this
          exact this
        have q2' : (wm.setCell ⟨ga, j * 4 + 1, none⟩ (.string (markB (q + 1)))).frozen? ⟨ga, j * 4 + 2, none⟩ = false := hrow1.out.free _
        have hrow2 : Hid (ElemRow 4 50 ((wm.setCell ⟨ga, j * 4 + 1, none⟩ (.string (markB (q + 1)))).setCell ⟨ga, j * 4 + 2, none⟩ (.int .i64 ((q : Int) + 1 + 1))) ga ts.length (fun i => if i = j then .agg #[.int .i64 (q : Int), .string (markB (q + 1)), .int .i64 ((q : Int) + 1 + 1), .slice A' ts[j].args.length ac] else vs i)) := Lib.hid ((hrow1.out.set4 (x := .int .i64 ((q : Int) + 1 + 1)) (o := 2) hlt (by rw [if_pos rfl]) (by omega) rfl).congrO fun i => by
          by_cases e : i = j
          · rw [if_pos e, if_pos e]; rfl
          · rw [if_neg e, if_neg e, if_neg e])
        have q3 : ((wm.setCell ⟨ga, j * 4 + 1, none⟩ (.string (markB (q + 1)))).setCell ⟨ga, j * 4 + 2, none⟩ (.int .i64 ((q : Int) + 1 + 1))).cell? ⟨ga, j * 4 + 3, none⟩ = some (.slice A' ts[j].args.length ac) := by
          have := hrow2.out.cell j 3 hlt (by omega)
          rw [if_pos rfl] at this
          exact this
        have hsm := hbm.size
        have hkeep : Hid (∀ b, b ≠ ga → b < wr.heap.size → ((wm.setCell ⟨ga, j * 4 + 1, none⟩ (.string (markB (q + 1)))).setCell ⟨ga, j * 4 + 2, none⟩ (.int .i64 ((q : Int) + 1 + 1))).heap[b]? = wr.heap[b]?) := Lib.hid fun b hb hlt' => (Below.heap_setCell (wm.setCell ⟨ga, j * 4 + 1, none⟩ (.string (markB (q + 1)))) ⟨ga, j * 4 + 2, none⟩ _ b hb).trans ((Below.heap_setCell wm ⟨ga, j * 4 + 1, none⟩ _ b hb).trans ((hbm.block b (by omega)).trans (hkeep0.out b hb)))
        have ho1 := Lib.hid (((ho0.out.trans (OnlyIn.of_below hbm)).set hSa (j * 4 + 1) (.string (markB (q + 1)))).set hSa (j * 4 + 2) (.int .i64 ((q : Int) + 1 + 1)))
        have hs1 : wr.heap.size ≤ ((wm.setCell ⟨ga, j * 4 + 1, none⟩ (.string (markB (q + 1)))).setCell ⟨ga, j * 4 + 2, none⟩ (.int .i64 ((q : Int) + 1 + 1))).heap.size := by simp [World.setCell]; omega
        clear R2m hbm HR2a hrow1
        go_wp2_with fail
        clear q1 q1' q2 q2' q3
        generalize (wm.setCell ⟨ga, j * 4 + 1, none⟩ (.string (markB (q + 1)))).setCell ⟨ga, j * 4 + 2, none⟩ (.int .i64 ((q : Int) + 1 + 1)) = w1 at *
        have ha2 := Lib.hid (HA'.out.keep (fun b hb hlt' => hkeep.out b (HSUB.out j hlt _ hb).2 hlt'))
        refine (HALL.out j hlt _ _ ac (q + 3) w1 ha2.out (by omega) (by omega)).mono ?_
        rintro e w3 ⟨rfl, ht3, ho3⟩
        have hs3 := ho3.size
        have HT3 := Lib.hid ht3
        have hM3 : Hid (OMarking w3 ga Ss ts k (j + 1)) := by
          apply Lib.hid
          have hqe := hq.out
          refine ⟨_, hrow2.out.keep (ho3.block ga (by omega) fun h => (HSUB.out j hlt _ h).2 rfl), fun i hi hij => ?_, fun i hi hij => ?_⟩
          · by_cases e : i = j
            · subst e
              rw [if_pos rfl, ← hqe]
              rw [show (q : Int) + 1 + 1 = ((q + 2 : Nat) : Int) by omega]
              exact OtIn.setHeadO (k0 := ts[i].kind) (n0 := ts[i].num) (nm0 := ts[i].name) (markOIn (q + 3) hnm HT3.out) q (by omega)
            · rw [if_neg e]
              refine (HD.out i hi (by omega)).keep fun b hb hbl => ?_
              rw [ho3.block b (by omega) fun h => HDIS.out i j hi hlt e b hb h]
              exact hkeep.out b (HSUB.out i hi b hb).2 hbl
          · have e : i ≠ j := by omega
            rw [if_neg e]
            refine (HE.out i hi (by omega)).keep fun b hb hbl => ?_
            rw [ho3.block b (by omega) fun h => HDIS.out i j hi hlt e b hb h]
            exact hkeep.out b (HSUB.out i hi b hb).2 hbl
        have hO3 := Lib.hid (ho1.out.trans (ho3.wide fun b hb => (HSUB.out j hlt _ hb).1))
        clear ht3 ho3
        go_wp2
        go_roundw
        case rel => exact ⟨j + 1, q + 3 + cntOts ts[j].args, by omega, by go_num, rfl, Lib.hid (by have := hc1.out; have := hc4.out; have := hq.out; omega), hM3.out, hO3.out⟩
        case measure => simp [intOf]; omega
      · have hje : j = ts.length := by omega
        subst hje
        rw [List.take_length] at hq
        have hqe := hq.out
        have HQ := Lib.hid hqe
        clear hqe
        have HMk := Lib.hid hM
        clear hM
        go_wp2
        go_ret
        exact ⟨by rw [HQ.out]; rfl, HMk.out.done HM.out hSa HSUB.out HDIS.out, ho⟩

end Go.Proofs.YtlmbnefoobameaaDoor
end

section
namespace Go.Proofs.YtlmbnefoobameaaDoor
open Go.RowKit

/-- A tree is marked. -/
def MarkedTy (w : World) (S : Nat → Prop) (v : Value) (k : Nat) (t : Ty) (e : Ending) (w' : World) : Prop :=
  e = .returned (.int .i64 ((k + cntTy t : Nat) : Int)) ∧ TyIn w' S v (markTy t k) ∧ OnlyIn S w w'

theorem marked_elem {w : World} {B k : Nat} {A : Option Addr} {ts : List Ty} (h : TysAt w B A (markTys ts k)) (i : Nat) (hi : i < ts.length) :
    ∃ b off L lc A' ac, A = some ⟨b, off, none⟩ ∧ b < B ∧ w.cell? ⟨b, off + i * 3, none⟩ = some (.int .i64 ((k + cntTys (ts.take i) : Nat) : Int)) ∧ w.cell? ⟨b, off + i * 3 + 1, none⟩ = some (.slice L ts[i].labels.length lc) ∧
      w.cell? ⟨b, off + i * 3 + 2, none⟩ = some (.slice A' ts[i].args.length ac) ∧ StrsAt w B L (marks (k + cntTys (ts.take i) + 1) ts[i].labels.length) ∧ TysAt w B A' (markTys ts[i].args (k + cntTys (ts.take i) + 1 + ts[i].labels.length)) := by
  have hl := markTys_len ts k
  have hi' : i < (markTys ts k).length := by omega
  obtain ⟨b, off, L, lc, A', ac, h1, h2, h3, h4, h5, _, _, h6, h7, _⟩ := h.elem i hi'
  have hg := markTys_get ts k i hi
  rw [List.getElem?_eq_getElem hi'] at hg
  have hg' := Option.some.inj hg
  rw [hg'] at h3 h4 h5 h6 h7
  refine ⟨b, off, L, lc, A', ac, h1, h2, ?_, ?_, ?_, ?_, ?_⟩
  · revert h3; cases ts[i]; rw [markTy]; exact id
  · revert h4; cases ts[i]; rw [markTy]; simp only [setKind, Ty.labels, marks_len]; exact id
  · revert h5; cases ts[i]; rw [markTy]; simp only [setKind, Ty.args, markTys_len]; exact id
  · revert h6; cases ts[i]; rw [markTy]; exact id
  · revert h7; cases ts[i]; rw [markTy]; exact id

end Go.Proofs.YtlmbnefoobameaaDoor
end

section
namespace Go.Proofs.YtlmbnefoobameaaDoor
open Go.RowKit

theorem markOMany_any (t : Ot) : MarkOMany t.args := by
  induction t using Ot.ind with
  | h k n nm ts ih => exact markOpticS_of ts ih

/-- A tree is marked. -/
def MarkedOt (w : World) (S : Nat → Prop) (v : Value) (k : Nat) (t : Ot) (e : Ending) (w' : World) : Prop :=
  e = .returned (.int .i64 ((k + cntOt t : Nat) : Int)) ∧ OtIn w' S v (markOt t k) ∧ OnlyIn S w w'

set_option maxHeartbeats 1000000 in
theorem markOptic_any (t : Ot) (S : Nat → Prop) (v : Value) (k : Nat) (w : World) (hv : OtIn w S v t) (h0 : 0 < k) (h1 : k + cntOt t ≤ 2 ^ 62) :
    Calls Tryd.prog 29 #[v, .int .i64 k] w (MarkedOt w S v k t) := by
  have hc := Lib.hid (cntOt_eq t)
  have hq1 : k + cntOts t.args ≤ 2 ^ 62 := by have := hc.out; omega
  obtain ⟨A, ac, rfl, hnm, ha⟩ := hv.open
  obtain ⟨hb0, p0, hs0⟩ := boxes1 w 50 #[.int .i64 t.kind, .string t.name, .int .i64 t.num, .slice A t.args.length ac]
  have hk0 : ∀ b, b < w.heap.size → (w.alloc (.cells #[.int .i64 t.kind, .string t.name, .int .i64 t.num, .slice A t.args.length ac] 50)).heap[b]? = w.heap[b]? := fun b hb => hb0.block b hb
  have HA := Lib.hid (ha.keep (fun b _ hb => hk0 b hb))
  clear ha hv hk0
  go_enter Tryd.func29, Tryd.ntmps29
  go_wp2_with fail
  generalize w.alloc (.cells #[.int .i64 t.kind, .string t.name, .int .i64 t.num, .slice A t.args.length ac] 50) = w0 at *
  have HZ := Lib.hid hs0
  clear hs0
  refine (markOMany_any t S A ac k w0 HA.out h0 hq1).mono ?_
  rintro e w2 ⟨rfl, ht2, ho2⟩
  have HT := Lib.hid ht2
  have hO : OnlyIn S w w2 := (OnlyIn.of_below hb0).trans ho2
  clear ht2
  go_wp2
  go_ret
  exact ⟨by rw [hc.out]; rfl, markOIn k hnm HT.out, hO⟩

def HeldOMany (ts : List Ot) : Prop := ∀ (A : Option Addr) (c k : Nat) (w : World), OtsAt w w.heap.size A (markOts ts k) → 0 < k → k + cntOts ts ≤ 2 ^ 62 → Calls Tryd.prog 66 #[.slice A ts.length c, .int .i64 k] w (HeldTo w (k + cntOts ts))

theorem omarked_elem {w : World} {B k : Nat} {A : Option Addr} {ts : List Ot} (h : OtsAt w B A (markOts ts k)) (i : Nat) (hi : i < ts.length) :
    ∃ b off A' ac, A = some ⟨b, off, none⟩ ∧ b < B ∧ w.cell? ⟨b, off + i * 4, none⟩ = some (.int .i64 ((k + cntOts (ts.take i) : Nat) : Int)) ∧ w.cell? ⟨b, off + i * 4 + 1, none⟩ = some (.string (markB (k + cntOts (ts.take i) + 1))) ∧ w.cell? ⟨b, off + i * 4 + 2, none⟩ = some (.int .i64 ((k + cntOts (ts.take i) + 2 : Nat) : Int)) ∧
      w.cell? ⟨b, off + i * 4 + 3, none⟩ = some (.slice A' ts[i].args.length ac) ∧ OtsAt w B A' (markOts ts[i].args (k + cntOts (ts.take i) + 3)) := by
  have hl := markOts_len ts k
  have hi' : i < (markOts ts k).length := by omega
  obtain ⟨b, off, A', ac, h1, h2, h3, hN, hM, h5, hat⟩ := h.elem i hi'
  obtain ⟨A2, ac2, he, _, h7⟩ := hat.open
  simp only [Value.agg.injEq, Array.mk.injEq, List.cons.injEq, Value.slice.injEq, and_true, true_and] at he
  obtain ⟨rfl, rfl⟩ := he
  have hg := markOts_get ts k i hi
  rw [List.getElem?_eq_getElem hi'] at hg
  have hg' := Option.some.inj hg
  rw [hg'] at h3 hN hM h5 h7
  refine ⟨b, off, A', ac, h1, h2, ?_, ?_, ?_, ?_, ?_⟩
  · revert h3; cases ts[i]; rw [markOt]; exact id
  · revert hM; cases ts[i]; rw [markOt]; exact id
  · revert hN; cases ts[i]; rw [markOt]; exact id
  · revert h5; cases ts[i]; rw [markOt]; simp only [setHeadO, Ot.args, markOts_len]; exact id
  · revert h7; cases ts[i]; rw [markOt]; exact id

set_option maxHeartbeats 1000000 in
theorem heldOpticS_of (ts : List Ot) (hall : ∀ i, (h : i < ts.length) → HeldOMany ts[i].args) : HeldOMany ts := by
  intro A c k w hA h0 h1
  have HALL := Lib.hid hall
  clear hall
  have hm := hA.1
  rw [markOts_len] at hm
  unfold maxLen at hm
  go_enter Tryd.func66, Tryd.ntmps66
  go_wp2
  go_loopw [1, 5] (fun m i wr => ∃ j q : Nat, j ≤ ts.length ∧ i = .int .i64 j ∧ m = .int .i64 (q : Int) ∧ Hid (q = k + cntOts (ts.take j)) ∧ Below w.heap.size w wr) (fun _ i _ => ts.length - (intOf i).toNat)
  case atStart => exact ⟨0, k, Nat.zero_le _, rfl, rfl, Lib.hid (by simp [cntOts]), Below.refl _ _⟩
  case round =>
    obtain ⟨j, q, hj, rfl, rfl, hq, hb⟩ := hrel
    by_cases hlt : j < ts.length
    · have hc1 := Lib.hid (cntOts_take ts j hlt)
      have hc2 := cntOts_le ts (j + 1)
      have hc4 := Lib.hid (cntOt_eq ts[j])
      have hq1 : q + 3 + cntOts ts[j].args ≤ 2 ^ 62 := by have := hc1.out; have := hc4.out; have := hq.out; omega
      obtain ⟨b, off, A', ac, rfl, hbl, q0, qm, qn, q2, ha⟩ := omarked_elem (hA.below hb) j hlt
      rw [← hq.out] at q0 qn qm ha
      rw [show ((q + 2 : Nat) : Int) = (q : Int) + 1 + 1 by omega] at qn
      have hbs := hb.size
      have hbl' : b < wr.heap.size := by omega
      have hne : ((q : Int) != (q : Int)) = false := by simp
      have hne1 : ((q : Int) + 1 + 1 != (q : Int) + 1 + 1) = false := by simp
      have hne2 : ((markB (q + 1)).toList != (markB (q + 1)).toList) = false := by simp
      have hne3 : ((markB (q + 1)).toList == (markB (q + 1)).toList) = true := by simp
      have HMT := Lib.hid (fun W => (show Calls Tryd.prog 116 #[.int .i64 ((q : Int) + 1)] W fun e w' => e = .returned (.string (markB (q + 1))) ∧ Below W.heap.size W w' by
        have := markText_any (q + 1) W (by omega) (by omega)
        rw [show ((q + 1 : Nat) : Int) = (q : Int) + 1 by omega] at this
        exact this))
      generalize hmb : markB (q + 1) = mb at *
      clear hmb
      go_wp2
      go_region_held3 (fun w' => w'.cell? ⟨b, off + j * 4 + 1, none⟩ = some (.string mb) ∧ Below wr.heap.size wr w') ((first | exact ⟨qm, (Below.refl _ _).drew⟩ | exact ⟨hk1, hk2⟩))
        (first | (go_at_call 116; refine (HMT.out _).mono ?_; rintro e w' ⟨rfl, hbm⟩; have hk2 := (Below.refl wr.heap.size wr).drew.trans hbm; have hk1 := (hk2.cell (p := ⟨b, off + j * 4 + 1, none⟩) hbl').trans qm))
      have hsk := hk2.size
      have qn' := (hk2.cell (p := ⟨b, off + j * 4 + 2, none⟩) hbl').trans qn
      have q2k := (hk2.cell (p := ⟨b, off + j * 4 + 3, none⟩) hbl').trans q2
      have hbk := hb.trans (hk2.mono hbs)
      have ha2 := (ha.more hbs).up hk2
      have HT := Lib.hid (HALL.out j hlt A' ac (q + 3) w' ha2 (by omega) (by omega))
      have hnn : ¬ ((q + 3 + cntOts ts[j].args : Nat) : Int) < 0 := by omega
      clear q0 qn qm q2 ha hne hne2 hne3 hk1 hbm ha2
      go_wp2_with fail
      refine HT.out.mono ?_
      rintro e w2 ⟨rfl, hb2⟩
      go_wp2
      go_roundw
      case rel => exact ⟨j + 1, q + 3 + cntOts ts[j].args, by omega, by go_num, rfl, Lib.hid (by have := hc1.out; have := hc4.out; have := hq.out; omega), hbk.trans (hb2.mono hbk.size)⟩
      case measure => simp [intOf]; omega
    · have hje : j = ts.length := by omega
      subst hje
      rw [List.take_length] at hq
      go_wp2
      go_ret
      exact ⟨by rw [hq.out]; rfl, hb⟩

theorem heldOMany_any (t : Ot) : HeldOMany t.args := by
  induction t using Ot.ind with
  | h k n nm ts ih => exact heldOpticS_of ts ih

set_option maxHeartbeats 1000000 in
theorem heldOptic_any (t : Ot) (v : Value) (k : Nat) (w : World) (hv : OtAt w w.heap.size v (markOt t k)) (h0 : 0 < k) (h1 : k + cntOt t ≤ 2 ^ 62) :
    Calls Tryd.prog 30 #[v, .int .i64 k] w (HeldTo w (k + cntOt t)) := by
  have hc := Lib.hid (cntOt_eq t)
  have hq1 : k + cntOts t.args ≤ 2 ^ 62 := by have := hc.out; omega
  have hv' : ∃ A ac, v = .agg #[.int .i64 t.kind, .string t.name, .int .i64 t.num, .slice A t.args.length ac] ∧ OtsAt w w.heap.size A (markOts t.args k) := by
    obtain ⟨A, ac, e, _, h4⟩ := hv.open
    refine ⟨A, ac, ?_, ?_⟩
    · rw [e]; cases t; rw [markOt]; simp only [Ot.args, Ot.kind, Ot.num, Ot.name, markOts_len]
    · revert h4; cases t; rw [markOt]; exact id
  obtain ⟨A, ac, rfl, ha⟩ := hv'
  obtain ⟨hb0, p0, hs0⟩ := boxes1 w 50 #[.int .i64 t.kind, .string t.name, .int .i64 t.num, .slice A t.args.length ac]
  have HZ := Lib.hid hs0
  have hnn : ¬ ((k + cntOts t.args : Nat) : Int) < 0 := by omega
  clear hv hs0
  go_enter Tryd.func30, Tryd.ntmps30
  go_wp2_with fail
  generalize w.alloc (.cells #[.int .i64 t.kind, .string t.name, .int .i64 t.num, .slice A t.args.length ac] 50) = w0 at *
  refine (heldOMany_any t A ac k w0 (ha.up hb0) h0 hq1).mono ?_
  rintro e w2 ⟨rfl, hb2⟩
  go_wp2
  go_ret
  exact ⟨by rw [hc.out]; rfl, hb0.trans (hb2.mono hb0.size)⟩

end Go.Proofs.YtlmbnefoobameaaDoor
end

section
namespace Go.Proofs.YtlmbnefoobameaaDoor
open Go.RowKit

/-- May the byte c stand at place k of a name? -/
def nameAt (k : Nat) (c : UInt8) : Bool := (decide (97 ≤ c.toNat) && decide (c.toNat ≤ 122)) || (decide (0 < k) && decide (48 ≤ c.toNat) && decide (c.toNat ≤ 57))
/-- Is it a name? -/
def isNameB (s : ByteArray) : Bool := (List.range s.size).all (fun k => nameAt k (s.data.getD k 0)) && decide (1 ≤ s.size) && decide (s.size ≤ 4)

theorem isNameB_no (s : ByteArray) (k : Nat) (h : k < s.size) (hn : nameAt k (s.data.getD k 0) = false) : isNameB s = false := by
  unfold isNameB
  have : (List.range s.size).all (fun k => nameAt k (s.data.getD k 0)) = false := by
    rw [List.all_eq_false]
    exact ⟨k, List.mem_range.2 h, by rw [hn]; simp⟩
  rw [this]
  rfl
theorem isNameB_all (s : ByteArray) (h : ∀ k, k < s.size → nameAt k (s.data.getD k 0) = true) : isNameB s = (decide (1 ≤ s.size) && decide (s.size ≤ 4)) := by
  unfold isNameB
  have : (List.range s.size).all (fun k => nameAt k (s.data.getD k 0)) = true := by
    rw [List.all_eq_true]
    exact fun k hk => h k (List.mem_range.1 hk)
  rw [this]
  rfl

set_option maxHeartbeats 1000000 in
theorem specIsName_any (s : ByteArray) (w : World) (hs : s.size ≤ maxLen) :
    Calls Tryd.prog 87 #[.string s] w fun e w' => e = .returned (.bool (isNameB s)) ∧ w = w' := by
  unfold maxLen at hs
  go_enter Tryd.func87, Tryd.ntmps87
  go_wp2
  go_loop [3] (fun i => ∃ k : Nat, k ≤ s.size ∧ i = .int .i64 k ∧ ∀ j, j < k → nameAt j (s.data.getD j 0) = true) (fun i => s.size - (intOf i).toNat)
  case atStart => exact ⟨0, Nat.zero_le _, rfl, fun j h => absurd h (by omega)⟩
  case round =>
    obtain ⟨k, hk, rfl, hall⟩ := hrel
    have HA := Lib.hid hall
    clear hall
    by_cases hlt : k < s.size
    · have hltI : (k : Int) < (s.size : Int) := by omega
      have hget := Lib.hid (show s.data.getD k 0 = s[k] by
        rw [Array.getD_eq_getD_getElem?, Array.getElem?_eq_getElem hlt]; rfl)
      by_cases h97 : 97 ≤ s[k].toNat
      · by_cases h122 : s[k].toNat ≤ 122
        · have i1 : (97 : Int) ≤ s[k].toNat := by omega
          have i2 : (s[k].toNat : Int) ≤ 122 := by omega
          go_wp2
          go_round
          case rel =>
            refine ⟨k + 1, by omega, by go_num, fun j hj => ?_⟩
            by_cases e : j = k
            · subst e
              rw [hget.out]
              simp [nameAt, h97, h122]
            · exact HA.out j (by omega)
          case measure => simp [intOf]; omega
        · have i1 : (97 : Int) ≤ s[k].toNat := by omega
          have i2 : ¬ (s[k].toNat : Int) ≤ 122 := by omega
          have i3 : ¬ (s[k].toNat : Int) < 48 := by omega
          have i4 : (57 : Int) < s[k].toNat := by omega
          have hno := Lib.hid (isNameB_no s k hlt (by rw [hget.out]; simp [nameAt, h122, show ¬ s[k].toNat ≤ 57 by omega]))
          go_wp2
          all_goals
            go_ret
            refine ⟨?_, rfl⟩
            rw [hno.out]
            rfl
      · by_cases hk0 : 0 < k
        · by_cases h48 : s[k].toNat < 48
          · have i1 : ¬ (97 : Int) ≤ s[k].toNat := by omega
            have i0 : ((k : Int) == 0) = false := by rw [beq_eq_false_iff_ne]; omega
            have i3 : (s[k].toNat : Int) < 48 := by omega
            have hno := Lib.hid (isNameB_no s k hlt (by rw [hget.out]; simp [nameAt, h97, show ¬ 48 ≤ s[k].toNat by omega]))
            go_wp2
            all_goals
              go_ret
              refine ⟨?_, rfl⟩
              rw [hno.out]
              rfl
          · by_cases h57 : s[k].toNat ≤ 57
            · have i1 : ¬ (97 : Int) ≤ s[k].toNat := by omega
              have i0 : ((k : Int) == 0) = false := by rw [beq_eq_false_iff_ne]; omega
              have i3 : ¬ (s[k].toNat : Int) < 48 := by omega
              have i4 : ¬ (57 : Int) < s[k].toNat := by omega
              go_wp2
              go_round
              case rel =>
                refine ⟨k + 1, by omega, by go_num, fun j hj => ?_⟩
                by_cases e : j = k
                · subst e
                  rw [hget.out]
                  simp [nameAt, hk0, h57, show 48 ≤ s[j].toNat by omega]
                · exact HA.out j (by omega)
              case measure => simp [intOf]; omega
            · have i1 : ¬ (97 : Int) ≤ s[k].toNat := by omega
              have i0 : ((k : Int) == 0) = false := by rw [beq_eq_false_iff_ne]; omega
              have i3 : ¬ (s[k].toNat : Int) < 48 := by omega
              have i4 : (57 : Int) < s[k].toNat := by omega
              have hno := Lib.hid (isNameB_no s k hlt (by rw [hget.out]; simp [nameAt, h97, h57]))
              go_wp2
              all_goals
                go_ret
                refine ⟨?_, rfl⟩
                rw [hno.out]
                rfl
        · have i1 : ¬ (97 : Int) ≤ s[k].toNat := by omega
          have i0 : ((k : Int) == 0) = true := by rw [beq_iff_eq]; omega
          have hno := Lib.hid (isNameB_no s k hlt (by rw [hget.out]; simp [nameAt, h97, hk0]))
          go_wp2
          all_goals
            go_ret
            refine ⟨?_, rfl⟩
            rw [hno.out]
            rfl
    · have hltI : ¬ (k : Int) < (s.size : Int) := by omega
      have hke : k = s.size := by omega
      have hB := Lib.hid (isNameB_all s (fun j hj => HA.out j (by omega)))
      clear hke
      by_cases h1 : 1 ≤ s.size
      · by_cases h4 : s.size ≤ 4
        · have i1 : (1 : Int) ≤ s.size := by omega
          have i4 : (s.size : Int) ≤ 4 := by omega
          go_wp2
          go_ret
          refine ⟨?_, rfl⟩
          rw [hB.out]
          simp [h1, h4]
        · have i1 : (1 : Int) ≤ s.size := by omega
          have i4 : ¬ (s.size : Int) ≤ 4 := by omega
          go_wp2
          go_ret
          refine ⟨?_, rfl⟩
          rw [hB.out]
          simp [h4]
      · have i1 : ¬ (1 : Int) ≤ s.size := by omega
        go_wp2
        go_ret
        refine ⟨?_, rfl⟩
        rw [hB.out]
        simp [h1]

end Go.Proofs.YtlmbnefoobameaaDoor

namespace Go.Proofs.YtlmbnefoobameaaDoor
open Go.RowKit

/-- The first place of s. -/
def idxOf (ss : List ByteArray) (s : ByteArray) : Int :=
  match (List.range ss.length).find? (fun k => (ss.getD k ⟨#[]⟩).data.toList == s.data.toList) with
  | some k => (k : Int)
  | none => -1
theorem idxOf_at (ss : List ByteArray) (s : ByteArray) (k : Nat) (h : k < ss.length) (he : ss[k].data.toList = s.data.toList) (hn : ∀ j, (hj : j < ss.length) → j < k → ss[j].data.toList ≠ s.data.toList) : idxOf ss s = k := by
  unfold idxOf
  have : (List.range ss.length).find? (fun k => (ss.getD k ⟨#[]⟩).data.toList == s.data.toList) = some k := by
    rw [List.find?_range_eq_some]
    refine ⟨?_, List.mem_range.2 h, fun j hj => ?_⟩
    · simp [h, he]
    · have hl : j < ss.length := by omega
      simp [hl]
      exact fun e => hn j hl hj (by rw [e])
  rw [this]
theorem idxOf_none (ss : List ByteArray) (s : ByteArray) (hn : ∀ j, (hj : j < ss.length) → ss[j].data.toList ≠ s.data.toList) : idxOf ss s = -1 := by
  unfold idxOf
  have : (List.range ss.length).find? (fun k => (ss.getD k ⟨#[]⟩).data.toList == s.data.toList) = none := by
    rw [List.find?_eq_none]
    intro j hj
    have hl := List.mem_range.1 hj
    simp [hl]
    exact fun e => hn j hl (by rw [e])
  rw [this]

set_option maxHeartbeats 1000000 in
theorem specIndexOf_any (A : Option Addr) (c B : Nat) (ss : List ByteArray) (s : ByteArray) (w : World) (hA : StrsAt w B A ss) (hn : ss.length ≤ maxLen) :
    Calls Tryd.prog 85 #[.slice A ss.length c, .string s] w fun e w' => e = .returned (.int .i64 (idxOf ss s)) ∧ w = w' := by
  unfold maxLen at hn
  go_enter Tryd.func85, Tryd.ntmps85
  go_wp2
  go_loop [5] (fun i => ∃ k : Nat, k ≤ ss.length ∧ i = .int .i64 k ∧ ∀ j, (hj : j < ss.length) → j < k → ss[j].data.toList ≠ s.data.toList) (fun i => ss.length - (intOf i).toNat)
  case atStart => exact ⟨0, Nat.zero_le _, rfl, fun j _ h => absurd h (by omega)⟩
  case round =>
    obtain ⟨k, hk, rfl, hall⟩ := hrel
    have HA := Lib.hid hall
    clear hall
    by_cases hlt : k < ss.length
    · have hltI : (k : Int) < (ss.length : Int) := by omega
      obtain ⟨b, off, rfl, _, hcell⟩ := hA k hlt
      by_cases he : ss[k].data.toList = s.data.toList
      · have hd := Lib.hid (idxOf_at ss s k hlt he HA.out)
        have hq : (ss[k].toList == s.toList) = true := by rw [beq_iff_eq, ByteArray.toList_eq, ByteArray.toList_eq]; exact he
        clear he
        go_wp2
        go_ret
        exact ⟨by rw [hd.out]; rfl, rfl⟩
      · have hq : (ss[k].toList == s.toList) = false := by rw [beq_eq_false_iff_ne, ByteArray.toList_eq, ByteArray.toList_eq]; exact he
        have HE := Lib.hid he
        clear he
        go_wp2
        go_round
        case rel =>
          refine ⟨k + 1, by omega, by go_num, fun j hj h => ?_⟩
          by_cases e : j = k
          · subst e
            exact HE.out
          · exact HA.out j hj (by omega)
        case measure => simp [intOf]; omega
    · have hltI : ¬ (k : Int) < (ss.length : Int) := by omega
      have hd := Lib.hid (idxOf_none ss s (fun j hj => HA.out j hj (by omega)))
      go_wp2
      go_ret
      exact ⟨by rw [hd.out]; rfl, rfl⟩

/-- s before t, byte by byte. -/
def lessB (s t : ByteArray) : Bool := Op.bytesLess s.data.toList t.data.toList
/-- Each before the next. -/
def ascB (ss : List ByteArray) : Bool := (List.range (ss.length - 1)).all fun k => lessB (ss.getD k ⟨#[]⟩) (ss.getD (k + 1) ⟨#[]⟩)
theorem ascB_no (ss : List ByteArray) (k : Nat) (h1 : 1 ≤ k) (h : k < ss.length) (hn : lessB (ss[k - 1]'(by omega)) ss[k] = false) : ascB ss = false := by
  unfold ascB
  rw [List.all_eq_false]
  refine ⟨k - 1, List.mem_range.2 (by omega), ?_⟩
  have e : k - 1 + 1 = k := by omega
  rw [e]
  simp [h, show k - 1 < ss.length by omega, hn]
theorem ascB_yes (ss : List ByteArray) (h : ∀ k, (hk : k < ss.length) → 1 ≤ k → lessB (ss[k - 1]'(by omega)) ss[k] = true) : ascB ss = true := by
  unfold ascB
  rw [List.all_eq_true]
  intro k hk
  have hl := List.mem_range.1 hk
  have := h (k + 1) (by omega) (by omega)
  simp only [Nat.add_sub_cancel] at this
  simp [show k < ss.length by omega, show k + 1 < ss.length by omega, this]

/-- A bool is handed back; the world only drew. -/
def BoolDrew (b : Bool) (w : World) (e : Ending) (w' : World) : Prop := e = .returned (.bool b) ∧ ∃ n, w' = w.drewN n

set_option maxHeartbeats 1000000 in
theorem specAreAscending_any (A : Option Addr) (c B : Nat) (ss : List ByteArray) (w : World) (hA : StrsAt w B A ss) (hn : ss.length < maxLen) :
    Calls Tryd.prog 127 #[.slice A ss.length c] w (BoolDrew (ascB ss) w) := by
  unfold maxLen at hn
  go_enter Tryd.func127, Tryd.ntmps127
  go_wp2
  go_loopw [3] (fun i wr => ∃ k : Nat, k ≤ ss.length + 1 ∧ 1 ≤ k ∧ i = .int .i64 k ∧ (∀ j, (hj : j < ss.length) → 1 ≤ j → j < k → lessB (ss[j - 1]'(by omega)) ss[j] = true) ∧ ∃ n, wr = w.drewN n) (fun i _ => ss.length - (intOf i).toNat)
  case atStart => exact ⟨1, by omega, by omega, rfl, fun j _ h1 h2 => absurd h2 (by omega), 0, rfl⟩
  case round =>
    obtain ⟨k, hk, hk1, rfl, hall, n, rfl⟩ := hrel
    have HA := Lib.hid hall
    clear hall
    by_cases hlt : k < ss.length
    · have hltI : (k : Int) < (ss.length : Int) := by omega
      obtain ⟨b, off, rfl, _, hcell⟩ := hA k hlt
      obtain ⟨b', off', e', _, hcell'⟩ := hA (k - 1) (by omega)
      cases e'
      cases hles : lessB (ss[k - 1]'(by omega)) ss[k]
      · have hd := Lib.hid (ascB_no ss k hk1 hlt hles)
        have hq : (!Op.bytesLess (ss[k - 1]'(by omega)).toList ss[k].toList) = true := by
          rw [ByteArray.toList_eq, ByteArray.toList_eq, show Op.bytesLess _ _ = false from hles]
          rfl
        clear hles
        go_wp2
        go_quiet (fail)
        go_wp2
        go_ret
        exact ⟨by rw [hd.out]; rfl, _, World.drewN_drewN _ _ _⟩
      · have hq : (!Op.bytesLess (ss[k - 1]'(by omega)).toList ss[k].toList) = false := by
          rw [ByteArray.toList_eq, ByteArray.toList_eq, show Op.bytesLess _ _ = true from hles]
          rfl
        have HE := Lib.hid hles
        clear hles
        go_wp2
        go_quiet (fail)
        go_wp2
        go_roundw
        case rel =>
          refine ⟨k + 1, by omega, by omega, by go_num, fun j hj h1 h2 => ?_, _, rfl⟩
          by_cases e : j = k
          · subst e
            exact HE.out
          · exact HA.out j hj h1 (by omega)
        case measure => simp [intOf]; omega
    · have hltI : ¬ (k : Int) < (ss.length : Int) := by omega
      have hd := Lib.hid (ascB_yes ss (fun j hj h1 => HA.out j hj h1 (by omega)))
      go_wp2
      go_ret
      exact ⟨by rw [hd.out]; rfl, n, rfl⟩

end Go.Proofs.YtlmbnefoobameaaDoor
end
