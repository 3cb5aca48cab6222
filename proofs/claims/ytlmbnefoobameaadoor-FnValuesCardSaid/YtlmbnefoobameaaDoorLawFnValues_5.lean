/- Lemmas: VImplEqual, FormsLaid. -/
import Derived.Test.YtlmbnefoobameaaDoorVImplSize
import Derived.Test.YtlmbnefoobameaaDoorLawFnValues_4
import Derived.Test.YtlmbnefoobameaaDoorRows
import Derived.Test.YtlmbnefoobameaaDoorLawFnValues_3

section
namespace Go.Proofs.YtlmbnefoobameaaDoor.V
set_option maxRecDepth 100000
open Go.RowKit

theorem pl2_array : Tryd.prog.underlying 135 = some (.array 2 124) := by kernel_rfl
theorem pl_size2 : (Tryd.prog.info? 124).map (fun i => i.size) = some 2 := by kernel_rfl

theorem run_sizeOf_pl (w : World) : (sizeOf 124).run Tryd.prog w = .ok 2 w := by
  have h := pl_size2
  cases hi : Tryd.prog.info? 124 with
  | none => rw [hi] at h; cases h
  | some i =>
    rw [hi] at h
    simp at h
    simp [sizeOf, typeInfo, hi, Result.andThen, h]
theorem run_isAgg_pl (w : World) : (isAgg 124).run Tryd.prog w = .ok true w := by
  simp [isAgg, run_underlying pl_struct, Result.andThen]
theorem run_pl2_part0 (w : World) (a b c d : Value) : (part 124 #[a, b, c, d] 0).run Tryd.prog w = .ok (.agg #[a, b]) w := by
  kernel_rfl
theorem run_pl2_part1 (w : World) (a b c d : Value) : (part 124 #[a, b, c, d] 2).run Tryd.prog w = .ok (.agg #[c, d]) w := by
  kernel_rfl

theorem run_pl2_eq (w : World) (d : Nat) (k k' : Pl × Pl) (r1 r2 : Bool) (h1 : (Op.equalIn (d + 2) 124 (plVal k.1) (plVal k'.1)).run Tryd.prog w = .ok r1 w) (h2 : (Op.equalIn (d + 2) 124 (plVal k.2) (plVal k'.2)).run Tryd.prog w = .ok r2 w) :
    (Op.equalIn (d + 3) 135 (pl2Val k) (pl2Val k')).run Tryd.prog w = .ok (r1 && r2) w := by
  rw [plVal_eq, plVal_eq] at h1 h2
  unfold Op.equalIn pl2Val
  simp only [Sem.run_bind, run_underlying pl2_array, Result.andThen_ok, run_sizeOf_pl]
  simp only [Std.Legacy.Range.forIn_eq_forIn_range', Std.Legacy.Range.size, Nat.sub_zero, Nat.add_one_sub_one, Nat.div_one]
  rw [show List.range' 0 2 1 = [0, 1] from rfl]
  cases r1 <;> cases r2 <;> simp [run_pl2_part0, run_pl2_part1, h1, h2, Result.andThen]

theorem pl2_check (w : World) (em : Bool) (n : Nat) (k : Pl × Pl) : (Instr.checkKey em (n + 3) 135 (pl2Val k)).run Tryd.prog w = .ok () w := by
  have h1 := pl_check w em n k.1
  have h2 := pl_check w em n k.2
  rw [plVal_eq] at h1 h2
  unfold Instr.checkKey pl2Val
  simp only [Sem.run_bind, run_underlying pl2_array, Result.andThen_ok]
  simp only [Std.Legacy.Range.forIn_eq_forIn_range', Std.Legacy.Range.size, Nat.sub_zero, Nat.add_one_sub_one, Nat.div_one]
  rw [show List.range' 0 2 1 = [0, 1] from rfl]
  simp [run_pl2_part0, run_pl2_part1, h1, h2, Result.andThen]

/-- Pairs of places as keys. -/
theorem pl2Kit (w1 : World) (B mb : Nat) : KeyKit Tryd.prog 135 pl2Val (PlWd w1 B mb) (Pl2Ok w1 B mb) where
  find := fun w k es => findKey_wide pl2_array rfl w _ es
  check := fun w em k => pl2_check w em 9997 k
  same := fun w k => run_pl2_eq w 9997 k k true true (pl_eq_same w 9997 k.1) (pl_eq_same w 9997 k.2)
  other := fun w k k' hw hk hk' hne => by
    by_cases h1 : k.1 = k'.1
    · have h2 : k.2 ≠ k'.2 := fun e => hne (by rw [Prod.ext_iff]; exact ⟨h1, e⟩)
      have := run_pl2_eq w 9997 k k' true false (by rw [h1]; exact pl_eq_same w 9997 k'.1) (pl_eq_other w 9997 k.2 k'.2 hw hk.2 hk'.2 h2)
      exact this
    · by_cases h2 : k.2 = k'.2
      · exact run_pl2_eq w 9997 k k' false true (pl_eq_other w 9997 k.1 k'.1 hw hk.1 hk'.1 h1) (by rw [h2]; exact pl_eq_same w 9997 k'.2)
      · exact run_pl2_eq w 9997 k k' false false (pl_eq_other w 9997 k.1 k'.1 hw hk.1 hk'.1 h1) (pl_eq_other w 9997 k.2 k'.2 hw hk.2 hk'.2 h2)
  stays := fun w k => stays_agg w _ (by
    intro v hv
    simp at hv
    rcases hv with rfl | rfl | rfl | rfl
    · exact bits_plP _ _
    · exact bits_plN _ _
    · exact bits_plP _ _
    · exact bits_plN _ _)
  inj := fun k k' h => by
    simp [pl2Val] at h
    obtain ⟨h1, h2, h3, h4⟩ := h
    rw [Prod.ext_iff]
    exact ⟨plVal_inj _ _ (by rw [plVal_eq, plVal_eq, h1, h2]), plVal_inj _ _ (by rw [plVal_eq, plVal_eq, h3, h4])⟩

end Go.Proofs.YtlmbnefoobameaaDoor.V

namespace Go.Proofs.YtlmbnefoobameaaDoor.V
set_option maxRecDepth 100000
open Go.RowKit

/-- The same node? -/
def nodesB (a b : Va) : Bool := decide (a.kind = b.kind) && decide (a.num = b.num) && decide (a.name = b.name) && textsB a.labels b.labels

set_option maxHeartbeats 1000000 in
theorem equalNodes_any (a b : Va) (va vb : Value) (w : World) (ha : VaAt w w.heap.size va a) (hb : VaAt w w.heap.size vb b) : Calls Tryd.prog 49 #[va, vb] w (BoolIs (nodesB a b) w) := by
  obtain ⟨L, lc, A, ac, rfl, _, hn, _, hl, _⟩ := ha.open
  obtain ⟨L', lc', A', ac', rfl, _, _, _, hl', _⟩ := hb.open
  obtain ⟨hb0, p0, q0, hs0⟩ := boxes2 w 27 27 #[.int .i64 a.kind, .int .i64 a.num, .string a.name, .slice L a.labels.length lc, .slice A a.args.length ac] #[.int .i64 b.kind, .int .i64 b.num, .string b.name, .slice L' b.labels.length lc', .slice A' b.args.length ac']
  have HE := Lib.hid (slicesEqual_any L L' lc lc' a.labels b.labels _ (hl.up' hb0) (hl'.up' hb0) hn)
  clear ha hb hl hl' hs0 hn
  by_cases hk : a.kind = b.kind
  · have i0 : (a.kind == b.kind) = true := by rw [beq_iff_eq]; exact hk
    by_cases hm : a.num = b.num
    · have i1 : (a.num == b.num) = true := by rw [beq_iff_eq]; exact hm
      by_cases he : a.name = b.name
      · have i2 : (a.name.toList == b.name.toList) = true := by rw [beq_iff_eq, he]
        have hr := Lib.hid (show nodesB a b = textsB a.labels b.labels by unfold nodesB; simp [hk, hm, he])
        clear hk hm he
        go_enter Tryd.func49, Tryd.ntmps49
        go_wp2_with fail
        refine HE.out.mono ?_
        rintro e w1 ⟨rfl, n, rfl⟩
        go_wp2
        go_ret
        exact ⟨by rw [hr.out]; rfl, hb0.trans ⟨rfl, rfl, rfl, Nat.le_refl _, fun _ _ => rfl⟩⟩
      · have i2 : (a.name.toList == b.name.toList) = false := by
          rw [beq_eq_false_iff_ne, ByteArray.toList_eq, ByteArray.toList_eq]
          exact fun e => he (WideShapes.bytes_inj e)
        have hr := Lib.hid (show nodesB a b = false by unfold nodesB; simp [he])
        clear hk hm he
        go_enter Tryd.func49, Tryd.ntmps49
        go_wp2
        go_ret
        exact ⟨by rw [hr.out]; rfl, hb0⟩
    · have i1 : (a.num == b.num) = false := by rw [beq_eq_false_iff_ne]; exact hm
      have hr := Lib.hid (show nodesB a b = false by unfold nodesB; simp [hm])
      clear hk hm
      go_enter Tryd.func49, Tryd.ntmps49
      go_wp2
      go_ret
      exact ⟨by rw [hr.out]; rfl, hb0⟩
  · have i0 : (a.kind == b.kind) = false := by rw [beq_eq_false_iff_ne]; exact hk
    have hr := Lib.hid (show nodesB a b = false by unfold nodesB; simp [hk])
    clear hk
    go_enter Tryd.func49, Tryd.ntmps49
    go_wp2
    go_ret
    exact ⟨by rw [hr.out]; rfl, hb0⟩

end Go.Proofs.YtlmbnefoobameaaDoor.V

namespace Go.Proofs.YtlmbnefoobameaaDoor.V
set_option maxRecDepth 100000
open Go.RowKit

/-- Two trees, and how they lie in cells. -/
structure Pr where
  x : Va
  y : Va
  L : Option Addr
  l : Nat
  A : Option Addr
  a : Nat
  L' : Option Addr
  l' : Nat
  A' : Option Addr
  a' : Nat

def prCells (p : Pr) : List Value := [.int .i64 p.x.kind, .int .i64 p.x.num, .string p.x.name, .slice p.L p.x.labels.length p.l, .slice p.A p.x.args.length p.a, .int .i64 p.y.kind, .int .i64 p.y.num, .string p.y.name, .slice p.L' p.y.labels.length p.l', .slice p.A' p.y.args.length p.a']
def pCells : List Pr → List Value | [] => [] | p :: r => pCells r ++ prCells p
theorem pCells_len : ∀ l : List Pr, (pCells l).length = l.length * 10
  | [] => rfl
  | f :: r => by
    rw [pCells, List.length_append, pCells_len r]
    simp [prCells]
    omega
def pSize : List Pr → Nat | [] => 0 | p :: r => sizeVa p.x + pSize r
theorem pSize_len : ∀ l : List Pr, l.length ≤ pSize l
  | [] => Nat.le_refl _
  | p :: r => by
    have := pSize_len r
    have := sizeVa_eq p.x
    rw [pSize, List.length_cons]
    omega

def PrOk (w1 : World) (B : Nat) (p : Pr) : Prop := VaIn w1 (fun b => b < B) (.agg #[.int .i64 p.x.kind, .int .i64 p.x.num, .string p.x.name, .slice p.L p.x.labels.length p.l, .slice p.A p.x.args.length p.a]) p.x ∧ VaIn w1 (fun b => b < B) (.agg #[.int .i64 p.y.kind, .int .i64 p.y.num, .string p.y.name, .slice p.L' p.y.labels.length p.l', .slice p.A' p.y.args.length p.a']) p.y

/-- At the place P lie the trees l. -/
def PlAt (w1 : World) (B : Nat) (P : Pl) (l : List Va) : Prop := (P = none ∧ l = []) ∨ ∃ g, P = some (g, l.length) ∧ l ≠ [] ∧ VasIn w1 (fun b => b < B) (some ⟨g, 0, none⟩) l
theorem PlAt.uniq {w1 : World} {B : Nat} {P : Pl} {l l' : List Va} (h : PlAt w1 B P l) (h' : PlAt w1 B P l') : l = l' := by
  rcases h with ⟨rfl, rfl⟩ | ⟨g, rfl, h1, h2⟩
  · rcases h' with ⟨_, rfl⟩ | ⟨g', h3, _⟩
    · rfl
    · cases h3
  · rcases h' with ⟨h3, _⟩ | ⟨g', h3, h4, h5⟩
    · cases h3
    · simp at h3
      obtain ⟨rfl, h6⟩ := h3
      exact h2.uniq h5 h6

theorem place_of {w1 : World} {B mb : Nat} (hmb : ∀ (t : TypeId) (cs : Array Value), ¬ Whole1 w1 mb t cs) {A : Option Addr} {ts : List Va} (h : VasIn w1 (fun b => b < B) A ts) (c : Nat) : ∃ P, PlAt w1 B P ts ∧ PlOk w1 B mb P ∧ ∀ W, Calls Tryd.prog 90 #[.slice A ts.length c] W (PlaceRet W P) := by
  by_cases h0 : ts = []
  · subst h0
    exact ⟨none, .inl ⟨rfl, rfl⟩, fun g n e => (by cases e), fun W => placeOf_nil A c W⟩
  · obtain ⟨g, cs, rfl, _, _⟩ := h.addr h0
    exact ⟨some (g, ts.length), .inr ⟨g, rfl, h0, h⟩, okKey hmb h h0 _, fun W => placeOf_some g _ c W (List.length_pos_iff.2 h0)⟩

theorem _root_.Go.Proofs.YtlmbnefoobameaaDoor.VaIn.args_of {w1 : World} {B : Nat} {p0 p1 p2 p3 : Value} {A : Option Addr} {n c : Nat} {t : Va} (h : VaIn w1 (fun b => b < B) (.agg #[p0, p1, p2, p3, .slice A n c]) t) : n = t.args.length ∧ VasIn w1 (fun b => b < B) A t.args := by
  obtain ⟨L, lc, A', ac, gl, hv, _, _, _, _, ha⟩ := h.open
  simp at hv
  obtain ⟨_, _, _, _, rfl, rfl, _⟩ := hv
  obtain ⟨m0, ga', vs', Ss', m1, m2, m3, m4⟩ := ha
  exact ⟨rfl, m0, ga', vs', Ss', m1.imp id fun ⟨a, b, c⟩ => ⟨a, b.1, c⟩, fun i hi b hb => ⟨(m2 i hi b hb).1.1, (m2 i hi b hb).2⟩, m3, m4⟩

/-- Tree i of a slice: its cells. -/
theorem _root_.Go.Proofs.YtlmbnefoobameaaDoor.VasIn.elem3 {w1 : World} {B : Nat} {A : Option Addr} {ts : List Va} (h : VasIn w1 (fun b => b < B) A ts) (i : Nat) (hi : i < ts.length) : ∃ g L lc A' ac, A = some ⟨g, 0, none⟩ ∧ g < B ∧ (∃ t cs, Whole1 w1 g t cs) ∧ w1.cell? ⟨g, i * 5, none⟩ = some (.int .i64 ts[i].kind) ∧ w1.cell? ⟨g, i * 5 + 1, none⟩ = some (.int .i64 ts[i].num) ∧ w1.cell? ⟨g, i * 5 + 2, none⟩ = some (.string ts[i].name) ∧ w1.cell? ⟨g, i * 5 + 3, none⟩ = some (.slice L ts[i].labels.length lc) ∧ w1.cell? ⟨g, i * 5 + 4, none⟩ = some (.slice A' ts[i].args.length ac) ∧ VaIn w1 (fun b => b < B) (.agg #[.int .i64 ts[i].kind, .int .i64 ts[i].num, .string ts[i].name, .slice L ts[i].labels.length lc, .slice A' ts[i].args.length ac]) ts[i] := by
  obtain ⟨hm, ga, vs, Ss, h1, h2, h3, h4⟩ := h
  rcases h1 with rfl | ⟨rfl, h5, h6⟩
  · exact absurd hi (by simp)
  · obtain ⟨L, lc, A', ac, gl, hv, _⟩ := (h4 i hi).open
    have c0 := h6.cell i 0 hi (by omega)
    have c1 := h6.cell i 1 hi (by omega)
    have c2 := h6.cell i 2 hi (by omega)
    have c3 := h6.cell i 3 hi (by omega)
    have c4 := h6.cell i 4 hi (by omega)
    have ht := (h4 i hi).wide fun b hb => (h2 i hi b hb).1
    have h7 : ∃ t cs, Whole1 w1 ga t cs := by
      obtain ⟨cs, h7, _⟩ := h6
      exact ⟨_, cs, h7⟩
    rw [hv] at c0 c1 c2 c3 c4 ht
    exact ⟨ga, L, lc, A', ac, rfl, h5, h7, c0, c1, c2, c3, c4, ht⟩

/-- The state of the comparison. -/
structure Inv2 (w1 : World) (B mb : Nat) (a0 b0 : Va) (wc w : World) (v : Value) (stk : List Pr) (F : Pl × Pl → Option Value) : Prop where
  own : w.ownsRow B 133 10 v stk.length (pCells stk)
  keep : PlWd w1 B mb w
  call : Below wc.heap.size wc w
  known : Known pl2Val (Pl2Ok w1 B mb) w mb F
  ok : ∀ p ∈ stk, PrOk w1 B p
  fwd : (∀ p ∈ stk, p.x = p.y) → a0 = b0
  bwd : a0 = b0 → ∀ p ∈ stk, p.x = p.y
  vals : ∀ k u, F k = some u → u = .bool true
  memo : ∀ P Q l m u, F (P, Q) = some u → PlAt w1 B P l → PlAt w1 B Q m → (∀ p ∈ stk, sizeVa p.x ≤ sizeVas l → p.x = p.y) → l = m
  cnt : pSize stk ≤ 2000000
  size : B ≤ w.heap.size

section
variable {w1 wc w : World} {B mb : Nat} {a0 b0 : Va} {v : Value} {p : Pr} {r stk : List Pr} {F : Pl × Pl → Option Value}

theorem Inv2.below {w' : World} (h : Inv2 w1 B mb a0 b0 wc w v stk F) (hB0 : wc.heap.size ≤ w.heap.size) (hb : Below w.heap.size w w') : Inv2 w1 B mb a0 b0 wc w' v stk F :=
  { h with
    own := owns_keep4 h.own fun g hg => hb.block g (h.own.lt g hg).2
    keep := fun g hg hne => (hb.block g (Nat.lt_of_lt_of_le hg h.size)).trans (h.keep g hg hne)
    call := h.call.trans (hb.mono hB0)
    known := h.known.keep (hb.block mb h.known.lt)
    size := Nat.le_trans h.size hb.size }

theorem same_of (h1 : nodesB p.x p.y = true) (h2 : p.x.args = p.y.args) : p.x = p.y := by
  unfold nodesB textsB at h1
  simp only [Bool.and_eq_true, decide_eq_true_eq] at h1
  exact Va.ext h1.1.1.1 h1.1.1.2 h1.1.2 h1.2 h2

/-- The places are known: the pair is passed by. -/
theorem Inv2.skip {w' : World} {v' : Value} (h : Inv2 w1 B mb a0 b0 wc w v (p :: r) F) (hn : nodesB p.x p.y = true) {P Q : Pl} {u : Value} (hP : PlAt w1 B P p.x.args) (hQ : PlAt w1 B Q p.y.args) (hF : F (P, Q) = some u)
    (hown : w'.ownsRow B 133 10 v' r.length (pCells r)) (hkeep : PlWd w1 B mb w') (hcall : Below wc.heap.size wc w') (hkn : Known pl2Val (Pl2Ok w1 B mb) w' mb F) (hB : B ≤ w'.heap.size) : Inv2 w1 B mb a0 b0 wc w' v' r F := by
  have hsz := sizeVa_eq p.x
  have hp : (∀ q ∈ r, sizeVa q.x ≤ sizeVas p.x.args → q.x = q.y) → p.x = p.y := fun hr => same_of hn (h.memo P Q _ _ u hF hP hQ fun q hq hs => by
    rcases List.mem_cons.1 hq with rfl | hq
    · omega
    · exact hr q hq hs)
  refine { own := hown, keep := hkeep, call := hcall, known := hkn, ok := fun q hq => h.ok q (List.mem_cons_of_mem _ hq), fwd := fun hr => h.fwd fun q hq => ?_, bwd := fun e q hq => h.bwd e q (List.mem_cons_of_mem _ hq), vals := h.vals, memo := fun P' Q' l m u' hF' hl hm hr => h.memo P' Q' l m u' hF' hl hm fun q hq hs => ?_, cnt := by have := h.cnt; rw [pSize] at this; omega, size := hB }
  · rcases List.mem_cons.1 hq with rfl | hq
    · exact hp fun q' hq' _ => hr q' hq'
    · exact hr q hq
  · rcases List.mem_cons.1 hq with rfl | hq
    · exact hp fun q' hq' hs' => hr q' hq' (by omega)
    · exact hr q hq hs

/-- The pairs of the parts, as far as they were laid onto the stack. -/
structure Kids (w1 : World) (B : Nat) (l m : List Va) (k : Nat) (ks : List Pr) : Prop where
  all : ∀ i, (h1 : i < l.length) → (h2 : i < m.length) → i < k → ∃ q ∈ ks, q.x = l[i] ∧ q.y = m[i]
  only : ∀ q ∈ ks, ∃ i, ∃ (h1 : i < l.length) (h2 : i < m.length), q.x = l[i] ∧ q.y = m[i]
  ok : ∀ q ∈ ks, PrOk w1 B q
  size : pSize ks = sizeVas (l.take k)
  len : ks.length = k
theorem Kids.nil (w1 : World) (B : Nat) (l m : List Va) : Kids w1 B l m 0 [] := ⟨fun _ _ _ h => absurd h (Nat.not_lt_zero _), fun q h => absurd h (by simp), fun q h => absurd h (by simp), by simp [pSize, sizeVas], rfl⟩
theorem Kids.snoc {l m : List Va} {k : Nat} {ks : List Pr} (h : Kids w1 B l m k ks) (h1 : k < l.length) (h2 : k < m.length) (q : Pr) (hx : q.x = l[k]) (hy : q.y = m[k]) (hq : PrOk w1 B q) : Kids w1 B l m (k + 1) (q :: ks) := by
  refine ⟨fun i i1 i2 hi => ?_, fun q' hq' => ?_, fun q' hq' => ?_, ?_, by rw [List.length_cons, h.len]⟩
  · by_cases e : i = k
    · subst e
      exact ⟨q, List.mem_cons_self, hx, hy⟩
    · obtain ⟨q', a, b⟩ := h.all i i1 i2 (by omega)
      exact ⟨q', List.mem_cons_of_mem _ a, b⟩
  · rcases List.mem_cons.1 hq' with rfl | hq'
    · exact ⟨k, h1, h2, hx, hy⟩
    · exact h.only q' hq'
  · rcases List.mem_cons.1 hq' with rfl | hq'
    · exact hq
    · exact h.ok q' hq'
  · rw [pSize, h.size, sizeVas_take l k h1, hx]
    omega

/-- The pairs of all parts lie on the stack. -/
theorem Inv2.push {w' : World} {v' : Value} (h : Inv2 w1 B mb a0 b0 wc w v (p :: r) F) (hn : nodesB p.x p.y = true) (hl : p.x.args.length = p.y.args.length) {P Q : Pl} (hP : PlAt w1 B P p.x.args) (hQ : PlAt w1 B Q p.y.args) {ks : List Pr} (hk : Kids w1 B p.x.args p.y.args p.x.args.length ks)
    (hown : w'.ownsRow B 133 10 v' (ks ++ r).length (pCells (ks ++ r))) (hkeep : PlWd w1 B mb w') (hcall : Below wc.heap.size wc w') (hkn : Known pl2Val (Pl2Ok w1 B mb) w' mb (put F (P, Q) (.bool true))) (hB : B ≤ w'.heap.size) : Inv2 w1 B mb a0 b0 wc w' v' (ks ++ r) (put F (P, Q) (.bool true)) := by
  have hsz := sizeVa_eq p.x
  have hkids : (∀ q ∈ ks, q.x = q.y) → p.x.args = p.y.args := fun hq => List.ext_getElem hl fun i i1 i2 => by
    obtain ⟨q, h1, h2, h3⟩ := hk.all i i1 i2 i1
    rw [← h2, ← h3]
    exact hq q h1
  have hsmall : ∀ q ∈ ks, sizeVa q.x ≤ sizeVas p.x.args := fun q hq => by
    obtain ⟨i, i1, i2, h2, _⟩ := hk.only q hq
    rw [h2]
    have h3 := sizeVas_take p.x.args i i1
    have h4 := sizeVas_le p.x.args (i + 1)
    omega
  have happ : ∀ a b : List Pr, pSize (a ++ b) = pSize a + pSize b := fun a b => by
    induction a with
    | nil => simp [pSize]
    | cons x a ih =>
      rw [List.cons_append, pSize, pSize, ih]
      omega
  refine { own := hown, keep := hkeep, call := hcall, known := hkn, ok := fun q hq => ?_, fwd := fun hr => h.fwd fun q hq => ?_, bwd := fun e q hq => ?_, vals := fun k u hu => ?_, memo := fun P' Q' l m u' hF' hl' hm' hr => ?_, cnt := ?_, size := hB }
  · rcases List.mem_append.1 hq with hq | hq
    · exact hk.ok q hq
    · exact h.ok q (List.mem_cons_of_mem _ hq)
  · rcases List.mem_cons.1 hq with rfl | hq
    · exact same_of hn (hkids fun q' hq' => hr q' (List.mem_append.2 (.inl hq')))
    · exact hr q (List.mem_append.2 (.inr hq))
  · rcases List.mem_append.1 hq with hq | hq
    · obtain ⟨i, i1, i2, h2, h3⟩ := hk.only q hq
      have he := h.bwd e p List.mem_cons_self
      rw [h2, h3]
      have : p.x.args[i]? = p.y.args[i]? := by rw [he]
      rw [List.getElem?_eq_getElem i1, List.getElem?_eq_getElem i2] at this
      exact Option.some.inj this
    · exact h.bwd e q (List.mem_cons_of_mem _ hq)
  · by_cases e : k = (P, Q)
    · subst e
      rw [put_same] at hu
      exact (Option.some.inj hu).symm
    · rw [put_other _ _ _ _ e] at hu
      exact h.vals k u hu
  · by_cases e : (P', Q') = (P, Q)
    · cases e
      have e1 := hl'.uniq hP
      have e2 := hm'.uniq hQ
      subst e1 e2
      exact hkids fun q hq => hr q (List.mem_append.2 (.inl hq)) (hsmall q hq)
    · rw [put_other _ _ _ _ e] at hF'
      refine h.memo P' Q' l m u' hF' hl' hm' fun q hq hs => ?_
      rcases List.mem_cons.1 hq with rfl | hq
      · exact same_of hn (hkids fun q' hq' => hr q' (List.mem_append.2 (.inl hq')) (by have := hsmall q' hq'; omega))
      · exact hr q (List.mem_append.2 (.inr hq)) hs
  · have h1 := h.cnt
    rw [pSize] at h1
    rw [happ, hk.size, List.take_length]
    omega

end

/-- The row's last cells. -/
theorem row_topN {w : World} {B n : Nat} {T : TypeId} {v : Value} {xs : List Value} {a0 a1 a2 a3 a4 a5 a6 a7 a8 a9 : Value} (h : w.ownsRow B T 10 v (n + 1) (xs ++ [a0, a1, a2, a3, a4, a5, a6, a7, a8, a9])) (hx : xs.length = n * 10) :
    ∃ q cap cur, v = .slice (some ⟨q, 0, none⟩) (n + 1) cap ∧ B ≤ q ∧ Whole1 w q T cur ∧ n + 1 ≤ cap ∧ w.ownsRow B T 10 (.slice (some ⟨q, 0, none⟩) n cap) n xs ∧ cur[n * 10]? = some a0 ∧ cur[n * 10 + 1]? = some a1 ∧ cur[n * 10 + 2]? = some a2 ∧ cur[n * 10 + 3]? = some a3 ∧ cur[n * 10 + 4]? = some a4 ∧ cur[n * 10 + 5]? = some a5 ∧ cur[n * 10 + 6]? = some a6 ∧ cur[n * 10 + 7]? = some a7 ∧ cur[n * 10 + 8]? = some a8 ∧ cur[n * 10 + 9]? = some a9 := by
  rcases h.2 with ⟨_, h0⟩ | ⟨q, cap, cur, rfl, h2, h3, h4, h5, h6, h7⟩
  · omega
  · have hi : ∀ i, i < (n + 1) * 10 → cur[i]? = (xs ++ [a0, a1, a2, a3, a4, a5, a6, a7, a8, a9])[i]? := fun i hi => by
      rw [← h7, List.getElem?_take, if_pos hi]
      simp
    have htk : cur.toList.take (n * 10) = xs := by
      have : cur.toList.take (n * 10) = (cur.toList.take ((n + 1) * 10)).take (n * 10) := by rw [List.take_take, Nat.min_eq_left (by omega)]
      rw [this, h7, List.take_append_of_le_length (by omega), ← hx, List.take_length]
    have hc : ∀ j, j < 10 → cur[n * 10 + j]? = [a0, a1, a2, a3, a4, a5, a6, a7, a8, a9][j]? := fun j hj => by
      rw [hi _ (by omega), List.getElem?_append_right (by omega), hx, show n * 10 + j - n * 10 = j by omega]
    exact ⟨q, cap, cur, rfl, h2, h3, h4, ⟨hx, .inr ⟨q, cap, cur, rfl, h2, h3, by omega, h5, h6, htk⟩⟩, hc 0 (by omega), hc 1 (by omega), hc 2 (by omega), hc 3 (by omega), hc 4 (by omega), hc 5 (by omega), hc 6 (by omega), hc 7 (by omega), hc 8 (by omega), hc 9 (by omega)⟩

end Go.Proofs.YtlmbnefoobameaaDoor.V

namespace Go.Proofs.YtlmbnefoobameaaDoor.V
set_option maxRecDepth 100000
open Go.RowKit

/-- At the start. -/
theorem Inv2.start {wc w3 w1 : World} {a b : Va} {p : Pr} (hx : p.x = a) (hy : p.y = b) (hp : PrOk wc wc.heap.size p) (hsz : sizeVa a ≤ 2000000) (hb3 : Below wc.heap.size wc w3) (hs3 : w3.heap.size = wc.heap.size + 2)
    (hw1 : (w3.alloc (.map #[] 0)).alloc (.cells (prCells p).toArray 133) = w1) :
    Inv2 w1 (wc.heap.size + 3) (wc.heap.size + 2) a b wc w1 (.slice (some ⟨wc.heap.size + 2 + 1, 0, none⟩) 1 1) [p] (fun _ => none) := by
  have hs4 : (w3.alloc (.map #[] 0)).heap.size = wc.heap.size + 3 := by simp [hs3]
  have hb1 : Below w3.heap.size w3 w1 := by
    rw [← hw1]
    exact ((Below.refl _ _).alloc (Nat.le_refl _) _).alloc (by simp) _
  have hs1 : w1.heap.size = wc.heap.size + 4 := by rw [← hw1]; simp [hs3]
  have hcall : Below wc.heap.size wc w1 := hb3.trans (hb1.mono (by omega))
  have hmap : w1.heap[wc.heap.size + 2]? = some (.map #[] 0) := by
    rw [← hw1]
    refine (Below.heap_alloc _ _ _ (by omega)).trans ?_
    have := heap_alloc_new w3 (.map #[] 0)
    rw [hs3] at this
    exact this
  have htop : Whole1 w1 (wc.heap.size + 3) 133 (prCells p).toArray := by
    rw [← hw1]
    have := Whole1.new (w3.alloc (.map #[] 0)) 133 (prCells p).toArray
    rw [hs4] at this
    exact this
  have hok : PrOk w1 (wc.heap.size + 3) p := ⟨(hp.1.keep fun b hb _ => hcall.block b hb).wide fun b hb => by omega, (hp.2.keep fun b hb _ => hcall.block b hb).wide fun b hb => by omega⟩
  refine { own := ⟨rfl, .inr ⟨wc.heap.size + 3, 1, _, rfl, Nat.le_refl _, htop, Nat.le_refl _, by decide, rfl, rfl⟩⟩, keep := fun _ _ _ => rfl, call := hcall, known := ⟨#[], 0, hmap, fun e he => absurd he (by simp), fun k v h => (by cases h), List.Pairwise.nil⟩, ok := ?_, fwd := ?_, bwd := ?_, vals := fun _ _ h => (by cases h), memo := fun _ _ _ _ _ h => (by cases h), cnt := by simp [pSize, hx]; exact hsz, size := by omega }
  · intro q hq
    have : q = p := by simpa using hq
    rw [this]
    exact hok
  · intro h
    rw [← hx, ← hy]
    exact h p (by simp)
  · intro e q hq
    have : q = p := by simpa using hq
    rw [this, hx, hy]
    exact e

theorem _root_.Go.Proofs.YtlmbnefoobameaaDoor.VaIn.cellsOnly {w : World} {S : Nat → Prop} {v : Value} {t : Va} (h : VaIn w S v t) : VaIn w (fun b => S b ∧ ∃ t cs, Whole1 w b t cs) v t := by
  induction h with
  | mk gl ga vs Ss hnm hn hz hm hls hes hne hsub hdis _ ih =>
    refine .mk gl ga vs (fun i b => Ss i b ∧ ∃ t cs, Whole1 w b t cs) hnm hn hz hm (hls.imp id fun ⟨h1, h2, h3⟩ => ⟨h1, ⟨h2, ?_⟩, h3⟩) (hes.imp id fun ⟨h1, h2, h3⟩ => ⟨h1, ⟨h2, ?_⟩, h3⟩) hne (fun i hi b hb => ⟨⟨(hsub i hi b hb.1).1, hb.2⟩, (hsub i hi b hb.1).2⟩) (fun i j hi hj hij b hb hb' => hdis i j hi hj hij b hb.1 hb'.1) ih
    · obtain ⟨cs, h4, _⟩ := h3
      exact ⟨_, cs, h4⟩
    · obtain ⟨cs, h4, _⟩ := h3
      exact ⟨_, cs, h4⟩
theorem _root_.Go.Proofs.YtlmbnefoobameaaDoor.VaIn.move {w1 w' : World} {B mb : Nat} {v : Value} {t : Va} (h : VaIn w1 (fun b => b < B) v t) (hmb : ∀ (t : TypeId) (cs : Array Value), ¬ Whole1 w1 mb t cs) (hk : PlWd w1 B mb w') : VaAt w' w'.heap.size v t :=
  (h.cellsOnly.keep fun b hb _ => hk b hb.1 fun e => by
    obtain ⟨_, t, cs, h1⟩ := hb
    exact hmb t cs (e ▸ h1)).here

theorem infoPair : (Tryd.prog.info? 133).map (fun i => (i.zero, i.size, i.bytes)) = some (some (.agg #[.int .i64 0, .int .i64 0, .string ⟨#[]⟩, .slice none 0 0, .slice none 0 0, .int .i64 0, .int .i64 0, .string ⟨#[]⟩, .slice none 0 0, .slice none 0 0]), 10, 160) := by kernel_rfl
theorem newsN (w : World) (t : TypeId) (p : Pr) : CellsAt (w.alloc (.cells (prCells p).toArray t)) (some ⟨w.heap.size, 0, none⟩) (prCells p) := by
  refine .inr ⟨_, rfl, fun j u hj => ?_⟩
  rw [WideShapes.add_plain, World.cell?_alloc_at _ _ _ _ rfl, Nat.zero_add]
  simpa using hj
theorem onesN (p : Pr) : ∀ u ∈ prCells p, u.oneCell' = true := by
  intro u hu
  simp [prCells] at hu
  rcases hu with rfl | rfl | rfl | rfl | rfl | rfl | rfl | rfl | rfl | rfl <;> rfl
theorem pSize_append : ∀ a b : List Pr, pSize (a ++ b) = pSize a + pSize b
  | [], b => by simp [pSize]
  | x :: a, b => by
    rw [List.cons_append, pSize, pSize, pSize_append a b]
    omega

/-- The state within a round. -/
structure Mid (w1 : World) (B mb : Nat) (wc w : World) (v : Value) (n : Nat) (xs : List Value) (F : Pl × Pl → Option Value) : Prop where
  own : w.ownsRow B 133 10 v n xs
  keep : PlWd w1 B mb w
  call : Below wc.heap.size wc w
  known : Known pl2Val (Pl2Ok w1 B mb) w mb F
  size : B ≤ w.heap.size
theorem Mid.below {w1 wc w w' : World} {B mb n : Nat} {v : Value} {xs : List Value} {F : Pl × Pl → Option Value} (h : Mid w1 B mb wc w v n xs F) (hb : Below w.heap.size w w') : Mid w1 B mb wc w' v n xs F :=
  { own := owns_keep4 h.own fun g hg => hb.block g (h.own.lt g hg).2
    keep := fun g hg hne => (hb.block g (Nat.lt_of_lt_of_le hg h.size)).trans (h.keep g hg hne)
    call := h.call.trans (hb.mono h.call.size)
    known := h.known.keep (hb.block mb h.known.lt)
    size := Nat.le_trans h.size hb.size }

set_option maxHeartbeats 4000000 in
theorem equalTrees_any (a b : Va) (va vb : Value) (w : World) (ha : OwnV w va a) (hb : OwnV w vb b) (hsz : sizeVa a ≤ 2000000) :
    Calls Tryd.prog 48 #[va, vb, .func (.func 47) #[] #[], .func (.func 49) #[] #[]] w (BoolIs (eqVaB a b) w) := by
  obtain ⟨L, lc, A, ac, rfl, _⟩ := ha.open
  obtain ⟨L', lc', A', ac', rfl, _⟩ := hb.open
  obtain ⟨S, hva, hSa⟩ := ha
  obtain ⟨S', hvb, hSb⟩ := hb
  have hmm := @run_makeMap Tryd.prog
  obtain ⟨hb2, p2, r2, hs2⟩ := boxes2 w 27 27 #[.int .i64 a.kind, .int .i64 a.num, .string a.name, .slice L a.labels.length lc, .slice A a.args.length ac] #[.int .i64 b.kind, .int .i64 b.num, .string b.name, .slice L' b.labels.length lc', .slice A' b.args.length ac']
  have HP0 : Hid (PrOk w w.heap.size ⟨a, b, L, lc, A, ac, L', lc', A', ac'⟩) := Lib.hid ⟨hva.wide fun b h => hSa b h, hvb.wide fun b h => hSb b h⟩
  clear hva hvb hSa hSb
  go_enter Tryd.func48, Tryd.ntmps48
  go_upto_region 1 with fail
  generalize (w.alloc (.cells #[.int .i64 a.kind, .int .i64 a.num, .string a.name, .slice L a.labels.length lc, .slice A a.args.length ac] 27)).alloc (.cells #[.int .i64 b.kind, .int .i64 b.num, .string b.name, .slice L' b.labels.length lc', .slice A' b.args.length ac'] 27) = w2 at *
  have q0 : w2.cell? ⟨w.heap.size, 0, none⟩ = some (.int .i64 a.kind) := p2.cell 0
  have q1 : w2.cell? ⟨w.heap.size, 1, none⟩ = some (.int .i64 a.num) := p2.cell 1
  have q2 : w2.cell? ⟨w.heap.size, 2, none⟩ = some (.string a.name) := p2.cell 2
  have q3 : w2.cell? ⟨w.heap.size, 3, none⟩ = some (.slice L a.labels.length lc) := p2.cell 3
  have q4 : w2.cell? ⟨w.heap.size, 4, none⟩ = some (.slice A a.args.length ac) := p2.cell 4
  have q5 : w2.cell? ⟨w.heap.size + 1, 0, none⟩ = some (.int .i64 b.kind) := r2.cell 0
  have q6 : w2.cell? ⟨w.heap.size + 1, 1, none⟩ = some (.int .i64 b.num) := r2.cell 1
  have q7 : w2.cell? ⟨w.heap.size + 1, 2, none⟩ = some (.string b.name) := r2.cell 2
  have q8 : w2.cell? ⟨w.heap.size + 1, 3, none⟩ = some (.slice L' b.labels.length lc') := r2.cell 3
  have q9 : w2.cell? ⟨w.heap.size + 1, 4, none⟩ = some (.slice A' b.args.length ac') := r2.cell 4
  clear p2 r2
  go_wp2
  generalize hw1 : (w2.alloc (.map #[] 0)).alloc _ = w1
  have hstart := Inv2.start rfl rfl HP0.out hsz hb2 hs2 hw1
  have hs1 : w1.heap.size = w.heap.size + 4 := by rw [← hw1]; simp [hs2]
  have hmb : ∀ (t : TypeId) (cs : Array Value), ¬ Whole1 w1 (w.heap.size + 2) t cs := by
    obtain ⟨es, clock, h1, _⟩ := hstart.known
    intro t cs h
    unfold Whole1 at h
    rw [h1] at h
    cases h
  have HMB := Lib.hid hmb
  clear HP0 hw1 hb2 hs2 q0 q1 q2 q3 q4 q5 q6 q7 q8 q9 hmb hmm
  go_loopg [10] (pSize [⟨a, b, L, lc, A, ac, L', lc', A', ac'⟩]) (fun gn v wr => ∃ stk F, Inv2 w1 (w.heap.size + 3) (w.heap.size + 2) a b w wr v stk F ∧ pSize stk = gn)
  case atStart => exact ⟨_, _, hstart, rfl⟩
  case round =>
    clear hstart
    obtain ⟨stk, F, hI, hmu⟩ := hrel
    cases stk with
    | nil =>
      have hr := Lib.hid (eqVaB_yes (hI.fwd (by simp)))
      have hc := Lib.hid hI.call
      have hv : ∃ B c, u10 = .slice B 0 c := by
        rcases hI.own.2 with ⟨rfl, _⟩ | ⟨g, cap, cur, rfl, _⟩
        · exact ⟨_, _, rfl⟩
        · exact ⟨_, _, rfl⟩
      obtain ⟨B, c, rfl⟩ := hv
      clear hI hmu
      go_wp2
      go_ret
      exact ⟨by rw [hr.out]; rfl, hc.out⟩
    | cons p r =>
      have HI := Lib.hid hI
      have HMU := Lib.hid hmu
      have hok := hI.ok p (by simp)
      have hcnt := hI.cnt
      rw [pSize] at hcnt
      have hrl := pSize_len r
      have hwz := hI.size
      have hcz := hI.call.size
      obtain ⟨q, cap, cur, rfl, hq, hW, hcap, hown, d0, d1, d2, d3, d4, d5, d6, d7, d8, d9⟩ := row_topN hI.own (pCells_len r)
      have HOWN := Lib.hid hown
      have HOK := Lib.hid hok
      have hql := hW.lt
      obtain ⟨n, hn⟩ : ∃ n, n = r.length := ⟨_, rfl⟩
      have HN := Lib.hid hn
      rw [← hn] at d0 d1 d2 d3 d4 d5 d6 d7 d8 d9 hcap hrl ⊢
      have e0 : wr.cell? ⟨q, n * 10, none⟩ = some (.int .i64 p.x.kind) := (hW.cell _).trans d0
      have e1 : wr.cell? ⟨q, n * 10 + 1, none⟩ = some (.int .i64 p.x.num) := (hW.cell _).trans d1
      have e2 : wr.cell? ⟨q, n * 10 + 2, none⟩ = some (.string p.x.name) := (hW.cell _).trans d2
      have e3 : wr.cell? ⟨q, n * 10 + 3, none⟩ = some (.slice p.L p.x.labels.length p.l) := (hW.cell _).trans d3
      have e4 : wr.cell? ⟨q, n * 10 + 4, none⟩ = some (.slice p.A p.x.args.length p.a) := (hW.cell _).trans d4
      have e5 : wr.cell? ⟨q, n * 10 + 5, none⟩ = some (.int .i64 p.y.kind) := (hW.cell _).trans d5
      have e6 : wr.cell? ⟨q, n * 10 + 6, none⟩ = some (.int .i64 p.y.num) := (hW.cell _).trans d6
      have e7 : wr.cell? ⟨q, n * 10 + 7, none⟩ = some (.string p.y.name) := (hW.cell _).trans d7
      have e8 : wr.cell? ⟨q, n * 10 + 8, none⟩ = some (.slice p.L' p.y.labels.length p.l') := (hW.cell _).trans d8
      have e9 : wr.cell? ⟨q, n * 10 + 9, none⟩ = some (.slice p.A' p.y.args.length p.a') := (hW.cell _).trans d9
      have hlt0 : (n : Int) < (n : Int) + 1 := by omega
      have hlt1 : (n : Int) + 1 > 0 := by omega
      have hnc : (n : Int) ≤ (cap : Int) := by omega
      clear hI hmu hown hok hW d0 d1 d2 d3 d4 d5 d6 d7 d8 d9 hn
      have hM : Hid (Mid w1 (w.heap.size + 3) (w.heap.size + 2) w wr (.slice (some ⟨q, 0, none⟩) n cap) n (pCells r) F) := Lib.hid ⟨by have := HOWN.out; rw [← HN.out] at this; exact this, HI.out.keep, HI.out.call, HI.out.known, HI.out.size⟩
      go_upto_region 6 with fail
      have hbx := (Below.refl wr.heap.size wr).alloc (Nat.le_refl _) (.cells #[.int .i64 p.x.kind, .int .i64 p.x.num, .string p.x.name, .slice p.L p.x.labels.length p.l, .slice p.A p.x.args.length p.a, .int .i64 p.y.kind, .int .i64 p.y.num, .string p.y.name, .slice p.L' p.y.labels.length p.l', .slice p.A' p.y.args.length p.a'] 133)
      have MA := Lib.hid (hM.out.below hbx)
      have hPB := Whole1.new wr 133 #[.int .i64 p.x.kind, .int .i64 p.x.num, .string p.x.name, .slice p.L p.x.labels.length p.l, .slice p.A p.x.args.length p.a, .int .i64 p.y.kind, .int .i64 p.y.num, .string p.y.name, .slice p.L' p.y.labels.length p.l', .slice p.A' p.y.args.length p.a']
      clear e0 e1 e2 e3 e4 e5 e6 e7 e8 e9 hbx hM
      generalize wr.alloc (.cells #[.int .i64 p.x.kind, .int .i64 p.x.num, .string p.x.name, .slice p.L p.x.labels.length p.l, .slice p.A p.x.args.length p.a, .int .i64 p.y.kind, .int .i64 p.y.num, .string p.y.name, .slice p.L' p.y.labels.length p.l', .slice p.A' p.y.args.length p.a'] 133) = wa at *
      have hpbl := hPB.lt
      have k0 : wa.cell? ⟨wr.heap.size, 0, none⟩ = some (.int .i64 p.x.kind) := hPB.cell 0
      have k1 : wa.cell? ⟨wr.heap.size, 1, none⟩ = some (.int .i64 p.x.num) := hPB.cell 1
      have k2 : wa.cell? ⟨wr.heap.size, 2, none⟩ = some (.string p.x.name) := hPB.cell 2
      have k3 : wa.cell? ⟨wr.heap.size, 3, none⟩ = some (.slice p.L p.x.labels.length p.l) := hPB.cell 3
      have k4 : wa.cell? ⟨wr.heap.size, 4, none⟩ = some (.slice p.A p.x.args.length p.a) := hPB.cell 4
      have k5 : wa.cell? ⟨wr.heap.size, 5, none⟩ = some (.int .i64 p.y.kind) := hPB.cell 5
      have k6 : wa.cell? ⟨wr.heap.size, 6, none⟩ = some (.int .i64 p.y.num) := hPB.cell 6
      have k7 : wa.cell? ⟨wr.heap.size, 7, none⟩ = some (.string p.y.name) := hPB.cell 7
      have k8 : wa.cell? ⟨wr.heap.size, 8, none⟩ = some (.slice p.L' p.y.labels.length p.l') := hPB.cell 8
      have k9 : wa.cell? ⟨wr.heap.size, 9, none⟩ = some (.slice p.A' p.y.args.length p.a') := hPB.cell 9
      have ed := (Below.refl wa.heap.size wa).drew
      have keepf : ∀ x, Below wa.heap.size wa x → x.cell? ⟨wr.heap.size, 0, none⟩ = some (.int .i64 p.x.kind) ∧ x.cell? ⟨wr.heap.size, 1, none⟩ = some (.int .i64 p.x.num) ∧ x.cell? ⟨wr.heap.size, 2, none⟩ = some (.string p.x.name) ∧ x.cell? ⟨wr.heap.size, 3, none⟩ = some (.slice p.L p.x.labels.length p.l) ∧ x.cell? ⟨wr.heap.size, 4, none⟩ = some (.slice p.A p.x.args.length p.a) ∧ x.cell? ⟨wr.heap.size, 5, none⟩ = some (.int .i64 p.y.kind) ∧ x.cell? ⟨wr.heap.size, 6, none⟩ = some (.int .i64 p.y.num) ∧ x.cell? ⟨wr.heap.size, 7, none⟩ = some (.string p.y.name) ∧ x.cell? ⟨wr.heap.size, 8, none⟩ = some (.slice p.L' p.y.labels.length p.l') ∧ x.cell? ⟨wr.heap.size, 9, none⟩ = some (.slice p.A' p.y.args.length p.a') := fun x hx =>
        ⟨(hx.cell (p := ⟨wr.heap.size, 0, none⟩) hpbl).trans k0, (hx.cell (p := ⟨wr.heap.size, 1, none⟩) hpbl).trans k1, (hx.cell (p := ⟨wr.heap.size, 2, none⟩) hpbl).trans k2, (hx.cell (p := ⟨wr.heap.size, 3, none⟩) hpbl).trans k3, (hx.cell (p := ⟨wr.heap.size, 4, none⟩) hpbl).trans k4, (hx.cell (p := ⟨wr.heap.size, 5, none⟩) hpbl).trans k5, (hx.cell (p := ⟨wr.heap.size, 6, none⟩) hpbl).trans k6, (hx.cell (p := ⟨wr.heap.size, 7, none⟩) hpbl).trans k7, (hx.cell (p := ⟨wr.heap.size, 8, none⟩) hpbl).trans k8, (hx.cell (p := ⟨wr.heap.size, 9, none⟩) hpbl).trans k9⟩
      have KF := Lib.hid keepf
      obtain ⟨j0, j1, j2, j3, j4, j5, j6, j7, j8, j9⟩ := keepf wa.drew ed
      clear keepf
      go_region_held3 (fun x => x.cell? ⟨wr.heap.size, 0, none⟩ = some (.int .i64 p.x.kind) ∧ x.cell? ⟨wr.heap.size, 1, none⟩ = some (.int .i64 p.x.num) ∧ x.cell? ⟨wr.heap.size, 2, none⟩ = some (.string p.x.name) ∧ x.cell? ⟨wr.heap.size, 3, none⟩ = some (.slice p.L p.x.labels.length p.l) ∧ x.cell? ⟨wr.heap.size, 4, none⟩ = some (.slice p.A p.x.args.length p.a) ∧ x.cell? ⟨wr.heap.size, 5, none⟩ = some (.int .i64 p.y.kind) ∧ x.cell? ⟨wr.heap.size, 6, none⟩ = some (.int .i64 p.y.num) ∧ x.cell? ⟨wr.heap.size, 7, none⟩ = some (.string p.y.name) ∧ x.cell? ⟨wr.heap.size, 8, none⟩ = some (.slice p.L' p.y.labels.length p.l') ∧ x.cell? ⟨wr.heap.size, 9, none⟩ = some (.slice p.A' p.y.args.length p.a') ∧ Below wa.heap.size wa x)
        (first | (with_reducible exact ⟨j0, j1, j2, j3, j4, j5, j6, j7, j8, j9, ed⟩) | (with_reducible exact ⟨m0, m1, m2, m3, m4, m5, m6, m7, m8, m9, hbB⟩) | (with_reducible exact ⟨n0, n1, n2, n3, n4, n5, n6, n7, n8, n9, hbA⟩))
        (first | (go_at_call 47; refine (argsOf_any _ _ _ _ _ _).mono ?_; rintro e wA ⟨rfl, hb1⟩; have hbA := ed.trans hb1; obtain ⟨n0, n1, n2, n3, n4, n5, n6, n7, n8, n9⟩ := KF.out wA hbA) | (go_at_call 47; refine (argsOf_any _ _ _ _ _ _).mono ?_; rintro e wB ⟨rfl, hb2⟩; have hbB := hbA.trans (hb2.mono hbA.size); obtain ⟨m0, m1, m2, m3, m4, m5, m6, m7, m8, m9⟩ := KF.out wB hbB))
      clear j0 j1 j2 j3 j4 j5 j6 j7 j8 j9 k0 k1 k2 k3 k4 k5 k6 k7 k8 k9 n0 n1 n2 n3 n4 n5 n6 n7 n8 n9
      have MB := Lib.hid (MA.out.below hbB)
      have hPB2 := hPB.below hbB hpbl
      clear hbA hb1 hb2 hPB hpbl KF MA ed hbB
      have hpbl := hPB2.lt
      have ht1 := HOK.out.1.move HMB.out MB.out.keep
      have ht2 := HOK.out.2.move HMB.out MB.out.keep
      have HEQ := Lib.hid (equalNodes_any p.x p.y _ _ wB ht1 ht2)
      clear ht1 ht2
      have hlm := HOK.out.1.args_of.2.1
      unfold maxLen at hlm
      cases hnb : nodesB p.x p.y
      · rw [hnb] at HEQ
        have hr := Lib.hid (show eqVaB a b = false by
          apply eqVaB_no
          intro e
          have h1 := HI.out.bwd e p (by simp)
          rw [h1] at hnb
          unfold nodesB textsB at hnb
          simp at hnb)
        clear hnb
        go_wp2_with fail
        refine HEQ.out.mono ?_
        rintro e wC ⟨rfl, hb3⟩
        have hcall := MB.out.call
        go_wp2
        go_ret
        exact ⟨by rw [hr.out]; rfl, hcall.trans (hb3.mono hcall.size)⟩
      · rw [hnb] at HEQ
        have HNB := Lib.hid hnb
        clear hnb
        by_cases hl : p.x.args.length = p.y.args.length
        · have hneq : ((p.x.args.length : Int) != (p.y.args.length : Int)) = false := by rw [bne_eq_false_iff_eq]; omega
          have HL := Lib.hid hl
          obtain ⟨P, hP, hPok, hPc⟩ := place_of HMB.out HOK.out.1.args_of.2 p.a
          obtain ⟨Q, hQ, hQok, hQc⟩ := place_of HMB.out HOK.out.2.args_of.2 p.a'
          obtain ⟨o1, m1, ho1, hm1⟩ := plP_form P
          obtain ⟨o2, m2, ho2, hm2⟩ := plP_form Q
          have hkey := Lib.hid (show pl2Val (P, Q) = .agg #[.pointer o1, .int .i64 m1, .pointer o2, .int .i64 m2] by unfold pl2Val; rw [ho1, hm1, ho2, hm2])
          have hv1 := Lib.hid (show plVal P = .agg #[.pointer o1, .int .i64 m1] by rw [plVal_eq, ho1, hm1])
          have hv2 := Lib.hid (show plVal Q = .agg #[.pointer o2, .int .i64 m2] by rw [plVal_eq, ho2, hm2])
          clear ho1 hm1 ho2 hm2
          have HPC := Lib.hid hPc
          have HQC := Lib.hid hQc
          have HPA := Lib.hid hP
          have HQA := Lib.hid hQ
          have HPO := Lib.hid hPok
          have HQO := Lib.hid hQok
          clear hl hP hPok hPc hQ hQok hQc
          go_wp2_with fail
          refine HEQ.out.mono ?_
          rintro e wC ⟨rfl, hb3⟩
          have MC := Lib.hid (MB.out.below hb3)
          clear MB hb3 hPB2 hpbl HEQ
          go_wp2_with fail
          refine (HPC.out wC).mono ?_
          rintro e wD ⟨rfl, hb4⟩
          rw [hv1.out]
          have MD := Lib.hid (MC.out.below hb4)
          clear MC hb4
          go_wp2_with fail
          refine (HQC.out wD).mono ?_
          rintro e wE ⟨rfl, hb5⟩
          rw [hv2.out]
          have ME := Lib.hid (MD.out.below hb5)
          clear MD hb5
          go_upto_region 10 with fail
          have hb6 := (Below.refl wE.heap.size wE).alloc (Nat.le_refl _) (.cells #[.pointer o1, .int .i64 m1, .pointer o2, .int .i64 m2] 135)
          have hM6 := ME.out.below hb6
          have hKB := Whole1.new wE 135 #[.pointer o1, .int .i64 m1, .pointer o2, .int .i64 m2]
          clear ME hb6
          generalize wE.alloc (.cells #[.pointer o1, .int .i64 m1, .pointer o2, .int .i64 m2] 135) = w6 at *
          have g0 : w6.cell? ⟨wE.heap.size, 0, none⟩ = some (.pointer o1) := hKB.cell 0
          have g1 : w6.cell? ⟨wE.heap.size, 1, none⟩ = some (.int .i64 m1) := hKB.cell 1
          have g2 : w6.cell? ⟨wE.heap.size, 2, none⟩ = some (.pointer o2) := hKB.cell 2
          have g3 : w6.cell? ⟨wE.heap.size, 3, none⟩ = some (.int .i64 m2) := hKB.cell 3
          have hz : (zeroValue 4).run Tryd.prog w6 = .ok (.bool false) w6 := by kernel_rfl
          have hlook := hM6.known.look1 (pl2Kit w1 (w.heap.size + 3) (w.heap.size + 2)) Tryd.underlying132 hz hM6.keep (k := (P, Q)) ⟨HPO.out, HQO.out⟩
          rw [hkey.out] at hlook
          have M6 := Lib.hid hM6
          clear hz hM6
          cases hF : F (P, Q) with
          | some u =>
            have hu := HI.out.vals _ _ hF
            subst hu
            have HFK := Lib.hid hF
            rw [hF] at hlook
            have hl2 : (Instr.lookup 132 (.map (some (w.heap.size + 2))) (.agg #[.pointer o1, .int .i64 m1, .pointer o2, .int .i64 m2]) false).run Tryd.prog w6 = .ok (.bool true) w6 := hlook
            clear hlook hF hKB
            go_wp2
            go_roundg (pSize r)
            case measure =>
              have := sizeVa_eq p.x
              rw [← HMU.out, pSize]
              omega
            case rel =>
              have hM := M6.out
              exact ⟨r, F, HI.out.skip HNB.out HPA.out HQA.out HFK.out (by have := hM.own; rw [HN.out] at this ⊢; exact this) hM.keep hM.call hM.known hM.size, rfl⟩
          | none =>
            rw [hF] at hlook
            have hl2 : (Instr.lookup 132 (.map (some (w.heap.size + 2))) (.agg #[.pointer o1, .int .i64 m1, .pointer o2, .int .i64 m2]) false).run Tryd.prog w6 = .ok (.bool false) w6 := hlook
            obtain ⟨w7, hrun7, hkn7, ho7⟩ := M6.out.known.store (pl2Kit w1 (w.heap.size + 3) (w.heap.size + 2)) Tryd.underlying132 M6.out.keep (k := (P, Q)) ⟨HPO.out, HQO.out⟩ (.bool true)
            rw [hkey.out] at hrun7
            have hM7 : Hid (Mid w1 (w.heap.size + 3) (w.heap.size + 2) w w7 (.slice (some ⟨q, 0, none⟩) n cap) n (pCells r) (put F (P, Q) (.bool true))) := Lib.hid {
              own := owns_keep4 M6.out.own fun g hg => ho7.1.block g (M6.out.own.lt g hg).2 (fun e => by have := (M6.out.own.lt g hg).1; injection e with e; omega)
              keep := fun g hg hne => (ho7.1.block g (Nat.lt_of_lt_of_le hg M6.out.size) (fun e => hne (Option.some.inj e))).trans (M6.out.keep g hg hne)
              call := M6.out.call.grown ho7.1 M6.out.call.size (fun k hk => by cases hk; omega)
              known := hkn7
              size := by have := M6.out.size; have := ho7.2; omega }
            clear hlook hF hkn7 ho7 M6 hKB
            obtain ⟨i1, hi1, hy0, hy1, hy2⟩ := info_parts infoPair
            have HXA := Lib.hid HOK.out.1.args_of.2
            have HYA := Lib.hid HOK.out.2.args_of.2
            have hpx := sizeVa_eq p.x
            go_upto_region 12 with fail
            clear hl2 hrun7 g0 g1 g2 g3
            go_wp2
            go_loopw [10, 69] (fun v i wr => ∃ (k : Nat) (ks : List Pr), k ≤ p.x.args.length ∧ i = .int .i64 k ∧ Kids w1 (w.heap.size + 3) p.x.args p.y.args k ks ∧ Mid w1 (w.heap.size + 3) (w.heap.size + 2) w wr v (ks ++ r).length (pCells (ks ++ r)) (put F (P, Q) (.bool true))) (fun _ i _ => p.x.args.length - (intOf i).toNat)
            case atStart => exact ⟨0, [], Nat.zero_le _, rfl, Kids.nil _ _ _ _, by have := hM7.out; rw [HN.out] at this ⊢; exact this⟩
            case round =>
              obtain ⟨k, ks, hk, rfl, hkids, hmid⟩ := hrel
              have HKS := Lib.hid hkids
              have HMD := Lib.hid hmid
              have hksl : (ks ++ r).length = k + n := by rw [List.length_append, hkids.len, HN.out]
              have hkm := sizeVas_le p.x.args k
              have hksz := hkids.size
              have hkl := pSize_len ks
              have hkl2 := hkids.len
              clear hkids hmid
              by_cases hlt : k < p.x.args.length
              · have hlt2 : k < p.y.args.length := by have := HL.out; omega
                have i3 : (k : Int) < (p.x.args.length : Int) := by omega
                have i4 : (k : Int) < (p.y.args.length : Int) := by omega
                obtain ⟨g1, M1, mc1, N1, nc1, hA1, hgB1, ⟨t1, cs1, hw1⟩, x0, x1, x2, x3, x4, hT1⟩ := HXA.out.elem3 k hlt
                obtain ⟨g2, M2, mc2, N2, nc2, hA2, hgB2, ⟨t2, cs2, hw2⟩, y0, y1, y2, y3, y4, hT2⟩ := HYA.out.elem3 k hlt2
                have hkp := fun (o : Nat) => World.cell?_of_block (w := w1) (w' := wr) (a := ⟨g1, o, none⟩) (HMD.out.keep g1 hgB1 (fun e => HMB.out _ _ (e ▸ hw1)))
                have hkp2 := fun (o : Nat) => World.cell?_of_block (w := w1) (w' := wr) (a := ⟨g2, o, none⟩) (HMD.out.keep g2 hgB2 (fun e => HMB.out _ _ (e ▸ hw2)))
                have z0 := (hkp _).trans x0
                have z1 := (hkp _).trans x1
                have z2 := (hkp _).trans x2
                have z3 := (hkp _).trans x3
                have z4 := (hkp _).trans x4
                have z5 := (hkp2 _).trans y0
                have z6 := (hkp2 _).trans y1
                have z7 := (hkp2 _).trans y2
                have z8 := (hkp2 _).trans y3
                have z9 := (hkp2 _).trans y4
                have HT1 := Lib.hid hT1
                have HT2 := Lib.hid hT2
                clear hkp hkp2 x0 x1 x2 x3 x4 y0 y1 y2 y3 y4 hT1 hT2 hw1 hw2
                rw [hA1, hA2]
                go_upto_region 15 with fail
                have hbb := HMD.out.size
                have hcc := HMD.out.call.size
                have keepf : ∀ x : World, (∀ g, g < w.heap.size + 3 → x.heap[g]? = wr.heap[g]?) → x.cell? ⟨g1, k * 5, none⟩ = some (.int .i64 p.x.args[k].kind) ∧ x.cell? ⟨g1, k * 5 + 1, none⟩ = some (.int .i64 p.x.args[k].num) ∧ x.cell? ⟨g1, k * 5 + 2, none⟩ = some (.string p.x.args[k].name) ∧ x.cell? ⟨g1, k * 5 + 3, none⟩ = some (.slice M1 p.x.args[k].labels.length mc1) ∧ x.cell? ⟨g1, k * 5 + 4, none⟩ = some (.slice N1 p.x.args[k].args.length nc1) ∧ x.cell? ⟨g2, k * 5, none⟩ = some (.int .i64 p.y.args[k].kind) ∧ x.cell? ⟨g2, k * 5 + 1, none⟩ = some (.int .i64 p.y.args[k].num) ∧ x.cell? ⟨g2, k * 5 + 2, none⟩ = some (.string p.y.args[k].name) ∧ x.cell? ⟨g2, k * 5 + 3, none⟩ = some (.slice M2 p.y.args[k].labels.length mc2) ∧ x.cell? ⟨g2, k * 5 + 4, none⟩ = some (.slice N2 p.y.args[k].args.length nc2) := fun x hx =>
                  ⟨(World.cell?_of_block (a := ⟨g1, k * 5, none⟩) (hx g1 hgB1)).trans z0, (World.cell?_of_block (a := ⟨g1, k * 5 + 1, none⟩) (hx g1 hgB1)).trans z1, (World.cell?_of_block (a := ⟨g1, k * 5 + 2, none⟩) (hx g1 hgB1)).trans z2, (World.cell?_of_block (a := ⟨g1, k * 5 + 3, none⟩) (hx g1 hgB1)).trans z3, (World.cell?_of_block (a := ⟨g1, k * 5 + 4, none⟩) (hx g1 hgB1)).trans z4, (World.cell?_of_block (a := ⟨g2, k * 5, none⟩) (hx g2 hgB2)).trans z5, (World.cell?_of_block (a := ⟨g2, k * 5 + 1, none⟩) (hx g2 hgB2)).trans z6, (World.cell?_of_block (a := ⟨g2, k * 5 + 2, none⟩) (hx g2 hgB2)).trans z7, (World.cell?_of_block (a := ⟨g2, k * 5 + 3, none⟩) (hx g2 hgB2)).trans z8, (World.cell?_of_block (a := ⟨g2, k * 5 + 4, none⟩) (hx g2 hgB2)).trans z9⟩
                have MD := Lib.hid (HMD.out.below (w' := wr.drew) ⟨rfl, rfl, rfl, Nat.le_refl _, fun _ _ => rfl⟩)
                have hba : Below wr.heap.size wr (wr.alloc (.cells #[.int .i64 p.x.args[k].kind, .int .i64 p.x.args[k].num, .string p.x.args[k].name, .slice M1 p.x.args[k].labels.length mc1, .slice N1 p.x.args[k].args.length nc1, .int .i64 p.y.args[k].kind, .int .i64 p.y.args[k].num, .string p.y.args[k].name, .slice M2 p.y.args[k].labels.length mc2, .slice N2 p.y.args[k].args.length nc2] 133)).drew := ((Below.refl wr.heap.size wr).alloc (Nat.le_refl _) _).drew
                have hownA : World.ownsRow (wr.alloc (.cells #[.int .i64 p.x.args[k].kind, .int .i64 p.x.args[k].num, .string p.x.args[k].name, .slice M1 p.x.args[k].labels.length mc1, .slice N1 p.x.args[k].args.length nc1, .int .i64 p.y.args[k].kind, .int .i64 p.y.args[k].num, .string p.y.args[k].name, .slice M2 p.y.args[k].labels.length mc2, .slice N2 p.y.args[k].args.length nc2] 133)).drew _ _ _ _ _ _ := HMD.out.own.alloc (.cells #[.int .i64 p.x.args[k].kind, .int .i64 p.x.args[k].num, .string p.x.args[k].name, .slice M1 p.x.args[k].labels.length mc1, .slice N1 p.x.args[k].args.length nc1, .int .i64 p.y.args[k].kind, .int .i64 p.y.args[k].num, .string p.y.args[k].name, .slice M2 p.y.args[k].labels.length mc2, .slice N2 p.y.args[k].args.length nc2] 133)
                obtain ⟨j0, j1, j2, j3, j4, j5, j6, j7, j8, j9⟩ := keepf wr.drew (fun _ _ => rfl)
                obtain ⟨k0, k1, k2, k3, k4, k5, k6, k7, k8, k9⟩ := keepf (wr.alloc (.cells #[.int .i64 p.x.args[k].kind, .int .i64 p.x.args[k].num, .string p.x.args[k].name, .slice M1 p.x.args[k].labels.length mc1, .slice N1 p.x.args[k].args.length nc1, .int .i64 p.y.args[k].kind, .int .i64 p.y.args[k].num, .string p.y.args[k].name, .slice M2 p.y.args[k].labels.length mc2, .slice N2 p.y.args[k].args.length nc2] 133)).drew (fun g hg => hba.block g (by omega))
                have hvb := fun g (hg : u10.ownBlock = some g) => MD.out.own.lt g hg
                have HVB := Lib.hid hvb
                have KF := Lib.hid keepf
                have HBA := Lib.hid hba
                clear z0 z1 z2 z3 z4 z5 z6 z7 z8 z9 hvb keepf hba
                go_region_held_law (fun x : World => x.cell? ⟨g1, k * 5, none⟩ = some (.int .i64 p.x.args[k].kind) ∧ x.cell? ⟨g1, k * 5 + 1, none⟩ = some (.int .i64 p.x.args[k].num) ∧ x.cell? ⟨g1, k * 5 + 2, none⟩ = some (.string p.x.args[k].name) ∧ x.cell? ⟨g1, k * 5 + 3, none⟩ = some (.slice M1 p.x.args[k].labels.length mc1) ∧ x.cell? ⟨g1, k * 5 + 4, none⟩ = some (.slice N1 p.x.args[k].args.length nc1) ∧ x.cell? ⟨g2, k * 5, none⟩ = some (.int .i64 p.y.args[k].kind) ∧ x.cell? ⟨g2, k * 5 + 1, none⟩ = some (.int .i64 p.y.args[k].num) ∧ x.cell? ⟨g2, k * 5 + 2, none⟩ = some (.string p.y.args[k].name) ∧ x.cell? ⟨g2, k * 5 + 3, none⟩ = some (.slice M2 p.y.args[k].labels.length mc2) ∧ x.cell? ⟨g2, k * 5 + 4, none⟩ = some (.slice N2 p.y.args[k].args.length nc2))
                  (first | (with_reducible exact ⟨j0, j1, j2, j3, j4, j5, j6, j7, j8, j9⟩) | (with_reducible exact ⟨k0, k1, k2, k3, k4, k5, k6, k7, k8, k9⟩) | (with_reducible exact ⟨s0, s1, s2, s3, s4, s5, s6, s7, s8, s9⟩))
                  (first | (refine step_append_cells _ (by rfl) (.tmp 72) (.tmp 82) _ (by rfl) (w.heap.size + 3) 133 i1 (.agg #[.int .i64 0, .int .i64 0, .string ⟨#[]⟩, .slice none 0 0, .slice none 0 0, .int .i64 0, .int .i64 0, .string ⟨#[]⟩, .slice none 0 0, .slice none 0 0]) 10 160 Tryd.underlying134 hi1 hy0 hy1 hy2 rfl (by decide) _ (ks ++ r).length _ (by rfl) hownA (some ⟨wr.heap.size, 0, none⟩) 1 1 (prCells ⟨p.x.args[k], p.y.args[k], M1, mc1, N1, nc1, M2, mc2, N2, nc2⟩) (by rfl) rfl (newsN wr _ _) (onesN _) (by unfold maxLen; omega) (by omega) (by simp; omega) ?_; intro v11 w11 hown11 hg11; have hb11 : ∀ g, g < w.heap.size + 3 → w11.heap[g]? = wr.heap[g]? := fun g hg => (hg11.block g (by simp; omega) (fun e => by have := (HVB.out g e.symm).1; omega)).trans (HBA.out.block g (by omega)); obtain ⟨s0, s1, s2, s3, s4, s5, s6, s7, s8, s9⟩ := KF.out w11 hb11))
                clear j0 j1 j2 j3 j4 j5 j6 j7 j8 j9 k0 k1 k2 k3 k4 k5 k6 k7 k8 k9 s0 s1 s2 s3 s4 s5 s6 s7 s8 s9
                have HOWN11 := Lib.hid hown11
                have HG11 := Lib.hid hg11
                have HB11 := Lib.hid hb11
                clear hown11 hg11 hownA hb11
                go_wp2
                go_roundw
                case rel =>
                  refine ⟨k + 1, ⟨p.x.args[k], p.y.args[k], M1, mc1, N1, nc1, M2, mc2, N2, nc2⟩ :: ks, by omega, by go_num, HKS.out.snoc hlt hlt2 _ rfl rfl ⟨HT1.out, HT2.out⟩, { own := HOWN11.out, keep := fun g hg hne => (HB11.out g hg).trans (MD.out.keep g hg hne), call := ?_, known := MD.out.known.keep (HB11.out _ (by omega)), size := by have := HG11.out.size; simp at this; omega }⟩
                  exact (HMD.out.call.trans (HBA.out.mono hcc)).grown HG11.out (by simp; omega) (fun g hg => by have := (HVB.out g hg).1; omega)
                case measure => simp [intOf]; omega
              · have hke : k = p.x.args.length := by omega
                subst hke
                go_wp2
                go_roundg (pSize (ks ++ r))
                case measure =>
                  rw [← HMU.out, pSize_append, pSize, hksz, List.take_length]
                  omega
                case rel =>
                  have hM := HMD.out
                  exact ⟨ks ++ r, _, HI.out.push HNB.out HL.out HPA.out HQA.out HKS.out hM.own hM.keep hM.call hM.known hM.size, rfl⟩
        · have hneq : ((p.x.args.length : Int) != (p.y.args.length : Int)) = true := by rw [bne_iff_ne]; omega
          have hr := Lib.hid (show eqVaB a b = false by
            apply eqVaB_no
            intro e
            have h1 := HI.out.bwd e p (by simp)
            exact hl (by rw [h1]))
          clear hl
          go_wp2_with fail
          refine HEQ.out.mono ?_
          rintro e wC ⟨rfl, hb3⟩
          have hcall := MB.out.call
          go_wp2
          go_ret
          exact ⟨by rw [hr.out]; rfl, hcall.trans (hb3.mono hcall.size)⟩

end Go.Proofs.YtlmbnefoobameaaDoor.V

namespace Go.Proofs.YtlmbnefoobameaaDoor.V
set_option maxRecDepth 100000
open Go.RowKit

set_option maxHeartbeats 1000000 in
theorem implEqualV_any (a b : Va) (va vb : Value) (w : World) (ha : OwnV w va a) (hb : OwnV w vb b) (hsz : sizeVa a ≤ 2000000) : Calls Tryd.prog 18 #[va, vb] w (BoolIs (eqVaB a b) w) := by
  obtain ⟨L, lc, A, ac, rfl, _⟩ := ha.open
  obtain ⟨L', lc', A', ac', rfl, _⟩ := hb.open
  obtain ⟨hb0, p0, q0, hs0⟩ := boxes2 w 27 27 #[.int .i64 a.kind, .int .i64 a.num, .string a.name, .slice L a.labels.length lc, .slice A a.args.length ac] #[.int .i64 b.kind, .int .i64 b.num, .string b.name, .slice L' b.labels.length lc', .slice A' b.args.length ac']
  have HE := Lib.hid (equalTrees_any a b _ _ _ (ha.up hb0) (hb.up hb0) hsz)
  clear ha hb hs0
  go_enter Tryd.func18, Tryd.ntmps18
  go_wp2_with fail
  refine HE.out.mono ?_
  rintro e w1 ⟨rfl, hb1⟩
  go_wp2
  go_ret
  exact ⟨rfl, hb0.trans (hb1.mono hb0.size)⟩

end Go.Proofs.YtlmbnefoobameaaDoor.V
end

section
namespace Go.Proofs.YtlmbnefoobameaaDoor
set_option maxRecDepth 100000
open Go.ChangeShapes Go.WideShapes Go.ChangeAt Go.RowKit

theorem cellsForm : Tryd.prog.cellsOf 157 = 6 := by kernel_rfl
theorem cellsForms : Tryd.prog.cellsOf 158 = 36 := by kernel_rfl
theorem cellsBool : Tryd.prog.cellsOf 4 = 1 := by kernel_rfl
theorem cellsInt6 : Tryd.prog.cellsOf 3 = 1 := by kernel_rfl

theorem form_cells {W : World} {cs : List Value} {fuel : Nat} {a b c d : Int} {b1 b2 : Bool} {p : List MemPlace} (h : DataW.trod (fun _ => ()) Tryd.prog W 0 (fun _ => true) false fuel 157 cs = some (.agg [.lit (.int .i64 a), .lit (.int .i64 b), .lit (.bool b1), .lit (.bool b2), .lit (.int .i64 c), .lit (.int .i64 d)], p)) :
    cs = [.int .i64 a, .int .i64 b, .bool b1, .bool b2, .int .i64 c, .int .i64 d] := by
  obtain ⟨xs, n, rfl, hx, hlen, hxl, hf⟩ := DataW.trod_struct Tryd.underlying157 h
  rw [cellsForm] at hlen
  have h0 : DataW.trod (fun _ => ()) Tryd.prog W 0 (fun _ => true) false n 3 ((cs.drop 0).take (Tryd.prog.cellsOf 3)) = xs[0]? := hf 0 _ rfl
  have h1 : DataW.trod (fun _ => ()) Tryd.prog W 0 (fun _ => true) false n 3 ((cs.drop 1).take (Tryd.prog.cellsOf 3)) = xs[1]? := hf 1 _ rfl
  have h2 : DataW.trod (fun _ => ()) Tryd.prog W 0 (fun _ => true) false n 4 ((cs.drop 2).take (Tryd.prog.cellsOf 4)) = xs[2]? := hf 2 _ rfl
  have h3 : DataW.trod (fun _ => ()) Tryd.prog W 0 (fun _ => true) false n 4 ((cs.drop 3).take (Tryd.prog.cellsOf 4)) = xs[3]? := hf 3 _ rfl
  have h4 : DataW.trod (fun _ => ()) Tryd.prog W 0 (fun _ => true) false n 3 ((cs.drop 4).take (Tryd.prog.cellsOf 3)) = xs[4]? := hf 4 _ rfl
  have h5 : DataW.trod (fun _ => ()) Tryd.prog W 0 (fun _ => true) false n 3 ((cs.drop 5).take (Tryd.prog.cellsOf 3)) = xs[5]? := hf 5 _ rfl
  rw [cellsInt6] at h0 h1 h4 h5
  rw [cellsBool] at h2 h3
  match cs, hlen with
  | [c0, c1, c2, c3, c4, c5], _ =>
  match xs, hxl with
  | [x0, x1, x2, x3, x4, x5], _ =>
  simp at h0 h1 h2 h3 h4 h5 hx
  obtain ⟨⟨e0, e1, e2, e3, e4, e5⟩, _⟩ := hx
  obtain ⟨n0, k0, l0, _⟩ := DataW.trod_int Tryd.underlying3 h0
  obtain ⟨n1, k1, l1, _⟩ := DataW.trod_int Tryd.underlying3 h1
  obtain ⟨n2, k2, l2⟩ := DataW.trod_bool Tryd.underlying4 h2
  obtain ⟨n3, k3, l3⟩ := DataW.trod_bool Tryd.underlying4 h3
  obtain ⟨n4, k4, l4, _⟩ := DataW.trod_int Tryd.underlying3 h4
  obtain ⟨n5, k5, l5, _⟩ := DataW.trod_int Tryd.underlying3 h5
  simp at k0 k1 k2 k3 k4 k5
  subst k0 k1 k2 k3 k4 k5
  rw [l0] at e0
  rw [l1] at e1
  rw [l2] at e2
  rw [l3] at e3
  rw [l4] at e4
  rw [l5] at e5
  simp at e0 e1 e2 e3 e4 e5
  subst e0 e1 e2 e3 e4 e5
  rfl

def formChunk (q : Nat) : List Value := (formCells.drop (q * 6)).take 6

theorem formsAt_of {W : World} {L : List (String × DataW Unit)} (hm : ("loop.example/g00592/impl.valueForms", Rows.laid_loop_example_g00592_impl_valueForms) ∈ L) (h : laidMet Tryd.prog L W) : FormsAt W := by
  obtain ⟨ps, hv, _⟩ := h
  obtain ⟨g', t', cs, fuel, p, hg', ht', hvar, hd⟩ := laidVars_mem hv hm
  obtain rfl := Option.some.inj ((show Tryd.prog.globalNamed "loop.example/g00592/impl.valueForms" = some 0 by kernel_rfl).symm.trans hg')
  obtain rfl := Option.some.inj ((show (Tryd.prog.globals[0]?).map (·.type) = some 158 by kernel_rfl).symm.trans ht')
  obtain ⟨xs, m, _, ex, hlen, hl, hel⟩ := DataW.trod_array Tryd.underlying158 hd
  rw [cellsForms] at hlen
  rw [cellsForm] at hel
  have e3 := (DataW.agg.inj (Prod.mk.inj ex).1)
  match xs, hl with
  | [x0, x1, x2, x3, x4, x5], _ =>
  simp only [List.map_cons, List.map_nil, List.cons.injEq, and_true] at e3
  obtain ⟨e0, e1, e2, e3, e4, e5⟩ := e3
  have hc : ∀ q, q < 6 → (cs.toList.drop (q * 6)).take 6 = formChunk q := by
    intro q hq
    have hq6 : q = 0 ∨ q = 1 ∨ q = 2 ∨ q = 3 ∨ q = 4 ∨ q = 5 := by omega
    rcases hq6 with rfl | rfl | rfl | rfl | rfl | rfl
    · have := hel 0 (by omega)
      simp only [List.getElem?_cons_zero] at this
      rw [show x0 = (x0.1, x0.2) from rfl, ← e0] at this
      exact form_cells this
    · have := hel 1 (by omega)
      simp only [List.getElem?_cons_zero, List.getElem?_cons_succ] at this
      rw [show x1 = (x1.1, x1.2) from rfl, ← e1] at this
      exact form_cells this
    · have := hel 2 (by omega)
      simp only [List.getElem?_cons_zero, List.getElem?_cons_succ] at this
      rw [show x2 = (x2.1, x2.2) from rfl, ← e2] at this
      exact form_cells this
    · have := hel 3 (by omega)
      simp only [List.getElem?_cons_zero, List.getElem?_cons_succ] at this
      rw [show x3 = (x3.1, x3.2) from rfl, ← e3] at this
      exact form_cells this
    · have := hel 4 (by omega)
      simp only [List.getElem?_cons_zero, List.getElem?_cons_succ] at this
      rw [show x4 = (x4.1, x4.2) from rfl, ← e4] at this
      exact form_cells this
    · have := hel 5 (by omega)
      simp only [List.getElem?_cons_zero, List.getElem?_cons_succ] at this
      rw [show x5 = (x5.1, x5.2) from rfl, ← e5] at this
      exact form_cells this
  have hcell : ∀ i, i < 36 → W.cell? ⟨0, i, none⟩ = cs[i]? ∧ 0 < W.heap.size := by
    intro i hi
    unfold World.var? at hvar
    rw [show Tryd.prog.globalNamed "loop.example/g00592/impl.valueForms" = some 0 by kernel_rfl] at hvar
    simp only [Option.bind_some] at hvar
    cases hh : W.heap[0]? with
    | none => rw [hh] at hvar; cases hvar
    | some ob =>
      rw [hh] at hvar
      cases ob with
      | cells cs' t' r =>
        cases hvar
        exact ⟨by simp [World.cell?, hh], (Array.getElem?_eq_some_iff.1 hh).1⟩
      | _ => cases hvar
  refine ⟨(hcell 0 (by omega)).2, fun i hi => (hcell i hi).1.trans ?_⟩
  have h1 := congrArg (·[i % 6]?) (hc (i / 6) (by omega))
  simp only [formChunk, List.getElem?_take, List.getElem?_drop] at h1
  rw [if_pos (by omega), if_pos (by omega), show i / 6 * 6 + i % 6 = i by omega] at h1
  simpa using h1

end Go.Proofs.YtlmbnefoobameaaDoor
end
