/- Lemmas: ImplEqual, ImplHas, SpecVaEq. -/
import Derived.Test.YtlmbnefoobameaaDoorPlace
import Derived.Test.YtlmbnefoobameaaDoorSpecTy5
import Derived.Test.YtlmbnefoobameaaDoorImplSize
import Derived.Deep.RegionHeld3
import Derived.Deep.RegionHeldLaw
import Derived.Test.YtlmbnefoobameaaDoorLawFnValues_3
import Derived.Test.YtlmbnefoobameaaDoorSpecHas
import Derived.Test.YtlmbnefoobameaaDoorSpecVa

section
namespace Go.Proofs.YtlmbnefoobameaaDoor
set_option maxRecDepth 100000
open Go.RowKit

def plP : Pl → Value | none => .pointer none | some (g, _) => .pointer (some ⟨g, 0, none⟩)
def plN : Pl → Value | none => .int .i64 0 | some (_, n) => .int .i64 (n : Int)
theorem plVal_eq (k : Pl) : plVal k = .agg #[plP k, plN k] := by
  match k with
  | none => rfl
  | some (g, n) => rfl
def pl2Val (k : Pl × Pl) : Value := .agg #[plP k.1, plN k.1, plP k.2, plN k.2]
def Pl2Ok (w1 : World) (B mb : Nat) (k : Pl × Pl) : Prop := PlOk w1 B mb k.1 ∧ PlOk w1 B mb k.2

theorem pl_size2 : (Tryd.prog.info? 170).map (fun i => i.size) = some 2 := by kernel_rfl

theorem run_sizeOf_pl (w : World) : (sizeOf 170).run Tryd.prog w = .ok 2 w := by
  have h := pl_size2
  cases hi : Tryd.prog.info? 170 with
  | none => rw [hi] at h; cases h
  | some i =>
    rw [hi] at h
    simp at h
    simp [sizeOf, typeInfo, hi, Result.andThen, h]
theorem run_isAgg_pl (w : World) : (isAgg 170).run Tryd.prog w = .ok true w := by
  simp [isAgg, run_underlying pl_struct, Result.andThen]
theorem run_pl2_part0 (w : World) (a b c d : Value) : (part 170 #[a, b, c, d] 0).run Tryd.prog w = .ok (.agg #[a, b]) w := by
  kernel_rfl
theorem run_pl2_part1 (w : World) (a b c d : Value) : (part 170 #[a, b, c, d] 2).run Tryd.prog w = .ok (.agg #[c, d]) w := by
  kernel_rfl

theorem bits_plP (k : Pl) (n : Nat) : Instr.sameBits n (plP k) (plP k) = true := by
  match k with
  | none => simp [plP, Instr.sameBits]
  | some (g, m) => simp [plP, Instr.sameBits]
theorem bits_plN (k : Pl) (n : Nat) : Instr.sameBits n (plN k) (plN k) = true := by
  match k with
  | none => simp [plN, Instr.sameBits]
  | some (g, m) => simp [plN, Instr.sameBits]

end Go.Proofs.YtlmbnefoobameaaDoor

namespace Go.Proofs.YtlmbnefoobameaaDoor
set_option maxRecDepth 100000
open Go.RowKit

set_option maxHeartbeats 1000000 in
theorem slicesEqual_any (A A' : Option Addr) (c c' : Nat) (ss ss' : List ByteArray) (w : World) (hA : StrsAt w w.heap.size A ss) (hA' : StrsAt w w.heap.size A' ss') (hn : ss.length ≤ maxLen) :
    Calls Tryd.prog 80 #[.slice A ss.length c, .slice A' ss'.length c'] w (BoolDrew (textsB ss ss') w) := by
  unfold maxLen at hn
  by_cases hl : ss.length = ss'.length
  · have hneq : ((ss.length : Int) != (ss'.length : Int)) = false := by rw [bne_eq_false_iff_eq]; omega
    have HL := Lib.hid hl
    have hl1 : ss.length ≤ ss'.length := by omega
    clear hl
    go_enter Tryd.func80, Tryd.ntmps80
    go_wp2
    go_loopw [13] (fun i wr => ∃ k : Nat, k ≤ ss.length ∧ i = .int .i64 k ∧ (∀ j, (h1 : j < ss.length) → (h2 : j < ss'.length) → j < k → ss[j] = ss'[j]) ∧ ∃ n, wr = w.drewN n) (fun i _ => ss.length - (intOf i).toNat)
    case atStart => exact ⟨0, Nat.zero_le _, rfl, fun j _ _ h => absurd h (by omega), 0, rfl⟩
    case round =>
      obtain ⟨k, hk, rfl, hall, n, rfl⟩ := hrel
      have HA := Lib.hid hall
      clear hall hneq
      by_cases hlt : k < ss.length
      · obtain ⟨b, off, rfl, hbl, hcell⟩ := hA k hlt
        obtain ⟨b', off', rfl, hbl', hcell'⟩ := hA' k (by omega)
        by_cases he : ss[k] = ss'[k]
        · have hq : (ss[k].toList != ss'[k].toList) = false := by rw [bne_eq_false_iff_eq, he]
          have hq2 : (ss[k].toList == ss'[k].toList) = true := by rw [beq_iff_eq, he]
          have HE := Lib.hid he
          clear he
          go_wp2
          go_quiet (fail)
          go_wp2
          go_roundw
          case rel =>
            refine ⟨k + 1, by omega, by go_num, fun j h1 h2 h => ?_, _, rfl⟩
            by_cases e : j = k
            · subst e
              exact HE.out
            · exact HA.out j h1 h2 (by omega)
          case measure => simp [intOf]; omega
        · have hne : ss[k].toList ≠ ss'[k].toList := by
            rw [ByteArray.toList_eq, ByteArray.toList_eq]
            exact fun e => he (WideShapes.bytes_inj e)
          have hq : (ss[k].toList != ss'[k].toList) = true := by rw [bne_iff_ne]; exact hne
          have hq2 : (ss[k].toList == ss'[k].toList) = false := by rw [beq_eq_false_iff_ne]; exact hne
          have hr := Lib.hid (textsB_no ss ss' k hlt (by omega) he)
          clear he hne
          go_wp2
          go_quiet (fail)
          go_wp2
          go_ret
          exact ⟨by rw [hr.out]; rfl, _, World.drewN_drewN _ _ _⟩
      · have hr := Lib.hid (textsB_yes ss ss' HL.out fun j h1 h2 => HA.out j h1 h2 (by omega))
        go_wp2
        go_ret
        exact ⟨by rw [hr.out]; rfl, n, rfl⟩
  · have hneq : ((ss.length : Int) != (ss'.length : Int)) = true := by rw [bne_iff_ne]; omega
    have hr := Lib.hid (textsB_len ss ss' hl)
    clear hl
    go_enter Tryd.func80, Tryd.ntmps80
    go_wp2
    go_ret
    exact ⟨by rw [hr.out]; rfl, 0, rfl⟩

/-- The same node? -/
def nodesB (a b : Ty) : Bool := decide (a.kind = b.kind) && textsB a.labels b.labels

end Go.Proofs.YtlmbnefoobameaaDoor

namespace Go.Proofs.YtlmbnefoobameaaDoor
set_option maxRecDepth 100000
open Go.RowKit

/-- Two trees, and how they lie in cells. -/
structure Pr where
  x : Ty
  y : Ty
  L : Option Addr
  l : Nat
  A : Option Addr
  a : Nat
  L' : Option Addr
  l' : Nat
  A' : Option Addr
  a' : Nat

def prCells (p : Pr) : List Value := [.int .i64 p.x.kind, .slice p.L p.x.labels.length p.l, .slice p.A p.x.args.length p.a, .int .i64 p.y.kind, .slice p.L' p.y.labels.length p.l', .slice p.A' p.y.args.length p.a']
def pCells : List Pr → List Value | [] => [] | p :: r => pCells r ++ prCells p
theorem pCells_len : ∀ l : List Pr, (pCells l).length = l.length * 6
  | [] => rfl
  | f :: r => by
    rw [pCells, List.length_append, pCells_len r]
    simp [prCells]
    omega
def pSize : List Pr → Nat | [] => 0 | p :: r => sizeTy p.x + pSize r
theorem pSize_len : ∀ l : List Pr, l.length ≤ pSize l
  | [] => Nat.le_refl _
  | p :: r => by
    have := pSize_len r
    have := sizeTy_eq p.x
    rw [pSize, List.length_cons]
    omega

def PrOk (w1 : World) (B : Nat) (p : Pr) : Prop := TyIn w1 (fun b => b < B) (.agg #[.int .i64 p.x.kind, .slice p.L p.x.labels.length p.l, .slice p.A p.x.args.length p.a]) p.x ∧ TyIn w1 (fun b => b < B) (.agg #[.int .i64 p.y.kind, .slice p.L' p.y.labels.length p.l', .slice p.A' p.y.args.length p.a']) p.y

/-- At the place P lie the trees l. -/
def PlAt (w1 : World) (B : Nat) (P : Pl) (l : List Ty) : Prop := (P = none ∧ l = []) ∨ ∃ g, P = some (g, l.length) ∧ l ≠ [] ∧ TysIn w1 (fun b => b < B) (some ⟨g, 0, none⟩) l
theorem PlAt.uniq {w1 : World} {B : Nat} {P : Pl} {l l' : List Ty} (h : PlAt w1 B P l) (h' : PlAt w1 B P l') : l = l' := by
  rcases h with ⟨rfl, rfl⟩ | ⟨g, rfl, h1, h2⟩
  · rcases h' with ⟨_, rfl⟩ | ⟨g', h3, _⟩
    · rfl
    · cases h3
  · rcases h' with ⟨h3, _⟩ | ⟨g', h3, h4, h5⟩
    · cases h3
    · simp at h3
      obtain ⟨rfl, h6⟩ := h3
      exact h2.uniq h5 h6

theorem place_of {w1 : World} {B mb : Nat} (hmb : ∀ (t : TypeId) (cs : Array Value), ¬ Whole1 w1 mb t cs) {A : Option Addr} {ts : List Ty} (h : TysIn w1 (fun b => b < B) A ts) (c : Nat) : ∃ P, PlAt w1 B P ts ∧ PlOk w1 B mb P ∧ ∀ W, Calls Tryd.prog 141 #[.slice A ts.length c] W (PlaceRet W P) := by
  by_cases h0 : ts = []
  · subst h0
    exact ⟨none, .inl ⟨rfl, rfl⟩, fun g n e => (by cases e), fun W => placeOf_nil A c W⟩
  · obtain ⟨g, cs, rfl, _, _⟩ := h.addr h0
    exact ⟨some (g, ts.length), .inr ⟨g, rfl, h0, h⟩, okKey hmb h h0 _, fun W => placeOf_some g _ c W (List.length_pos_iff.2 h0)⟩

theorem TyIn.args_of {w1 : World} {B : Nat} {a b : Value} {A : Option Addr} {n c : Nat} {t : Ty} (h : TyIn w1 (fun b => b < B) (.agg #[a, b, .slice A n c]) t) : n = t.args.length ∧ TysIn w1 (fun b => b < B) A t.args := by
  obtain ⟨L, lc, A', ac, gl, hv, _, _, _, ha⟩ := h.open
  simp at hv
  obtain ⟨_, _, rfl, rfl, _⟩ := hv
  obtain ⟨m0, ga', vs', Ss', m1, m2, m3, m4⟩ := ha
  exact ⟨rfl, m0, ga', vs', Ss', m1.imp id fun ⟨a, b, c⟩ => ⟨a, b.1, c⟩, fun i hi b hb => ⟨(m2 i hi b hb).1.1, (m2 i hi b hb).2⟩, m3, m4⟩

/-- Tree i of a slice: its cells. -/
theorem TysIn.elem3 {w1 : World} {B : Nat} {A : Option Addr} {ts : List Ty} (h : TysIn w1 (fun b => b < B) A ts) (i : Nat) (hi : i < ts.length) : ∃ g L lc A' ac, A = some ⟨g, 0, none⟩ ∧ g < B ∧ (∃ t cs, Whole1 w1 g t cs) ∧ w1.cell? ⟨g, i * 3, none⟩ = some (.int .i64 ts[i].kind) ∧ w1.cell? ⟨g, i * 3 + 1, none⟩ = some (.slice L ts[i].labels.length lc) ∧
    w1.cell? ⟨g, i * 3 + 2, none⟩ = some (.slice A' ts[i].args.length ac) ∧ TyIn w1 (fun b => b < B) (.agg #[.int .i64 ts[i].kind, .slice L ts[i].labels.length lc, .slice A' ts[i].args.length ac]) ts[i] := by
  obtain ⟨hm, ga, vs, Ss, h1, h2, h3, h4⟩ := h
  rcases h1 with rfl | ⟨rfl, h5, h6⟩
  · exact absurd hi (by simp)
  · obtain ⟨L, lc, A', ac, gl, hv, _⟩ := (h4 i hi).open
    have c0 := h6.cell i 0 hi (by omega)
    have c1 := h6.cell i 1 hi (by omega)
    have c2 := h6.cell i 2 hi (by omega)
    have ht := (h4 i hi).wide fun b hb => (h2 i hi b hb).1
    have h7 : ∃ t cs, Whole1 w1 ga t cs := by
      obtain ⟨cs, h7, _⟩ := h6
      exact ⟨_, cs, h7⟩
    rw [hv] at c0 c1 c2 ht
    exact ⟨ga, L, lc, A', ac, rfl, h5, h7, c0, c1, c2, ht⟩

section
variable {w1 wc w : World} {B mb : Nat} {a0 b0 : Ty} {v : Value} {p : Pr} {r stk : List Pr} {F : Pl × Pl → Option Value}

theorem same_of (h1 : nodesB p.x p.y = true) (h2 : p.x.args = p.y.args) : p.x = p.y := by
  unfold nodesB at h1
  rw [Bool.and_eq_true_iff] at h1
  have h3 := of_decide_eq_true h1.1
  have h4 := h1.2
  unfold textsB at h4
  exact Ty.ext h3 (of_decide_eq_true h4) h2

/-- The pairs of the parts, as far as they were laid onto the stack. -/
structure Kids (w1 : World) (B : Nat) (l m : List Ty) (k : Nat) (ks : List Pr) : Prop where
  all : ∀ i, (h1 : i < l.length) → (h2 : i < m.length) → i < k → ∃ q ∈ ks, q.x = l[i] ∧ q.y = m[i]
  only : ∀ q ∈ ks, ∃ i, ∃ (h1 : i < l.length) (h2 : i < m.length), q.x = l[i] ∧ q.y = m[i]
  ok : ∀ q ∈ ks, PrOk w1 B q
  size : pSize ks = sizeTys (l.take k)
  len : ks.length = k
theorem Kids.nil (w1 : World) (B : Nat) (l m : List Ty) : Kids w1 B l m 0 [] := ⟨fun _ _ _ h => absurd h (Nat.not_lt_zero _), fun q h => absurd h (by simp), fun q h => absurd h (by simp), by simp [pSize, sizeTys], rfl⟩
theorem Kids.snoc {l m : List Ty} {k : Nat} {ks : List Pr} (h : Kids w1 B l m k ks) (h1 : k < l.length) (h2 : k < m.length) (q : Pr) (hx : q.x = l[k]) (hy : q.y = m[k]) (hq : PrOk w1 B q) : Kids w1 B l m (k + 1) (q :: ks) := by
  refine ⟨fun i i1 i2 hi => ?_, fun q' hq' => ?_, fun q' hq' => ?_, ?_, by rw [List.length_cons, h.len]⟩
  · by_cases e : i = k
    · subst e
      exact ⟨q, List.mem_cons_self, hx, hy⟩
    · obtain ⟨q', a, b⟩ := h.all i i1 i2 (by omega)
      exact ⟨q', List.mem_cons_of_mem _ a, b⟩
  · rcases List.mem_cons.1 hq' with rfl | hq'
    · exact ⟨k, h1, h2, hx, hy⟩
    · exact h.only q' hq'
  · rcases List.mem_cons.1 hq' with rfl | hq'
    · exact hq
    · exact h.ok q' hq'
  · rw [pSize, h.size, sizeTys_take l k h1, hx]
    omega

end

/-- The row's last six cells. -/
theorem row_top6 {w : World} {B n : Nat} {T : TypeId} {v : Value} {xs : List Value} {a b c d e f : Value} (h : w.ownsRow B T 6 v (n + 1) (xs ++ [a, b, c, d, e, f])) (hx : xs.length = n * 6) :
    ∃ q cap cur, v = .slice (some ⟨q, 0, none⟩) (n + 1) cap ∧ B ≤ q ∧ Whole1 w q T cur ∧ n + 1 ≤ cap ∧ w.ownsRow B T 6 (.slice (some ⟨q, 0, none⟩) n cap) n xs ∧ cur[n * 6]? = some a ∧ cur[n * 6 + 1]? = some b ∧ cur[n * 6 + 2]? = some c ∧ cur[n * 6 + 3]? = some d ∧ cur[n * 6 + 4]? = some e ∧ cur[n * 6 + 5]? = some f := by
  rcases h.2 with ⟨_, h0⟩ | ⟨q, cap, cur, rfl, h2, h3, h4, h5, h6, h7⟩
  · omega
  · have hi : ∀ i, i < (n + 1) * 6 → cur[i]? = (xs ++ [a, b, c, d, e, f])[i]? := fun i hi => by
      rw [← h7, List.getElem?_take, if_pos hi]
      simp
    have htk : cur.toList.take (n * 6) = xs := by
      have : cur.toList.take (n * 6) = (cur.toList.take ((n + 1) * 6)).take (n * 6) := by rw [List.take_take, Nat.min_eq_left (by omega)]
      rw [this, h7, List.take_append_of_le_length (by omega), ← hx, List.take_length]
    have hc : ∀ j, j < 6 → cur[n * 6 + j]? = [a, b, c, d, e, f][j]? := fun j hj => by
      rw [hi _ (by omega), List.getElem?_append_right (by omega), hx, show n * 6 + j - n * 6 = j by omega]
    exact ⟨q, cap, cur, rfl, h2, h3, h4, ⟨hx, .inr ⟨q, cap, cur, rfl, h2, h3, by omega, h5, h6, htk⟩⟩, hc 0 (by omega), hc 1 (by omega), hc 2 (by omega), hc 3 (by omega), hc 4 (by omega), hc 5 (by omega)⟩

end Go.Proofs.YtlmbnefoobameaaDoor

namespace Go.Proofs.YtlmbnefoobameaaDoor
set_option maxRecDepth 100000
open Go.RowKit

theorem TyIn.cellsOnly {w : World} {S : Nat → Prop} {v : Value} {t : Ty} (h : TyIn w S v t) : TyIn w (fun b => S b ∧ ∃ t cs, Whole1 w b t cs) v t := by
  induction h with
  | mk gl ga vs Ss hn hz hm hls hes hne hsub hdis _ ih =>
    refine .mk gl ga vs (fun i b => Ss i b ∧ ∃ t cs, Whole1 w b t cs) hn hz hm (hls.imp id fun ⟨h1, h2, h3⟩ => ⟨h1, ⟨h2, ?_⟩, h3⟩) (hes.imp id fun ⟨h1, h2, h3⟩ => ⟨h1, ⟨h2, ?_⟩, h3⟩) hne (fun i hi b hb => ⟨⟨(hsub i hi b hb.1).1, hb.2⟩, (hsub i hi b hb.1).2⟩) (fun i j hi hj hij b hb hb' => hdis i j hi hj hij b hb.1 hb'.1) ih
    · obtain ⟨cs, h4, _⟩ := h3
      exact ⟨_, cs, h4⟩
    · obtain ⟨cs, h4, _⟩ := h3
      exact ⟨_, cs, h4⟩
theorem TyIn.move {w1 w' : World} {B mb : Nat} {v : Value} {t : Ty} (h : TyIn w1 (fun b => b < B) v t) (hmb : ∀ (t : TypeId) (cs : Array Value), ¬ Whole1 w1 mb t cs) (hk : PlWd w1 B mb w') : TyAt w' w'.heap.size v t :=
  (h.cellsOnly.keep fun b hb _ => hk b hb.1 fun e => by
    obtain ⟨_, t, cs, h1⟩ := hb
    exact hmb t cs (e ▸ h1)).here

theorem plP_form (k : Pl) : ∃ o m, plP k = .pointer o ∧ plN k = .int .i64 m := by
  match k with
  | none => exact ⟨_, _, rfl, rfl⟩
  | some (g, n) => exact ⟨_, _, rfl, rfl⟩

theorem news6 (w : World) (t : TypeId) (p : Pr) : CellsAt (w.alloc (.cells (prCells p).toArray t)) (some ⟨w.heap.size, 0, none⟩) (prCells p) := by
  refine .inr ⟨_, rfl, fun j u hj => ?_⟩
  rw [WideShapes.add_plain, World.cell?_alloc_at _ _ _ _ rfl, Nat.zero_add]
  simpa using hj
theorem ones6 (p : Pr) : ∀ u ∈ prCells p, u.oneCell' = true := by
  intro u hu
  simp [prCells] at hu
  rcases hu with rfl | rfl | rfl | rfl | rfl | rfl <;> rfl
theorem pSize_append : ∀ a b : List Pr, pSize (a ++ b) = pSize a + pSize b
  | [], b => by simp [pSize]
  | x :: a, b => by
    rw [List.cons_append, pSize, pSize, pSize_append a b]
    omega

end Go.Proofs.YtlmbnefoobameaaDoor

namespace Go.Proofs.YtlmbnefoobameaaDoor
set_option maxRecDepth 100000
open Go.RowKit

end Go.Proofs.YtlmbnefoobameaaDoor
end

section
namespace Go.Proofs.YtlmbnefoobameaaDoor
set_option maxRecDepth 100000
open Go.RowKit

theorem th_intForm_intForm (x : Value) (w : World) : (Instr.typeAssert (.iface 107 x) 104 107 true).run Tryd.prog w = .ok (.tuple #[x, .bool true]) w := by kernel_rfl
theorem th_boolForm_intForm (x : Value) (w : World) : (Instr.typeAssert (.iface 108 x) 104 107 true).run Tryd.prog w = .ok (.tuple #[.agg #[], .bool false]) w := by kernel_rfl
theorem th_boolForm_boolForm (x : Value) (w : World) : (Instr.typeAssert (.iface 108 x) 104 108 true).run Tryd.prog w = .ok (.tuple #[x, .bool true]) w := by kernel_rfl
theorem th_recForm_intForm (x : Value) (w : World) : (Instr.typeAssert (.iface 110 x) 104 107 true).run Tryd.prog w = .ok (.tuple #[.agg #[], .bool false]) w := by kernel_rfl
theorem th_recForm_boolForm (x : Value) (w : World) : (Instr.typeAssert (.iface 110 x) 104 108 true).run Tryd.prog w = .ok (.tuple #[.agg #[], .bool false]) w := by kernel_rfl
theorem th_recForm_recForm (x : Value) (w : World) : (Instr.typeAssert (.iface 110 x) 104 110 true).run Tryd.prog w = .ok (.tuple #[x, .bool true]) w := by kernel_rfl
theorem th_sumForm_intForm (x : Value) (w : World) : (Instr.typeAssert (.iface 112 x) 104 107 true).run Tryd.prog w = .ok (.tuple #[.agg #[], .bool false]) w := by kernel_rfl
theorem th_sumForm_boolForm (x : Value) (w : World) : (Instr.typeAssert (.iface 112 x) 104 108 true).run Tryd.prog w = .ok (.tuple #[.agg #[], .bool false]) w := by kernel_rfl
theorem th_sumForm_recForm (x : Value) (w : World) : (Instr.typeAssert (.iface 112 x) 104 110 true).run Tryd.prog w = .ok (.tuple #[.agg #[.slice none 0 0, .slice none 0 0], .bool false]) w := by kernel_rfl
theorem th_sumForm_sumForm (x : Value) (w : World) : (Instr.typeAssert (.iface 112 x) 104 112 true).run Tryd.prog w = .ok (.tuple #[x, .bool true]) w := by kernel_rfl
theorem th_listForm_intForm (x : Value) (w : World) : (Instr.typeAssert (.iface 115 x) 104 107 true).run Tryd.prog w = .ok (.tuple #[.agg #[], .bool false]) w := by kernel_rfl
theorem th_listForm_boolForm (x : Value) (w : World) : (Instr.typeAssert (.iface 115 x) 104 108 true).run Tryd.prog w = .ok (.tuple #[.agg #[], .bool false]) w := by kernel_rfl
theorem th_listForm_recForm (x : Value) (w : World) : (Instr.typeAssert (.iface 115 x) 104 110 true).run Tryd.prog w = .ok (.tuple #[.agg #[.slice none 0 0, .slice none 0 0], .bool false]) w := by kernel_rfl
theorem th_listForm_sumForm (x : Value) (w : World) : (Instr.typeAssert (.iface 115 x) 104 112 true).run Tryd.prog w = .ok (.tuple #[.agg #[.slice none 0 0, .slice none 0 0], .bool false]) w := by kernel_rfl
theorem th_listForm_listForm (x : Value) (w : World) : (Instr.typeAssert (.iface 115 x) 104 115 true).run Tryd.prog w = .ok (.tuple #[x, .bool true]) w := by kernel_rfl

def IsOfOne (v : Va) : Prop := ∀ (t : Ty) (V V' : Value) (w : World), VaAt w w.heap.size V v → TyAt w w.heap.size V' t → formVa v = true → formTy t = true → szTy t ≤ 1048576 → Calls Tryd.prog 41 #[V, V'] w (BoolIs (hasB v t) w)

set_option maxHeartbeats 4000000 in
theorem equalFunc_any (vs : List Va) (ts : List Ty) (A A' : Option Addr) (c c' : Nat) (w : World) (hall : ∀ i, (h : i < vs.length) → IsOfOne vs[i]) (ha : VasAt w w.heap.size A vs) (ha' : TysAt w w.heap.size A' ts) (hl : vs.length = ts.length)
    (hfv : ∀ i, (h : i < vs.length) → formVa vs[i] = true) (hft : ∀ i, (h : i < ts.length) → formTy ts[i] = true) (hsz : szTys ts ≤ 1048576) :
    Calls Tryd.prog 81 #[.slice A vs.length c, .slice A' ts.length c', .func (.func 41) #[] #[]] w (BoolIs (hasZip vs ts) w) := by
  have hm := ha.1
  unfold maxLen at hm
  have HALL := Lib.hid hall
  have HFV := Lib.hid hfv
  have HFT := Lib.hid hft
  have HL := Lib.hid hl
  have hneq : ((vs.length : Int) != (ts.length : Int)) = false := by rw [bne_eq_false_iff_eq]; omega
  clear hall hfv hft hl
  go_enter Tryd.func81, Tryd.ntmps81
  go_wp2
  clear hneq
  go_loopw [17] (fun i wr => ∃ k : Nat, k ≤ vs.length ∧ i = .int .i64 k ∧ (∀ j, (h1 : j < vs.length) → (h2 : j < ts.length) → j < k → hasB vs[j] ts[j] = true) ∧ Below w.heap.size w wr) (fun i _ => vs.length - (intOf i).toNat)
  case atStart => exact ⟨0, Nat.zero_le _, rfl, fun j _ _ h => absurd h (by omega), Below.refl _ _⟩
  case round =>
    obtain ⟨k, hk, rfl, hall, hb⟩ := hrel
    have HA := Lib.hid hall
    clear hall
    by_cases hlt : k < vs.length
    · have hlt' : k < ts.length := by have := HL.out; omega
      have hltI' : (k : Int) < (ts.length : Int) := by omega
      obtain ⟨b, off, M, mc, C, cc, rfl, hbl, e0, e1, e2, e3, e4, htv⟩ := (ha.below hb).elem k hlt
      obtain ⟨b', off', M', mc', C', cc', rfl, hbl', f0, f1, f2, _, _, _, _, htt⟩ := (ha'.below hb).elem k hlt'
      have hpt := szTy_part ts k hlt'
      obtain ⟨hbx, px, qx, hsx⟩ := boxes2 wr 27 30 #[.int .i64 vs[k].kind, .int .i64 vs[k].num, .string vs[k].name, .slice M vs[k].labels.length mc, .slice C vs[k].args.length cc] #[.int .i64 ts[k].kind, .slice M' ts[k].labels.length mc', .slice C' ts[k].args.length cc']
      have HT := HALL.out k hlt ts[k] _ _ _ ((htv.more hb.size).up hbx) ((htt.more hb.size).up hbx) (HFV.out k hlt) (HFT.out k hlt') (by omega)
      have HBX := Lib.hid hbx
      have hbs := hb.size
      have hx1 : (wr.alloc (.cells #[.int .i64 vs[k].kind, .int .i64 vs[k].num, .string vs[k].name, .slice M vs[k].labels.length mc, .slice C vs[k].args.length cc] 27)).cell? ⟨b', off' + k * 3, none⟩ = some (.int .i64 ts[k].kind) := (((Below.refl wr.heap.size wr).alloc (Nat.le_refl _) (.cells #[.int .i64 vs[k].kind, .int .i64 vs[k].num, .string vs[k].name, .slice M vs[k].labels.length mc, .slice C vs[k].args.length cc] 27)).cell (p := ⟨b', off' + k * 3, none⟩) (Nat.lt_of_lt_of_le hbl' hbs)).trans f0
      have hx2 : (wr.alloc (.cells #[.int .i64 vs[k].kind, .int .i64 vs[k].num, .string vs[k].name, .slice M vs[k].labels.length mc, .slice C vs[k].args.length cc] 27)).cell? ⟨b', off' + k * 3 + 1, none⟩ = some (.slice M' ts[k].labels.length mc') := (((Below.refl wr.heap.size wr).alloc (Nat.le_refl _) (.cells #[.int .i64 vs[k].kind, .int .i64 vs[k].num, .string vs[k].name, .slice M vs[k].labels.length mc, .slice C vs[k].args.length cc] 27)).cell (p := ⟨b', off' + k * 3 + 1, none⟩) (Nat.lt_of_lt_of_le hbl' hbs)).trans f1
      have hx3 : (wr.alloc (.cells #[.int .i64 vs[k].kind, .int .i64 vs[k].num, .string vs[k].name, .slice M vs[k].labels.length mc, .slice C vs[k].args.length cc] 27)).cell? ⟨b', off' + k * 3 + 2, none⟩ = some (.slice C' ts[k].args.length cc') := (((Below.refl wr.heap.size wr).alloc (Nat.le_refl _) (.cells #[.int .i64 vs[k].kind, .int .i64 vs[k].num, .string vs[k].name, .slice M vs[k].labels.length mc, .slice C vs[k].args.length cc] 27)).cell (p := ⟨b', off' + k * 3 + 2, none⟩) (Nat.lt_of_lt_of_le hbl' hbs)).trans f2
      clear htv htt hbx hsx
      cases hk1 : hasB vs[k] ts[k]
      · rw [hk1] at HT
        have HT' := Lib.hid HT
        have hr := Lib.hid (hasZip_no vs ts k hlt hlt' hk1)
        clear HT hk1
        go_wp2_with fail
        refine HT'.out.mono ?_
        rintro e w3 ⟨rfl, hb3⟩
        go_wp2
        go_ret
        exact ⟨by rw [hr.out]; rfl, hb.trans ((HBX.out.trans (hb3.mono HBX.out.size)).mono hb.size)⟩
      · rw [hk1] at HT
        have HT' := Lib.hid HT
        have HK := Lib.hid hk1
        clear HT hk1
        go_wp2_with fail
        refine HT'.out.mono ?_
        rintro e w3 ⟨rfl, hb3⟩
        go_wp2
        go_roundw
        case rel =>
          refine ⟨k + 1, by omega, by go_num, fun j h1 h2 h => ?_, hb.trans ((HBX.out.trans (hb3.mono HBX.out.size)).mono hb.size)⟩
          by_cases e : j = k
          · subst e
            exact HK.out
          · exact HA.out j h1 h2 (by omega)
        case measure => simp [intOf]; omega
    · have hr := Lib.hid (hasZip_yes vs ts (by have := HL.out; omega) fun i h1 h2 => HA.out i h1 h2 (by omega))
      go_wp2
      go_ret
      exact ⟨by rw [hr.out]; rfl, hb⟩

/-- The closure over a list's type. -/
theorem isOther_any (v : Va) (t : Ty) (V : Value) (a b c : Value) (fb : Nat) (w : World) (hone : IsOfOne v) (hv : VaAt w w.heap.size V v) (ht : TyAt w w.heap.size (.agg #[a, b, c]) t) (hfb : Whole1 w fb 115 #[a, b, c]) (hfv : formVa v = true) (hft : formTy t = true) (hsz : szTy t ≤ 1048576) :
    Calls Tryd.prog 83 #[V, .pointer (some ⟨fb, 0, none⟩)] w (BoolIs (!hasB v t) w) := by
  obtain ⟨L, lc, A, ac, rfl, _⟩ := hv.open
  obtain ⟨L2, lc2, A2, ac2, hv2, _⟩ := ht.open
  simp only [Value.agg.injEq, Array.mk.injEq, List.cons.injEq, and_true] at hv2
  obtain ⟨rfl, rfl, rfl⟩ := hv2
  obtain ⟨hb0, p0, hs0⟩ := boxes1 w 27 #[.int .i64 v.kind, .int .i64 v.num, .string v.name, .slice L v.labels.length lc, .slice A v.args.length ac]
  have HT := Lib.hid (hone t _ _ _ (hv.up hb0) (ht.up hb0) hfv hft hsz)
  have g1 := hfb.below hb0 hfb.lt
  have c0 : (w.alloc (.cells #[.int .i64 v.kind, .int .i64 v.num, .string v.name, .slice L v.labels.length lc, .slice A v.args.length ac] 27)).cell? ⟨fb, 0, none⟩ = some (.int .i64 t.kind) := g1.cell 0
  have c1 : (w.alloc (.cells #[.int .i64 v.kind, .int .i64 v.num, .string v.name, .slice L v.labels.length lc, .slice A v.args.length ac] 27)).cell? ⟨fb, 1, none⟩ = some (.slice L2 t.labels.length lc2) := g1.cell 1
  have c2 : (w.alloc (.cells #[.int .i64 v.kind, .int .i64 v.num, .string v.name, .slice L v.labels.length lc, .slice A v.args.length ac] 27)).cell? ⟨fb, 2, none⟩ = some (.slice A2 t.args.length ac2) := g1.cell 2
  clear hv ht hs0 hfb g1 hone
  go_enter Tryd.func83, Tryd.ntmps83
  go_wp2_with fail
  refine HT.out.mono ?_
  rintro e w1 ⟨rfl, hb1⟩
  cases hh : hasB v t
  · go_wp2
    go_ret
    exact ⟨by rw [hh]; rfl, hb0.trans (hb1.mono hb0.size)⟩
  · go_wp2
    go_ret
    exact ⟨by rw [hh]; rfl, hb0.trans (hb1.mono hb0.size)⟩

def FoundIs (b : Bool) (w : World) (e : Ending) (w' : World) : Prop := ∃ i : Int, e = .returned (.int .i64 i) ∧ (b = true → 0 ≤ i) ∧ (b = false → i = -1) ∧ i ≤ 9223372036854775807 ∧ Below w.heap.size w w'

set_option maxHeartbeats 4000000 in
theorem indexFunc_any (vs : List Va) (t : Ty) (A : Option Addr) (n : Nat) (a b c : Value) (fb : Nat) (w : World) (hall : ∀ i, (h : i < vs.length) → IsOfOne vs[i]) (ha : VasAt w w.heap.size A vs) (ht : TyAt w w.heap.size (.agg #[a, b, c]) t) (hfb : Whole1 w fb 115 #[a, b, c])
    (hfv : ∀ i, (h : i < vs.length) → formVa vs[i] = true) (hft : formTy t = true) (hsz : szTy t ≤ 1048576) :
    Calls Tryd.prog 124 #[.slice A vs.length n, .func (.func 83) #[] #[.pointer (some ⟨fb, 0, none⟩)]] w (FoundIs (!hasEach vs (some t)) w) := by
  have hm := ha.1
  unfold maxLen at hm
  have HC := Lib.hid (fun k (hk : k < vs.length) V W (h : VaAt W W.heap.size V vs[k]) (h2 : Below w.heap.size w W) => isOther_any vs[k] t V a b c fb W (hall k hk) h (ht.up h2) (hfb.below h2 hfb.lt) (hfv k hk) hft hsz)
  clear hall hfv hft ht hfb
  go_enter Tryd.func124, Tryd.ntmps124
  go_wp2
  go_loopw [8] (fun i wr => ∃ k : Nat, k ≤ vs.length ∧ i = .int .i64 k ∧ (∀ j, (h1 : j < vs.length) → j < k → hasB vs[j] t = true) ∧ Below w.heap.size w wr) (fun i _ => vs.length - (intOf i).toNat)
  case atStart => exact ⟨0, Nat.zero_le _, rfl, fun j _ h => absurd h (by omega), Below.refl _ _⟩
  case round =>
    obtain ⟨k, hk, rfl, hall, hb⟩ := hrel
    have HA := Lib.hid hall
    clear hall
    by_cases hlt : k < vs.length
    · have hltI : (k : Int) < (vs.length : Int) := by omega
      obtain ⟨b, off, M, mc, C, cc, rfl, hbl, e0, e1, e2, e3, e4, htv⟩ := (ha.below hb).elem k hlt
      have HT := HC.out k hlt _ wr (htv.more hb.size) hb
      clear htv
      cases hk1 : hasB vs[k] t
      · rw [hk1] at HT
        have HT' := Lib.hid HT
        have hr := Lib.hid (show (!hasEach vs (some t)) = true by rw [hasEach_no vs t k hlt hk1]; rfl)
        clear HT hk1
        go_wp2_with fail
        refine HT'.out.mono ?_
        rintro e w3 ⟨rfl, hb3⟩
        go_wp2
        go_ret
        exact ⟨_, rfl, fun _ => by omega, fun h => (by rw [hr.out] at h; cases h), by omega, hb.trans (hb3.mono hb.size)⟩
      · rw [hk1] at HT
        have HT' := Lib.hid HT
        have HK := Lib.hid hk1
        clear HT hk1
        go_wp2_with fail
        refine HT'.out.mono ?_
        rintro e w3 ⟨rfl, hb3⟩
        go_wp2
        go_roundw
        case rel =>
          refine ⟨k + 1, by omega, by go_num, fun j h1 h => ?_, hb.trans (hb3.mono hb.size)⟩
          by_cases e : j = k
          · subst e
            exact HK.out
          · exact HA.out j h1 (by omega)
        case measure => simp [intOf]; omega
    · have hr := Lib.hid (show (!hasEach vs (some t)) = false by rw [hasEach_yes vs t fun i h1 => HA.out i h1 (by omega)]; rfl)
      go_wp2
      go_ret
      exact ⟨_, rfl, fun h => (by rw [hr.out] at h; cases h), fun _ => rfl, by omega, hb⟩

theorem containsFunc_any (vs : List Va) (t : Ty) (A : Option Addr) (n : Nat) (a b c : Value) (fb : Nat) (w : World) (hall : ∀ i, (h : i < vs.length) → IsOfOne vs[i]) (ha : VasAt w w.heap.size A vs) (ht : TyAt w w.heap.size (.agg #[a, b, c]) t) (hfb : Whole1 w fb 115 #[a, b, c])
    (hfv : ∀ i, (h : i < vs.length) → formVa vs[i] = true) (hft : formTy t = true) (hsz : szTy t ≤ 1048576) :
    Calls Tryd.prog 84 #[.slice A vs.length n, .func (.func 83) #[] #[.pointer (some ⟨fb, 0, none⟩)]] w (BoolIs (!hasEach vs (some t)) w) := by
  have HX := Lib.hid (indexFunc_any vs t A n a b c fb w hall ha ht hfb hfv hft hsz)
  clear hall ha ht hfb hfv hft
  go_enter Tryd.func84, Tryd.ntmps84
  go_wp2_with fail
  refine HX.out.mono ?_
  rintro e w1 ⟨i, rfl, h1, h2, _, hb1⟩
  cases hh : !hasEach vs (some t)
  · have := h2 hh
    subst this
    clear h1 h2
    go_wp2
    go_ret
    exact ⟨by rw [hh]; rfl, hb1⟩
  · have i0 : i ≥ 0 := h1 hh
    clear h1 h2
    go_wp2
    go_ret
    exact ⟨by rw [hh]; rfl, hb1⟩

set_option maxHeartbeats 8000000 in
theorem isOfType_of (k0 n0 : Int) (nm : ByteArray) (ls : List ByteArray) (vs : List Va) (hall : ∀ i, (h : i < vs.length) → IsOfOne vs[i]) : IsOfOne (.mk k0 n0 nm ls vs) := by
  intro t V V' w hv ht hfv hft hsz
  obtain ⟨tk, tl, ts⟩ := t
  have hse := szTy_eq (.mk tk tl ts)
  obtain ⟨L, lc, A, ac, rfl, _, hn, _, hl, ha⟩ := hv.open
  have ht0 := ht
  obtain ⟨L', lc', A', ac', rfl, hn', _, hl', ha'⟩ := ht.open
  have hbu := Lib.hid (show hasB (.mk k0 n0 nm ls vs) (.mk tk tl ts) = (if tk = 1 then decide (k0 = 1) else if tk = 2 then decide (k0 = 2) else if tk = 3 then decide (k0 = 3) && textsB ls tl && hasZip vs ts else if tk = 4 then decide (k0 = 4) && decide (0 ≤ idxOf tl nm) && hasHead vs ts[(idxOf tl nm).toNat]? else decide (k0 = 5) && hasEach vs ts[0]?) by rw [hasB]; rfl)
  simp only [Va.kind, Va.num, Va.name, Va.labels, Va.args, Ty.kind, Ty.labels, Ty.args] at *
  obtain ⟨hnt, hft2⟩ := formTy_mk _ _ _ hft
  obtain ⟨hnv, hfv2⟩ := formVa_mk _ _ _ _ _ hfv
  have hm := ha.1
  have hm' := ha'.1
  have hnl : tl.length < maxLen := by unfold maxLen; omega
  unfold maxLen at hm hm'
  have hszs : szTys ts ≤ 1048576 := by omega
  have HALL := Lib.hid hall
  have HFT := Lib.hid hft2
  have HFV := Lib.hid hfv2
  have HNV := Lib.hid hnv
  have HNT := Lib.hid hnt
  have HN := Lib.hid hn
  have HN' := Lib.hid hn'
  obtain ⟨hb0, p0, q0, hs0⟩ := boxes2 w 27 30 #[.int .i64 k0, .int .i64 n0, .string nm, .slice L ls.length lc, .slice A vs.length ac] #[.int .i64 tk, .slice L' tl.length lc', .slice A' ts.length ac']
  have HV := Lib.hid (formOf_any tk tl ts L' A' lc' ac' _ (ht0.up hb0) hnl)
  have ha0 := ha.up hb0
  have ha0' := ha'.up hb0
  have hl0 := hl.up' hb0
  have hl0' := hl'.up' hb0
  clear hall hv ht ht0 hft hfv hft2 hfv2 hnv hnt hn hn' ha ha' hl hl' hs0 hse q0
  go_enter Tryd.func41, Tryd.ntmps41
  go_wp2_with fail
  generalize (w.alloc (.cells #[.int .i64 k0, .int .i64 n0, .string nm, .slice L ls.length lc, .slice A vs.length ac] 27)).alloc (.cells #[.int .i64 tk, .slice L' tl.length lc', .slice A' ts.length ac'] 30) = w0 at *
  refine HV.out.mono ?_
  rintro e w1 ⟨fv, rfl, hfv, hb1⟩
  have hb1' := hb0.trans (hb1.mono hb0.size)
  have p1 := p0.below hb1 p0.lt
  have HB1 := Lib.hid hb1
  have ha1 := Lib.hid (ha0.up hb1)
  have ha1' := Lib.hid (ha0'.up hb1)
  have hl1 := Lib.hid (hl0.up' hb1)
  have hl1' := Lib.hid (hl0'.up' hb1)
  clear HV hb0 hb1 p0 ha0 ha0' hl0 hl0'
  rcases hfv with ⟨h0, _⟩ | ⟨_, hfv⟩
  · rw [HNT.out] at h0
    cases h0
  · rcases hfv with ⟨rfl, hts, rfl⟩ | ⟨rfl, hts, rfl⟩ | ⟨rfl, rfl⟩ | ⟨rfl, rfl⟩ | ⟨rfl, a, b, c, t1, rfl, ht1, rfl⟩
    · skip
      have haintForm := th_intForm_intForm
      have hb2 := (Below.refl w1.heap.size w1).alloc (Nat.le_refl _) (.cells #[] 107)
      have p2 := p1.below hb2 p1.lt
      have c0 : (w1.alloc (.cells #[] 107)).cell? ⟨w.heap.size, 0, none⟩ = some (.int .i64 k0) := p2.cell 0
      have c0' : w1.cell? ⟨w.heap.size, 0, none⟩ = some (.int .i64 k0) := p1.cell 0
      clear p1 p2 hts
      by_cases hk : k0 = 1
      · have i1 : (k0 == 1) = true := by rw [beq_iff_eq]; exact hk
        have hr := Lib.hid (show hasB (.mk k0 n0 nm ls vs) (.mk 1 tl ts) = true by rw [hbu.out]; simp [hk])
        clear hk hbu
        go_wp2
        go_ret
        exact ⟨by rw [hr.out]; rfl, hb1'.trans (hb2.mono hb1'.size)⟩
      · have i1 : (k0 == 1) = false := by rw [beq_eq_false_iff_ne]; exact hk
        have hr := Lib.hid (show hasB (.mk k0 n0 nm ls vs) (.mk 1 tl ts) = false by rw [hbu.out]; simp [hk])
        clear hk hbu
        go_wp2
        go_ret
        exact ⟨by rw [hr.out]; rfl, hb1'.trans (hb2.mono hb1'.size)⟩
    · skip
      have haintForm := th_boolForm_intForm
      have haboolForm := th_boolForm_boolForm
      have hb2 := (Below.refl w1.heap.size w1).alloc (Nat.le_refl _) (.cells #[] 108)
      have p2 := p1.below hb2 p1.lt
      have c0 : (w1.alloc (.cells #[] 108)).cell? ⟨w.heap.size, 0, none⟩ = some (.int .i64 k0) := p2.cell 0
      have c0' : w1.cell? ⟨w.heap.size, 0, none⟩ = some (.int .i64 k0) := p1.cell 0
      clear p1 p2 hts
      by_cases hk : k0 = 2
      · have i1 : (k0 == 2) = true := by rw [beq_iff_eq]; exact hk
        have hr := Lib.hid (show hasB (.mk k0 n0 nm ls vs) (.mk 2 tl ts) = true by rw [hbu.out]; simp [hk])
        clear hk hbu
        go_wp2
        go_ret
        exact ⟨by rw [hr.out]; rfl, hb1'.trans (hb2.mono hb1'.size)⟩
      · have i1 : (k0 == 2) = false := by rw [beq_eq_false_iff_ne]; exact hk
        have hr := Lib.hid (show hasB (.mk k0 n0 nm ls vs) (.mk 2 tl ts) = false by rw [hbu.out]; simp [hk])
        clear hk hbu
        go_wp2
        go_ret
        exact ⟨by rw [hr.out]; rfl, hb1'.trans (hb2.mono hb1'.size)⟩
    · skip
      have haintForm := th_recForm_intForm
      have haboolForm := th_recForm_boolForm
      have harecForm := th_recForm_recForm
      obtain ⟨hb2, f2, hs2⟩ := boxes1 w1 110 #[.slice L' tl.length lc', .slice A' ts.length ac']
      have p2 := p1.below hb2 p1.lt
      have hb2' := hb1'.trans (hb2.mono hb1'.size)
      have HSE := Lib.hid (slicesEqual_any L L' lc lc' ls tl _ (hl1.out.up' hb2) (hl1'.out.up' hb2) HN.out)
      have ha2 := Lib.hid (ha1.out.up hb2)
      have ha2' := Lib.hid (ha1'.out.up hb2)
      have c0 : (w1.alloc (.cells #[.slice L' tl.length lc', .slice A' ts.length ac'] 110)).cell? ⟨w.heap.size, 0, none⟩ = some (.int .i64 k0) := p2.cell 0
      have c3 : (w1.alloc (.cells #[.slice L' tl.length lc', .slice A' ts.length ac'] 110)).cell? ⟨w.heap.size, 3, none⟩ = some (.slice L ls.length lc) := p2.cell 3
      clear p1 hs2 hl1 hl1' ha1 ha1'
      by_cases hk : k0 = 3
      · subst hk
        have i1 : ((3 : Int) == 3) = true := by simp
        go_wp2_with fail
        clear c0 c3
        generalize w1.alloc (.cells #[.slice L' tl.length lc', .slice A' ts.length ac'] 110) = w2 at *
        refine HSE.out.mono ?_
        rintro e w3 ⟨rfl, n1, rfl⟩
        have hbd := drewN_below w2 n1
        have p3 := p2.drewN n1
        have f3 := f2.drewN n1
        cases htx : textsB ls tl
        · have hr := Lib.hid (show hasB (.mk 3 n0 nm ls vs) (.mk 3 tl ts) = false by rw [hbu.out, htx]; simp)
          clear htx hbu
          go_wp2
          go_ret
          exact ⟨by rw [hr.out]; rfl, hb2'.trans (hbd.mono hb2'.size)⟩
        · have hls : ls = tl := by simpa [textsB] using htx
          have hvl := nodeVB_rec _ _ _ _ HNV.out
          have hkd := nodeB_kind _ _ _ HNT.out
          have hlen : vs.length = ts.length := by
            rcases hkd with h | ⟨_, h, _⟩ | h
            · omega
            · rw [hvl, h, hls]
            · omega
          have HR := Lib.hid (show hasB (.mk 3 n0 nm ls vs) (.mk 3 tl ts) = hasZip vs ts by rw [hbu.out, htx]; simp)
          have HEF := Lib.hid (equalFunc_any vs ts A A' ac ac' (w2.drewN n1) HALL.out (ha2.out.up hbd) (ha2'.out.up hbd) hlen HFV.out HFT.out hszs)
          have hb3' := hb2'.trans (hbd.mono hb2'.size)
          clear htx hbu hls hvl hkd hlen hb2' hbd p2 f2 HSE
          generalize w2.drewN n1 = w3 at *
          have d4 : w3.cell? ⟨w.heap.size, 4, none⟩ = some (.slice A vs.length ac) := p3.cell 4
          have g1 : w3.cell? ⟨w1.heap.size, 1, none⟩ = some (.slice A' ts.length ac') := f3.cell 1
          go_wp2_with fail
          refine HEF.out.mono ?_
          rintro e w4 ⟨rfl, hb4⟩
          go_wp2
          go_ret
          exact ⟨by rw [HR.out]; rfl, hb3'.trans (hb4.mono hb3'.size)⟩
      · have i1 : (k0 == 3) = false := by rw [beq_eq_false_iff_ne]; exact hk
        have hr := Lib.hid (show hasB (.mk k0 n0 nm ls vs) (.mk 3 tl ts) = false by rw [hbu.out]; simp [hk])
        clear hk hbu
        go_wp2
        go_ret
        exact ⟨by rw [hr.out]; rfl, hb2'⟩
    · skip
      have haintForm := th_sumForm_intForm
      have haboolForm := th_sumForm_boolForm
      have harecForm := th_sumForm_recForm
      have hasumForm := th_sumForm_sumForm
      obtain ⟨hb2, f2, hs2⟩ := boxes1 w1 112 #[.slice L' tl.length lc', .slice A' ts.length ac']
      have p2 := p1.below hb2 p1.lt
      have hb2' := hb1'.trans (hb2.mono hb1'.size)
      have HIX := Lib.hid (implIndexOf_any L' lc' _ tl nm _ (hl1'.out.up' hb2) HN'.out)
      have ha2 := Lib.hid (ha1.out.up hb2)
      have ha2' := Lib.hid (ha1'.out.up hb2)
      have c0 : (w1.alloc (.cells #[.slice L' tl.length lc', .slice A' ts.length ac'] 112)).cell? ⟨w.heap.size, 0, none⟩ = some (.int .i64 k0) := p2.cell 0
      have c2 : (w1.alloc (.cells #[.slice L' tl.length lc', .slice A' ts.length ac'] 112)).cell? ⟨w.heap.size, 2, none⟩ = some (.string nm) := p2.cell 2
      have hpw := p2.lt
      have hqw := f2.lt
      clear p1 hs2 hl1 hl1' ha1 ha1'
      go_wp2_with fail
      clear c0 c2
      generalize w1.alloc (.cells #[.slice L' tl.length lc', .slice A' ts.length ac'] 112) = w2 at *
      refine HIX.out.mono ?_
      rintro e w3 ⟨rfl, rfl⟩
      have c0 : w2.cell? ⟨w.heap.size, 0, none⟩ = some (.int .i64 k0) := p2.cell 0
      clear HIX
      by_cases hk : k0 = 4
      · subst hk
        have i1 : ((4 : Int) == 4) = true := by simp
        by_cases hix : 0 ≤ idxOf tl nm
        · have hix2 := idx_lt tl nm hix
          have hvl := nodeVB_tag _ _ _ _ HNV.out
          have hkd := nodeB_kind _ _ _ HNT.out
          obtain ⟨i, hi⟩ : ∃ i : Nat, idxOf tl nm = (i : Int) := ⟨_, (Int.toNat_of_nonneg hix).symm⟩
          rw [hi] at hix hix2 hbu ⊢
          have hit : i < ts.length := by
            simp at hix2
            rcases hkd with h | ⟨_, h, _⟩ | h
            · omega
            · omega
            · omega
          have h0v : 0 < vs.length := by omega
          have HR := Lib.hid (show hasB (.mk 4 n0 nm ls vs) (.mk 4 tl ts) = hasB vs[0] ts[i] by rw [hbu.out]; simp only [Int.toNat_natCast]; rw [hasHead_at vs ts i h0v hit]; simp [hix])
          clear hbu hi hix2 hvl hkd
          have hitI : (i : Int) < (ts.length : Int) := by omega
          have h0vI : (0 : Int) < (vs.length : Int) := by omega
          have hixI : (i : Int) ≥ 0 := by omega
          have c4 : w2.cell? ⟨w.heap.size, 4, none⟩ = some (.slice A vs.length ac) := p2.cell 4
          have g1 : w2.cell? ⟨w1.heap.size, 1, none⟩ = some (.slice A' ts.length ac') := f2.cell 1
          obtain ⟨b, off, M, mc, C, cc, rfl, hbw, e0, e1, e2, e3, e4, htv⟩ := ha2.out.elem 0 h0v
          obtain ⟨b', off', M', mc', C', cc', rfl, hbw', f0, f1, f2', _, _, _, _, htt⟩ := ha2'.out.elem i hit
          rw [Nat.zero_mul, Nat.add_zero] at e0 e1 e2 e3 e4
          have hpt := szTy_part ts i hit
          have HT' := Lib.hid (HALL.out 0 h0v ts[i] _ _ w2.drew (htv.up (Below.refl _ _).drew) (htt.up (Below.refl _ _).drew) (HFV.out 0 h0v) (HFT.out i hit) (by omega))
          have f2 := f2'
          clear htv htt hpt f2'
          generalize hx : hasB vs[0] ts[i] = x at *
          clear hx
          go_wp2
          go_region_held3 (fun x => x.cell? ⟨w.heap.size, 0, none⟩ = some (.int .i64 4) ∧ x.cell? ⟨w.heap.size, 4, none⟩ = some (.slice (some ⟨b, off, none⟩) vs.length ac) ∧ x.cell? ⟨w1.heap.size, 1, none⟩ = some (.slice (some ⟨b', off', none⟩) ts.length ac') ∧ x.cell? ⟨b, off, none⟩ = some (.int .i64 vs[0].kind) ∧ x.cell? ⟨b, off + 1, none⟩ = some (.int .i64 vs[0].num) ∧ x.cell? ⟨b, off + 2, none⟩ = some (.string vs[0].name) ∧ x.cell? ⟨b, off + 3, none⟩ = some (.slice M vs[0].labels.length mc) ∧ x.cell? ⟨b, off + 4, none⟩ = some (.slice C vs[0].args.length cc) ∧ x.cell? ⟨b', off' + i * 3, none⟩ = some (.int .i64 ts[i].kind) ∧ x.cell? ⟨b', off' + i * 3 + 1, none⟩ = some (.slice M' ts[i].labels.length mc') ∧ x.cell? ⟨b', off' + i * 3 + 2, none⟩ = some (.slice C' ts[i].args.length cc') ∧ Below w2.heap.size w2 x) ((first | exact ⟨c0, c4, g1, e0, e1, e2, e3, e4, f0, f1, f2, (Below.refl _ _).drew⟩ | exact ⟨y0, y1, y2, k0, k1, k2, k3, k4, l0, l1, l2, k6⟩))
            (first | (go_at_call 41; refine HT'.out.mono ?_; rintro e w' ⟨rfl, hb3⟩; have k6 := (Below.refl w2.heap.size w2).drew.trans hb3; have y0 := (k6.cell (p := ⟨w.heap.size, 0, none⟩) hpw).trans c0; have y1 := (k6.cell (p := ⟨w.heap.size, 4, none⟩) hpw).trans c4; have y2 := (k6.cell (p := ⟨w1.heap.size, 1, none⟩) hqw).trans g1; have k0 := (k6.cell (p := ⟨b, off, none⟩) hbw).trans e0; have k1 := (k6.cell (p := ⟨b, off + 1, none⟩) hbw).trans e1; have k2 := (k6.cell (p := ⟨b, off + 2, none⟩) hbw).trans e2; have k3 := (k6.cell (p := ⟨b, off + 3, none⟩) hbw).trans e3; have k4 := (k6.cell (p := ⟨b, off + 4, none⟩) hbw).trans e4; have l0 := (k6.cell (p := ⟨b', off' + i * 3, none⟩) hbw').trans f0; have l1 := (k6.cell (p := ⟨b', off' + i * 3 + 1, none⟩) hbw').trans f1; have l2 := (k6.cell (p := ⟨b', off' + i * 3 + 2, none⟩) hbw').trans f2))
          go_wp2
          go_ret
          exact ⟨by rw [HR.out]; rfl, hb2'.trans (k6.mono hb2'.size)⟩
        · have hr := Lib.hid (show hasB (.mk 4 n0 nm ls vs) (.mk 4 tl ts) = false by rw [hbu.out]; simp [hix])
          have hixI : ¬ idxOf tl nm ≥ 0 := by omega
          have hixD : decide (0 ≤ idxOf tl nm) = false := by rw [decide_eq_false_iff_not]; exact hix
          clear hbu hix
          generalize idxOf tl nm = ix at *
          go_wp2
          go_quiet (fail)
          go_wp2
          go_ret
          exact ⟨by rw [hr.out]; rfl, hb2'.trans ⟨rfl, rfl, rfl, Nat.le_refl _, fun _ _ => rfl⟩⟩
      · have i1 : (k0 == 4) = false := by rw [beq_eq_false_iff_ne]; exact hk
        have hr := Lib.hid (show hasB (.mk k0 n0 nm ls vs) (.mk 4 tl ts) = false by rw [hbu.out]; simp [hk])
        clear hk hbu
        generalize idxOf tl nm = ix at *
        go_wp2
        go_quiet (fail)
        go_wp2
        go_ret
        exact ⟨by rw [hr.out]; rfl, hb2'.trans ⟨rfl, rfl, rfl, Nat.le_refl _, fun _ _ => rfl⟩⟩
    · skip
      have haintForm := th_listForm_intForm
      have haboolForm := th_listForm_boolForm
      have harecForm := th_listForm_recForm
      have hasumForm := th_listForm_sumForm
      have halistForm := th_listForm_listForm
      obtain ⟨L2, lc2, A2, ac2, hv2, _⟩ := ht1.open
      simp only [Value.agg.injEq, Array.mk.injEq, List.cons.injEq, and_true] at hv2
      obtain ⟨rfl, rfl, rfl⟩ := hv2
      obtain ⟨hb2, f2, hs2⟩ := boxes1 w1 115 #[.int .i64 t1.kind, .slice L2 t1.labels.length lc2, .slice A2 t1.args.length ac2]
      have p2 := p1.below hb2 p1.lt
      have hb2' := hb1'.trans (hb2.mono hb1'.size)
      have ht2 := (ht1.up HB1.out).up hb2
      have hpt := szTy_part [t1] 0 (by simp)
      have HCF := Lib.hid (fun W (h : Below (w1.alloc (.cells #[.int .i64 t1.kind, .slice L2 t1.labels.length lc2, .slice A2 t1.args.length ac2] 115)).heap.size (w1.alloc (.cells #[.int .i64 t1.kind, .slice L2 t1.labels.length lc2, .slice A2 t1.args.length ac2] 115)) W) => containsFunc_any vs t1 A ac _ _ _ w1.heap.size W HALL.out ((ha1.out.up hb2).up h) (ht2.up h) (f2.below h f2.lt) HFV.out (HFT.out 0 (by simp)) (by simp at hpt; omega))
      have c0 : (w1.alloc (.cells #[.int .i64 t1.kind, .slice L2 t1.labels.length lc2, .slice A2 t1.args.length ac2] 115)).cell? ⟨w.heap.size, 0, none⟩ = some (.int .i64 k0) := p2.cell 0
      clear p1 hs2 hl1 hl1' ha1 ha1' ht1 ht2 hpt f2
      by_cases hk : k0 = 5
      · subst hk
        have i1 : ((5 : Int) == 5) = true := by simp
        have HR := Lib.hid (show hasB (.mk 5 n0 nm ls vs) (.mk 5 tl [t1]) = hasEach vs (some t1) by rw [hbu.out]; simp)
        have c4 : (w1.alloc (.cells #[.int .i64 t1.kind, .slice L2 t1.labels.length lc2, .slice A2 t1.args.length ac2] 115)).cell? ⟨w.heap.size, 4, none⟩ = some (.slice A vs.length ac) := p2.cell 4
        clear hbu
        go_wp2_with fail
        refine (HCF.out _ (Below.refl _ _)).mono ?_
        rintro e w3 ⟨rfl, hb3⟩
        cases hh : hasEach vs (some t1)
        · go_wp2
          go_ret
          exact ⟨by rw [HR.out, hh]; rfl, hb2'.trans (hb3.mono hb2'.size)⟩
        · go_wp2
          go_ret
          exact ⟨by rw [HR.out, hh]; rfl, hb2'.trans (hb3.mono hb2'.size)⟩
      · have i1 : (k0 == 5) = false := by rw [beq_eq_false_iff_ne]; exact hk
        have hr := Lib.hid (show hasB (.mk k0 n0 nm ls vs) (.mk 5 tl [t1]) = false by rw [hbu.out]; simp [hk])
        clear hk hbu
        go_wp2
        go_ret
        exact ⟨by rw [hr.out]; rfl, hb2'⟩

theorem isOfType_any (v : Va) : IsOfOne v := by
  induction v using Va.ind with
  | h k n nm ls vs ih => exact isOfType_of k n nm ls vs ih

set_option maxHeartbeats 2000000 in
theorem implHas_any (v : Va) (t : Ty) (V V' : Value) (w : World) (hv : OwnV w V v) (ht : OwnT w V' t) (hF : FormsAt w) (hnum : numsB v = true) (hsz : szVa v ≤ 1048576) (hsz' : szTy t ≤ 1048576) :
    Calls Tryd.prog 12 #[V, V'] w (BoolIs (hasTypeB v t) w) := by
  have H1 := Lib.hid (fun V W h hf => implIsValue_any v V W h hf hnum hsz)
  have H2 := Lib.hid (fun V W h => implValid_any t V W h hsz')
  have H3 := Lib.hid (fun V V' W h h' e1 e2 => isOfType_any v t V V' W h h' e1 e2 hsz')
  obtain ⟨L, lc, A, ac, rfl, _⟩ := hv.open
  obtain ⟨L', lc', A', ac', rfl, _⟩ := ht.open
  obtain ⟨hb0, p0, q0, hs0⟩ := boxes2 w 27 30 #[.int .i64 v.kind, .int .i64 v.num, .string v.name, .slice L v.labels.length lc, .slice A v.args.length ac] #[.int .i64 t.kind, .slice L' t.labels.length lc', .slice A' t.args.length ac']
  have hv1 := hv.up hb0
  have ht1 := ht.up hb0
  have hF1 := hF.below hb0
  have hpl := p0.lt
  have hql := q0.lt
  clear hs0 hv ht hF
  go_enter Tryd.func12, Tryd.ntmps12
  go_wp2_with fail
  generalize (w.alloc (.cells #[.int .i64 v.kind, .int .i64 v.num, .string v.name, .slice L v.labels.length lc, .slice A v.args.length ac] 27)).alloc (.cells #[.int .i64 t.kind, .slice L' t.labels.length lc', .slice A' t.args.length ac'] 30) = w0 at *
  refine (H1.out _ w0 hv1 hF1).mono ?_
  rintro e w1 ⟨rfl, hb1⟩
  have hb1' := hb0.trans (hb1.mono hb0.size)
  cases e1 : valueB v
  · have hr := Lib.hid (show hasTypeB v t = false by unfold hasTypeB; rw [e1]; rfl)
    clear e1
    go_wp2
    go_ret
    exact ⟨by rw [hr.out]; rfl, hb1'⟩
  · have E1 := Lib.hid e1
    have p1 := p0.below hb1 hpl
    have q1 := q0.below hb1 hql
    have hv2 := hv1.up hb1
    have ht2 := ht1.up hb1
    have d0 : w1.cell? ⟨w.heap.size + 1, 0, none⟩ = some (.int .i64 t.kind) := q1.cell 0
    have d1 : w1.cell? ⟨w.heap.size + 1, 1, none⟩ = some (.slice L' t.labels.length lc') := q1.cell 1
    have d2 : w1.cell? ⟨w.heap.size + 1, 2, none⟩ = some (.slice A' t.args.length ac') := q1.cell 2
    clear e1
    go_wp2_with fail
    refine (H2.out _ w1 ht2).mono ?_
    rintro e w2 ⟨rfl, hb2⟩
    have hb2' := hb1'.trans (hb2.mono hb1'.size)
    cases e2 : validB t
    · have hr := Lib.hid (show hasTypeB v t = false by unfold hasTypeB; rw [e2]; simp)
      clear e2
      go_wp2
      go_ret
      exact ⟨by rw [hr.out]; rfl, hb2'⟩
    · have p2 := p1.below hb2 p1.lt
      have q2 := q1.below hb2 q1.lt
      have hv3 := (hv2.up hb2).here
      have ht3 := (ht2.up hb2).here
      have E2 := Lib.hid e2
      have hfv : formVa v = true := by
        have := E1.out
        unfold valueB at this
        rw [Bool.and_eq_true] at this
        exact this.2
      have hft : formTy t = true := by
        have := E2.out
        unfold validB at this
        simp only [Bool.and_eq_true] at this
        exact this.2
      have HC := Lib.hid (H3.out _ _ w2 hv3 ht3 hfv hft)
      have hr := Lib.hid (show hasTypeB v t = hasB v t by unfold hasTypeB; rw [E1.out, E2.out]; rfl)
      have c0 : w2.cell? ⟨w.heap.size, 0, none⟩ = some (.int .i64 v.kind) := p2.cell 0
      have c1 : w2.cell? ⟨w.heap.size, 1, none⟩ = some (.int .i64 v.num) := p2.cell 1
      have c2 : w2.cell? ⟨w.heap.size, 2, none⟩ = some (.string v.name) := p2.cell 2
      have c3 : w2.cell? ⟨w.heap.size, 3, none⟩ = some (.slice L v.labels.length lc) := p2.cell 3
      have c4 : w2.cell? ⟨w.heap.size, 4, none⟩ = some (.slice A v.args.length ac) := p2.cell 4
      have g0 : w2.cell? ⟨w.heap.size + 1, 0, none⟩ = some (.int .i64 t.kind) := q2.cell 0
      have g1 : w2.cell? ⟨w.heap.size + 1, 1, none⟩ = some (.slice L' t.labels.length lc') := q2.cell 1
      have g2 : w2.cell? ⟨w.heap.size + 1, 2, none⟩ = some (.slice A' t.args.length ac') := q2.cell 2
      clear e2 hfv hft d0 d1 d2
      go_wp2_with fail
      refine HC.out.mono ?_
      rintro e w3 ⟨rfl, hb3⟩
      go_wp2
      go_ret
      exact ⟨by rw [hr.out]; rfl, hb2'.trans (hb3.mono hb2'.size)⟩

end Go.Proofs.YtlmbnefoobameaaDoor
end

section
namespace Go.Proofs.YtlmbnefoobameaaDoor
open Go.RowKit

/-- The same tree? -/
noncomputable def eqVaB (a b : Va) : Bool := @decide (a = b) (Classical.propDecidable _)
theorem eqVaB_yes {a b : Va} (h : a = b) : eqVaB a b = true := by unfold eqVaB; simp [h]
theorem eqVaB_no {a b : Va} (h : a ≠ b) : eqVaB a b = false := by unfold eqVaB; simp [h]
theorem Va.ext {a b : Va} (h1 : a.kind = b.kind) (h2 : a.num = b.num) (h3 : a.name = b.name) (h4 : a.labels = b.labels) (h5 : a.args = b.args) : a = b := by
  cases a; cases b
  simp only [Va.kind, Va.num, Va.name, Va.labels, Va.args] at h1 h2 h3 h4 h5
  rw [h1, h2, h3, h4, h5]

def EqualVOne (f : Nat) (t : Va) : Prop := ∀ (t' : Va) (v v' : Value) (w : World), VaAt w w.heap.size v t → VaAt w w.heap.size v' t' → Calls Tryd.prog f #[v, v'] w (BoolIs (eqVaB t t') w)

set_option maxHeartbeats 4000000 in
theorem specEqualV_of (t : Va) (hall : ∀ i, (h : i < t.args.length) → EqualVOne 19 t.args[i]) : EqualVOne 19 t := by
  intro t' v v' w hv hv'
  obtain ⟨L, lc, A, ac, rfl, _, hn, hz, hl, ha⟩ := hv.open
  obtain ⟨L', lc', A', ac', rfl, _, hn', hz', hl', ha'⟩ := hv'.open
  have HALL := Lib.hid hall
  have HN := Lib.hid hn
  have hm := ha.1
  unfold maxLen at hm
  clear hz hz' hn hn' hall hv hv'
  obtain ⟨hb0, p0, q0, hs0⟩ := boxes2 w 27 27 #[.int .i64 t.kind, .int .i64 t.num, .string t.name, .slice L t.labels.length lc, .slice A t.args.length ac] #[.int .i64 t'.kind, .int .i64 t'.num, .string t'.name, .slice L' t'.labels.length lc', .slice A' t'.args.length ac']
  by_cases hk : t.kind = t'.kind
  · have hkk : (t.kind != t'.kind) = false := by rw [bne_eq_false_iff_eq]; exact hk
    have HK := Lib.hid hk
    clear hk
    by_cases hm2 : t.num = t'.num
    · have hmm : (t.num != t'.num) = false := by rw [bne_eq_false_iff_eq]; exact hm2
      have HM := Lib.hid hm2
      clear hm2
      by_cases he2 : t.name = t'.name
      · have hee : (t.name.toList != t'.name.toList) = false := by rw [bne_eq_false_iff_eq, he2]
        have hee2 : (t.name.toList == t'.name.toList) = true := by rw [beq_iff_eq, he2]
        have HE2 := Lib.hid he2
        clear he2
        go_enter Tryd.func19, Tryd.ntmps19
        go_wp2_with fail
        generalize (w.alloc (.cells #[.int .i64 t.kind, .int .i64 t.num, .string t.name, .slice L t.labels.length lc, .slice A t.args.length ac] 27)).alloc (.cells #[.int .i64 t'.kind, .int .i64 t'.num, .string t'.name, .slice L' t'.labels.length lc', .slice A' t'.args.length ac'] 27) = w0 at *
        have HZ := Lib.hid hs0
        clear hs0
        refine (specTexts_any L L' lc lc' t.labels t'.labels w0 (hl.up' hb0) (hl'.up' hb0) HN.out).mono ?_
        rintro e w1 ⟨rfl, n1, rfl⟩
        have p1 := p0.drewN n1
        have q1 := q0.drewN n1
        have hb1 := hb0.trans ((drewN_below w0 n1).mono hb0.size)
        have hsz1 : (w0.drewN n1).heap.size = w0.heap.size := rfl
        have HZ1 := Lib.hid hsz1
        clear p0 q0 hsz1
        generalize w0.drewN n1 = w1 at *
        have hbA := hb1
        have ha1 := ha.up hb1
        have ha1' := ha'.up hb1
        have hpl : w.heap.size < w1.heap.size := by have := HZ.out; have := HZ1.out; omega
        have hql : w.heap.size + 1 < w1.heap.size := by have := HZ.out; have := HZ1.out; omega
        have c2 : w1.cell? ⟨w.heap.size, 4, none⟩ = some (.slice A t.args.length ac) := p1.cell 4
        have c2' : w1.cell? ⟨w.heap.size + 1, 4, none⟩ = some (.slice A' t'.args.length ac') := q1.cell 4
        cases htx : textsB t.labels t'.labels
        · have hr := Lib.hid (show eqVaB t t' = false from eqVaB_no fun e => by
            rw [e] at htx
            simp [textsB] at htx)
          clear htx
          go_wp2
          go_ret
          exact ⟨by rw [hr.out]; rfl, hb1⟩
        · have hls : t.labels = t'.labels := by simpa [textsB] using htx
          have HLS := Lib.hid hls
          clear htx hls
          by_cases hlen : t.args.length = t'.args.length
          · have hneq : ((t.args.length : Int) != (t'.args.length : Int)) = false := by rw [bne_eq_false_iff_eq]; omega
            have HLEN := Lib.hid hlen
            have hlen1 : t.args.length ≤ t'.args.length := by omega
            clear hlen
            go_wp2
            clear c2 c2' hneq
            go_loopw [5] (fun i wr => ∃ k : Nat, k ≤ t.args.length ∧ i = .int .i64 k ∧ (∀ j, (h1 : j < t.args.length) → (h2 : j < t'.args.length) → j < k → t.args[j] = t'.args[j]) ∧ Below w1.heap.size w1 wr) (fun i _ => t.args.length - (intOf i).toNat)
            case atStart => exact ⟨0, Nat.zero_le _, rfl, fun j _ _ h => absurd h (by omega), Below.refl _ _⟩
            case round =>
              obtain ⟨k, hk, rfl, hall, hb⟩ := hrel
              have HA := Lib.hid hall
              clear hall
              have c2 : wr.cell? ⟨w.heap.size, 4, none⟩ = some (.slice A t.args.length ac) := (p1.below hb hpl).cell 4
              have c2' : wr.cell? ⟨w.heap.size + 1, 4, none⟩ = some (.slice A' t'.args.length ac') := (q1.below hb hql).cell 4
              by_cases hlt : k < t.args.length
              · obtain ⟨b, off, M, mc, C, cc, rfl, hbl, e0, e1, e2, e3, e4, ht⟩ := (ha1.below hb).elem k hlt
                obtain ⟨b', off', M', mc', C', cc', rfl, hbl', f0, f1, f2, f3, f4, ht'⟩ := (ha1'.below hb).elem k (by omega)
                have hbs := hb.size
                have hbw : b < wr.heap.size := by omega
                have hbw' : b' < wr.heap.size := by omega
                have hpw : w.heap.size < wr.heap.size := by omega
                have hqw : w.heap.size + 1 < wr.heap.size := by omega
                have HT := HALL.out k hlt (t'.args[k]'(by omega)) _ _ wr.drew ((ht.more hbs).up (Below.refl _ _).drew) ((ht'.more hbs).up (Below.refl _ _).drew)
                have hlt' : k < t'.args.length := by omega
                by_cases hek : t.args[k] = t'.args[k]
                · rw [eqVaB_yes hek] at HT
                  have HT' := Lib.hid HT
                  have HE := Lib.hid hek
                  clear ht ht' HT hek
                  go_wp2
                  go_region_held3 (fun w' => w'.cell? ⟨w.heap.size, 4, none⟩ = some (.slice (some ⟨b, off, none⟩) t.args.length ac) ∧ w'.cell? ⟨w.heap.size + 1, 4, none⟩ = some (.slice (some ⟨b', off', none⟩) t'.args.length ac') ∧ w'.cell? ⟨b, off + k * 5, none⟩ = some (.int .i64 t.args[k].kind) ∧ w'.cell? ⟨b, off + k * 5 + 1, none⟩ = some (.int .i64 t.args[k].num) ∧ w'.cell? ⟨b, off + k * 5 + 2, none⟩ = some (.string t.args[k].name) ∧ w'.cell? ⟨b, off + k * 5 + 3, none⟩ = some (.slice M t.args[k].labels.length mc) ∧ w'.cell? ⟨b, off + k * 5 + 4, none⟩ = some (.slice C t.args[k].args.length cc) ∧ w'.cell? ⟨b', off' + k * 5, none⟩ = some (.int .i64 (t'.args[k]'hlt').kind) ∧ w'.cell? ⟨b', off' + k * 5 + 1, none⟩ = some (.int .i64 (t'.args[k]'hlt').num) ∧ w'.cell? ⟨b', off' + k * 5 + 2, none⟩ = some (.string (t'.args[k]'hlt').name) ∧ w'.cell? ⟨b', off' + k * 5 + 3, none⟩ = some (.slice M' (t'.args[k]'hlt').labels.length mc') ∧ w'.cell? ⟨b', off' + k * 5 + 4, none⟩ = some (.slice C' (t'.args[k]'hlt').args.length cc') ∧ Below wr.heap.size wr w') ((first | exact ⟨c2, c2', e0, e1, e2, e3, e4, f0, f1, f2, f3, f4, (Below.refl _ _).drew⟩ | exact ⟨y0, y1, k0, k1, k2, k3, k4, l0, l1, l2, l3, l4, k6⟩))
                    (first | (go_at_call 19; refine HT'.out.mono ?_; rintro e w' ⟨rfl, hb1⟩; have k6 := (Below.refl wr.heap.size wr).drew.trans hb1; have y0 := (k6.cell (p := ⟨w.heap.size, 4, none⟩) hpw).trans c2; have y1 := (k6.cell (p := ⟨w.heap.size + 1, 4, none⟩) hqw).trans c2'; have k0 := (k6.cell (p := ⟨b, off + k * 5, none⟩) hbw).trans e0; have k1 := (k6.cell (p := ⟨b, off + k * 5 + 1, none⟩) hbw).trans e1; have k2 := (k6.cell (p := ⟨b, off + k * 5 + 2, none⟩) hbw).trans e2; have k3 := (k6.cell (p := ⟨b, off + k * 5 + 3, none⟩) hbw).trans e3; have k4 := (k6.cell (p := ⟨b, off + k * 5 + 4, none⟩) hbw).trans e4; have l0 := (k6.cell (p := ⟨b', off' + k * 5, none⟩) hbw').trans f0; have l1 := (k6.cell (p := ⟨b', off' + k * 5 + 1, none⟩) hbw').trans f1; have l2 := (k6.cell (p := ⟨b', off' + k * 5 + 2, none⟩) hbw').trans f2; have l3 := (k6.cell (p := ⟨b', off' + k * 5 + 3, none⟩) hbw').trans f3; have l4 := (k6.cell (p := ⟨b', off' + k * 5 + 4, none⟩) hbw').trans f4))
                  go_wp2
                  go_roundw
                  case rel =>
                    refine ⟨k + 1, by omega, by go_num, fun j h1 h2 h => ?_, hb.trans (k6.mono hbs)⟩
                    by_cases e : j = k
                    · subst e
                      exact HE.out
                    · exact HA.out j h1 h2 (by omega)
                  case measure => simp [intOf]; omega
                · have hr := Lib.hid (show eqVaB t t' = false from eqVaB_no fun e => hek (by subst e; rfl))
                  rw [eqVaB_no hek] at HT
                  have HT' := Lib.hid HT
                  clear ht ht' HT hek
                  go_wp2
                  go_region_held3 (fun w' => w'.cell? ⟨w.heap.size, 4, none⟩ = some (.slice (some ⟨b, off, none⟩) t.args.length ac) ∧ w'.cell? ⟨w.heap.size + 1, 4, none⟩ = some (.slice (some ⟨b', off', none⟩) t'.args.length ac') ∧ w'.cell? ⟨b, off + k * 5, none⟩ = some (.int .i64 t.args[k].kind) ∧ w'.cell? ⟨b, off + k * 5 + 1, none⟩ = some (.int .i64 t.args[k].num) ∧ w'.cell? ⟨b, off + k * 5 + 2, none⟩ = some (.string t.args[k].name) ∧ w'.cell? ⟨b, off + k * 5 + 3, none⟩ = some (.slice M t.args[k].labels.length mc) ∧ w'.cell? ⟨b, off + k * 5 + 4, none⟩ = some (.slice C t.args[k].args.length cc) ∧ w'.cell? ⟨b', off' + k * 5, none⟩ = some (.int .i64 (t'.args[k]'hlt').kind) ∧ w'.cell? ⟨b', off' + k * 5 + 1, none⟩ = some (.int .i64 (t'.args[k]'hlt').num) ∧ w'.cell? ⟨b', off' + k * 5 + 2, none⟩ = some (.string (t'.args[k]'hlt').name) ∧ w'.cell? ⟨b', off' + k * 5 + 3, none⟩ = some (.slice M' (t'.args[k]'hlt').labels.length mc') ∧ w'.cell? ⟨b', off' + k * 5 + 4, none⟩ = some (.slice C' (t'.args[k]'hlt').args.length cc') ∧ Below wr.heap.size wr w') ((first | exact ⟨c2, c2', e0, e1, e2, e3, e4, f0, f1, f2, f3, f4, (Below.refl _ _).drew⟩ | exact ⟨y0, y1, k0, k1, k2, k3, k4, l0, l1, l2, l3, l4, k6⟩))
                    (first | (go_at_call 19; refine HT'.out.mono ?_; rintro e w' ⟨rfl, hb1⟩; have k6 := (Below.refl wr.heap.size wr).drew.trans hb1; have y0 := (k6.cell (p := ⟨w.heap.size, 4, none⟩) hpw).trans c2; have y1 := (k6.cell (p := ⟨w.heap.size + 1, 4, none⟩) hqw).trans c2'; have k0 := (k6.cell (p := ⟨b, off + k * 5, none⟩) hbw).trans e0; have k1 := (k6.cell (p := ⟨b, off + k * 5 + 1, none⟩) hbw).trans e1; have k2 := (k6.cell (p := ⟨b, off + k * 5 + 2, none⟩) hbw).trans e2; have k3 := (k6.cell (p := ⟨b, off + k * 5 + 3, none⟩) hbw).trans e3; have k4 := (k6.cell (p := ⟨b, off + k * 5 + 4, none⟩) hbw).trans e4; have l0 := (k6.cell (p := ⟨b', off' + k * 5, none⟩) hbw').trans f0; have l1 := (k6.cell (p := ⟨b', off' + k * 5 + 1, none⟩) hbw').trans f1; have l2 := (k6.cell (p := ⟨b', off' + k * 5 + 2, none⟩) hbw').trans f2; have l3 := (k6.cell (p := ⟨b', off' + k * 5 + 3, none⟩) hbw').trans f3; have l4 := (k6.cell (p := ⟨b', off' + k * 5 + 4, none⟩) hbw').trans f4))
                  go_wp2
                  go_ret
                  exact ⟨by rw [hr.out]; rfl, hbA.trans ((hb.trans (k6.mono hbs)).mono hbA.size)⟩
              · have hr := Lib.hid (show eqVaB t t' = true from eqVaB_yes (Va.ext HK.out HM.out HE2.out HLS.out (List.ext_getElem HLEN.out fun j h1 h2 => HA.out j h1 h2 (by omega))))
                go_wp2
                go_ret
                exact ⟨by rw [hr.out]; rfl, hb1.trans (hb.mono hb1.size)⟩
          · have hneq : ((t.args.length : Int) != (t'.args.length : Int)) = true := by rw [bne_iff_ne]; omega
            have hr := Lib.hid (show eqVaB t t' = false from eqVaB_no fun e => hlen (by rw [e]))
            clear hlen
            go_wp2
            go_ret
            exact ⟨by rw [hr.out]; rfl, hb1⟩
      · have hne2 : t.name.toList ≠ t'.name.toList := by
          rw [ByteArray.toList_eq, ByteArray.toList_eq]
          exact fun e => he2 (WideShapes.bytes_inj e)
        have hee : (t.name.toList != t'.name.toList) = true := by rw [bne_iff_ne]; exact hne2
        have hee2 : (t.name.toList == t'.name.toList) = false := by rw [beq_eq_false_iff_ne]; exact hne2
        have hr := Lib.hid (show eqVaB t t' = false from eqVaB_no fun e => he2 (by rw [e]))
        clear he2 hne2
        go_enter Tryd.func19, Tryd.ntmps19
        go_wp2
        go_ret
        exact ⟨by rw [hr.out]; rfl, hb0⟩
    · have hmm : (t.num != t'.num) = true := by rw [bne_iff_ne]; exact hm2
      have hr := Lib.hid (show eqVaB t t' = false from eqVaB_no fun e => hm2 (by rw [e]))
      clear hm2
      go_enter Tryd.func19, Tryd.ntmps19
      go_wp2
      go_ret
      exact ⟨by rw [hr.out]; rfl, hb0⟩
  · have hkk : (t.kind != t'.kind) = true := by rw [bne_iff_ne]; exact hk
    have hr := Lib.hid (show eqVaB t t' = false from eqVaB_no fun e => hk (by rw [e]))
    clear hk
    go_enter Tryd.func19, Tryd.ntmps19
    go_wp2
    go_ret
    exact ⟨by rw [hr.out]; rfl, hb0⟩

theorem specEqualV_any (t : Va) : EqualVOne 19 t := by
  induction t using Va.ind with
  | h k n nm ls ts ih => exact specEqualV_of (.mk k n nm ls ts) ih

end Go.Proofs.YtlmbnefoobameaaDoor
end
