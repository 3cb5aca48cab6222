/- Lemmas: ImplEqual, SpecVaEq. -/
import Derived.Test.YtceclhndagoddaaGreatDoorLawFnValueText_23
import Derived.Test.YtceclhndagoddaaGreatDoorLawFnValueText_7
import Derived.Test.YtceclhndagoddaaGreatDoorLawFnValueText_24
import Derived.Deep.RegionHeld3
import Derived.Deep.RegionHeldLaw

section
namespace Go.Proofs.YtceclhndagoddaaGreatDoor
set_option maxRecDepth 100000
open Go.RowKit

def plP : Pl → Value | none => .pointer none | some (g, _) => .pointer (some ⟨g, 0, none⟩)
def plN : Pl → Value | none => .int .i64 0 | some (_, n) => .int .i64 (n : Int)
theorem plVal_eq (k : Pl) : plVal k = .agg #[plP k, plN k] := by
  match k with
  | none => rfl
  | some (g, n) => rfl
def pl2Val (k : Pl × Pl) : Value := .agg #[plP k.1, plN k.1, plP k.2, plN k.2]
def Pl2Ok (w1 : World) (B mb : Nat) (k : Pl × Pl) : Prop := PlOk w1 B mb k.1 ∧ PlOk w1 B mb k.2

theorem bits_plP (k : Pl) (n : Nat) : Instr.sameBits n (plP k) (plP k) = true := by
  match k with
  | none => simp [plP, Instr.sameBits]
  | some (g, m) => simp [plP, Instr.sameBits]
theorem bits_plN (k : Pl) (n : Nat) : Instr.sameBits n (plN k) (plN k) = true := by
  match k with
  | none => simp [plN, Instr.sameBits]
  | some (g, m) => simp [plN, Instr.sameBits]

end Go.Proofs.YtceclhndagoddaaGreatDoor

namespace Go.Proofs.YtceclhndagoddaaGreatDoor
set_option maxRecDepth 100000
open Go.RowKit

set_option maxHeartbeats 1000000 in
theorem slicesEqual_any (A A' : Option Addr) (c c' : Nat) (ss ss' : List ByteArray) (w : World) (hA : StrsAt w w.heap.size A ss) (hA' : StrsAt w w.heap.size A' ss') (hn : ss.length ≤ maxLen) :
    Calls Tryz.prog 54 #[.slice A ss.length c, .slice A' ss'.length c'] w (BoolDrew (textsB ss ss') w) := by
  unfold maxLen at hn
  by_cases hl : ss.length = ss'.length
  · have hneq : ((ss.length : Int) != (ss'.length : Int)) = false := by rw [bne_eq_false_iff_eq]; omega
    have HL := Lib.hid hl
    have hl1 : ss.length ≤ ss'.length := by omega
    clear hl
    go_enter Tryz.func54, Tryz.ntmps54
    go_wp2
    go_loopw [13] (fun i wr => ∃ k : Nat, k ≤ ss.length ∧ i = .int .i64 k ∧ (∀ j, (h1 : j < ss.length) → (h2 : j < ss'.length) → j < k → ss[j] = ss'[j]) ∧ ∃ n, wr = w.drewN n) (fun i _ => ss.length - (intOf i).toNat)
    case atStart => exact ⟨0, Nat.zero_le _, rfl, fun j _ _ h => absurd h (by omega), 0, rfl⟩
    case round =>
      obtain ⟨k, hk, rfl, hall, n, rfl⟩ := hrel
      have HA := Lib.hid hall
      clear hall hneq
      by_cases hlt : k < ss.length
      · obtain ⟨b, off, rfl, hbl, hcell⟩ := hA k hlt
        obtain ⟨b', off', rfl, hbl', hcell'⟩ := hA' k (by omega)
        by_cases he : ss[k] = ss'[k]
        · have hq : (ss[k].toList != ss'[k].toList) = false := by rw [bne_eq_false_iff_eq, he]
          have hq2 : (ss[k].toList == ss'[k].toList) = true := by rw [beq_iff_eq, he]
          have HE := Lib.hid he
          clear he
          go_wp2
          go_quiet (fail)
          go_wp2
          go_roundw
          case rel =>
            refine ⟨k + 1, by omega, by go_num, fun j h1 h2 h => ?_, _, rfl⟩
            by_cases e : j = k
            · subst e
              exact HE.out
            · exact HA.out j h1 h2 (by omega)
          case measure => simp [intOf]; omega
        · have hne : ss[k].toList ≠ ss'[k].toList := by
            rw [ByteArray.toList_eq, ByteArray.toList_eq]
            exact fun e => he (WideShapes.bytes_inj e)
          have hq : (ss[k].toList != ss'[k].toList) = true := by rw [bne_iff_ne]; exact hne
          have hq2 : (ss[k].toList == ss'[k].toList) = false := by rw [beq_eq_false_iff_ne]; exact hne
          have hr := Lib.hid (textsB_no ss ss' k hlt (by omega) he)
          clear he hne
          go_wp2
          go_quiet (fail)
          go_wp2
          go_ret
          exact ⟨by rw [hr.out]; rfl, _, World.drewN_drewN _ _ _⟩
      · have hr := Lib.hid (textsB_yes ss ss' HL.out fun j h1 h2 => HA.out j h1 h2 (by omega))
        go_wp2
        go_ret
        exact ⟨by rw [hr.out]; rfl, n, rfl⟩
  · have hneq : ((ss.length : Int) != (ss'.length : Int)) = true := by rw [bne_iff_ne]; omega
    have hr := Lib.hid (textsB_len ss ss' hl)
    clear hl
    go_enter Tryz.func54, Tryz.ntmps54
    go_wp2
    go_ret
    exact ⟨by rw [hr.out]; rfl, 0, rfl⟩

/-- The same node? -/
def nodesB (a b : Ty) : Bool := decide (a.kind = b.kind) && textsB a.labels b.labels

end Go.Proofs.YtceclhndagoddaaGreatDoor

namespace Go.Proofs.YtceclhndagoddaaGreatDoor
set_option maxRecDepth 100000
open Go.RowKit

/-- Two trees, and how they lie in cells. -/
structure Pr where
  x : Ty
  y : Ty
  L : Option Addr
  l : Nat
  A : Option Addr
  a : Nat
  L' : Option Addr
  l' : Nat
  A' : Option Addr
  a' : Nat

def prCells (p : Pr) : List Value := [.int .i64 p.x.kind, .slice p.L p.x.labels.length p.l, .slice p.A p.x.args.length p.a, .int .i64 p.y.kind, .slice p.L' p.y.labels.length p.l', .slice p.A' p.y.args.length p.a']
def pCells : List Pr → List Value | [] => [] | p :: r => pCells r ++ prCells p
theorem pCells_len : ∀ l : List Pr, (pCells l).length = l.length * 6
  | [] => rfl
  | f :: r => by
    rw [pCells, List.length_append, pCells_len r]
    simp [prCells]
    omega
def pSize : List Pr → Nat | [] => 0 | p :: r => sizeTy p.x + pSize r
theorem pSize_len : ∀ l : List Pr, l.length ≤ pSize l
  | [] => Nat.le_refl _
  | p :: r => by
    have := pSize_len r
    have := sizeTy_eq p.x
    rw [pSize, List.length_cons]
    omega

def PrOk (w1 : World) (B : Nat) (p : Pr) : Prop := TyIn w1 (fun b => b < B) (.agg #[.int .i64 p.x.kind, .slice p.L p.x.labels.length p.l, .slice p.A p.x.args.length p.a]) p.x ∧ TyIn w1 (fun b => b < B) (.agg #[.int .i64 p.y.kind, .slice p.L' p.y.labels.length p.l', .slice p.A' p.y.args.length p.a']) p.y

/-- At the place P lie the trees l. -/
def PlAt (w1 : World) (B : Nat) (P : Pl) (l : List Ty) : Prop := (P = none ∧ l = []) ∨ ∃ g, P = some (g, l.length) ∧ l ≠ [] ∧ TysIn w1 (fun b => b < B) (some ⟨g, 0, none⟩) l
theorem PlAt.uniq {w1 : World} {B : Nat} {P : Pl} {l l' : List Ty} (h : PlAt w1 B P l) (h' : PlAt w1 B P l') : l = l' := by
  rcases h with ⟨rfl, rfl⟩ | ⟨g, rfl, h1, h2⟩
  · rcases h' with ⟨_, rfl⟩ | ⟨g', h3, _⟩
    · rfl
    · cases h3
  · rcases h' with ⟨h3, _⟩ | ⟨g', h3, h4, h5⟩
    · cases h3
    · simp at h3
      obtain ⟨rfl, h6⟩ := h3
      exact h2.uniq h5 h6

theorem TyIn.args_of {w1 : World} {B : Nat} {a b : Value} {A : Option Addr} {n c : Nat} {t : Ty} (h : TyIn w1 (fun b => b < B) (.agg #[a, b, .slice A n c]) t) : n = t.args.length ∧ TysIn w1 (fun b => b < B) A t.args := by
  obtain ⟨L, lc, A', ac, gl, hv, _, _, _, ha⟩ := h.open
  simp at hv
  obtain ⟨_, _, rfl, rfl, _⟩ := hv
  obtain ⟨m0, ga', vs', Ss', m1, m2, m3, m4⟩ := ha
  exact ⟨rfl, m0, ga', vs', Ss', m1.imp id fun ⟨a, b, c⟩ => ⟨a, b.1, c⟩, fun i hi b hb => ⟨(m2 i hi b hb).1.1, (m2 i hi b hb).2⟩, m3, m4⟩

/-- Tree i of a slice: its cells. -/
theorem TysIn.elem3 {w1 : World} {B : Nat} {A : Option Addr} {ts : List Ty} (h : TysIn w1 (fun b => b < B) A ts) (i : Nat) (hi : i < ts.length) : ∃ g L lc A' ac, A = some ⟨g, 0, none⟩ ∧ g < B ∧ (∃ t cs, Whole1 w1 g t cs) ∧ w1.cell? ⟨g, i * 3, none⟩ = some (.int .i64 ts[i].kind) ∧ w1.cell? ⟨g, i * 3 + 1, none⟩ = some (.slice L ts[i].labels.length lc) ∧
    w1.cell? ⟨g, i * 3 + 2, none⟩ = some (.slice A' ts[i].args.length ac) ∧ TyIn w1 (fun b => b < B) (.agg #[.int .i64 ts[i].kind, .slice L ts[i].labels.length lc, .slice A' ts[i].args.length ac]) ts[i] := by
  obtain ⟨hm, ga, vs, Ss, h1, h2, h3, h4⟩ := h
  rcases h1 with rfl | ⟨rfl, h5, h6⟩
  · exact absurd hi (by simp)
  · obtain ⟨L, lc, A', ac, gl, hv, _⟩ := (h4 i hi).open
    have c0 := h6.cell i 0 hi (by omega)
    have c1 := h6.cell i 1 hi (by omega)
    have c2 := h6.cell i 2 hi (by omega)
    have ht := (h4 i hi).wide fun b hb => (h2 i hi b hb).1
    have h7 : ∃ t cs, Whole1 w1 ga t cs := by
      obtain ⟨cs, h7, _⟩ := h6
      exact ⟨_, cs, h7⟩
    rw [hv] at c0 c1 c2 ht
    exact ⟨ga, L, lc, A', ac, rfl, h5, h7, c0, c1, c2, ht⟩

section
variable {w1 wc w : World} {B mb : Nat} {a0 b0 : Ty} {v : Value} {p : Pr} {r stk : List Pr} {F : Pl × Pl → Option Value}

theorem same_of (h1 : nodesB p.x p.y = true) (h2 : p.x.args = p.y.args) : p.x = p.y := by
  unfold nodesB at h1
  rw [Bool.and_eq_true_iff] at h1
  have h3 := of_decide_eq_true h1.1
  have h4 := h1.2
  unfold textsB at h4
  exact Ty.ext h3 (of_decide_eq_true h4) h2

/-- The pairs of the parts, as far as they were laid onto the stack. -/
structure Kids (w1 : World) (B : Nat) (l m : List Ty) (k : Nat) (ks : List Pr) : Prop where
  all : ∀ i, (h1 : i < l.length) → (h2 : i < m.length) → i < k → ∃ q ∈ ks, q.x = l[i] ∧ q.y = m[i]
  only : ∀ q ∈ ks, ∃ i, ∃ (h1 : i < l.length) (h2 : i < m.length), q.x = l[i] ∧ q.y = m[i]
  ok : ∀ q ∈ ks, PrOk w1 B q
  size : pSize ks = sizeTys (l.take k)
  len : ks.length = k
theorem Kids.nil (w1 : World) (B : Nat) (l m : List Ty) : Kids w1 B l m 0 [] := ⟨fun _ _ _ h => absurd h (Nat.not_lt_zero _), fun q h => absurd h (by simp), fun q h => absurd h (by simp), by simp [pSize, sizeTys], rfl⟩
theorem Kids.snoc {l m : List Ty} {k : Nat} {ks : List Pr} (h : Kids w1 B l m k ks) (h1 : k < l.length) (h2 : k < m.length) (q : Pr) (hx : q.x = l[k]) (hy : q.y = m[k]) (hq : PrOk w1 B q) : Kids w1 B l m (k + 1) (q :: ks) := by
  refine ⟨fun i i1 i2 hi => ?_, fun q' hq' => ?_, fun q' hq' => ?_, ?_, by rw [List.length_cons, h.len]⟩
  · by_cases e : i = k
    · subst e
      exact ⟨q, List.mem_cons_self, hx, hy⟩
    · obtain ⟨q', a, b⟩ := h.all i i1 i2 (by omega)
      exact ⟨q', List.mem_cons_of_mem _ a, b⟩
  · rcases List.mem_cons.1 hq' with rfl | hq'
    · exact ⟨k, h1, h2, hx, hy⟩
    · exact h.only q' hq'
  · rcases List.mem_cons.1 hq' with rfl | hq'
    · exact hq
    · exact h.ok q' hq'
  · rw [pSize, h.size, sizeTys_take l k h1, hx]
    omega

end

/-- The row's last six cells. -/
theorem row_top6 {w : World} {B n : Nat} {T : TypeId} {v : Value} {xs : List Value} {a b c d e f : Value} (h : w.ownsRow B T 6 v (n + 1) (xs ++ [a, b, c, d, e, f])) (hx : xs.length = n * 6) :
    ∃ q cap cur, v = .slice (some ⟨q, 0, none⟩) (n + 1) cap ∧ B ≤ q ∧ Whole1 w q T cur ∧ n + 1 ≤ cap ∧ w.ownsRow B T 6 (.slice (some ⟨q, 0, none⟩) n cap) n xs ∧ cur[n * 6]? = some a ∧ cur[n * 6 + 1]? = some b ∧ cur[n * 6 + 2]? = some c ∧ cur[n * 6 + 3]? = some d ∧ cur[n * 6 + 4]? = some e ∧ cur[n * 6 + 5]? = some f := by
  rcases h.2 with ⟨_, h0⟩ | ⟨q, cap, cur, rfl, h2, h3, h4, h5, h6, h7⟩
  · omega
  · have hi : ∀ i, i < (n + 1) * 6 → cur[i]? = (xs ++ [a, b, c, d, e, f])[i]? := fun i hi => by
      rw [← h7, List.getElem?_take, if_pos hi]
      simp
    have htk : cur.toList.take (n * 6) = xs := by
      have : cur.toList.take (n * 6) = (cur.toList.take ((n + 1) * 6)).take (n * 6) := by rw [List.take_take, Nat.min_eq_left (by omega)]
      rw [this, h7, List.take_append_of_le_length (by omega), ← hx, List.take_length]
    have hc : ∀ j, j < 6 → cur[n * 6 + j]? = [a, b, c, d, e, f][j]? := fun j hj => by
      rw [hi _ (by omega), List.getElem?_append_right (by omega), hx, show n * 6 + j - n * 6 = j by omega]
    exact ⟨q, cap, cur, rfl, h2, h3, h4, ⟨hx, .inr ⟨q, cap, cur, rfl, h2, h3, by omega, h5, h6, htk⟩⟩, hc 0 (by omega), hc 1 (by omega), hc 2 (by omega), hc 3 (by omega), hc 4 (by omega), hc 5 (by omega)⟩

end Go.Proofs.YtceclhndagoddaaGreatDoor

namespace Go.Proofs.YtceclhndagoddaaGreatDoor
set_option maxRecDepth 100000
open Go.RowKit

theorem TyIn.cellsOnly {w : World} {S : Nat → Prop} {v : Value} {t : Ty} (h : TyIn w S v t) : TyIn w (fun b => S b ∧ ∃ t cs, Whole1 w b t cs) v t := by
  induction h with
  | mk gl ga vs Ss hn hz hm hls hes hne hsub hdis _ ih =>
    refine .mk gl ga vs (fun i b => Ss i b ∧ ∃ t cs, Whole1 w b t cs) hn hz hm (hls.imp id fun ⟨h1, h2, h3⟩ => ⟨h1, ⟨h2, ?_⟩, h3⟩) (hes.imp id fun ⟨h1, h2, h3⟩ => ⟨h1, ⟨h2, ?_⟩, h3⟩) hne (fun i hi b hb => ⟨⟨(hsub i hi b hb.1).1, hb.2⟩, (hsub i hi b hb.1).2⟩) (fun i j hi hj hij b hb hb' => hdis i j hi hj hij b hb.1 hb'.1) ih
    · obtain ⟨cs, h4, _⟩ := h3
      exact ⟨_, cs, h4⟩
    · obtain ⟨cs, h4, _⟩ := h3
      exact ⟨_, cs, h4⟩
theorem TyIn.move {w1 w' : World} {B mb : Nat} {v : Value} {t : Ty} (h : TyIn w1 (fun b => b < B) v t) (hmb : ∀ (t : TypeId) (cs : Array Value), ¬ Whole1 w1 mb t cs) (hk : PlWd w1 B mb w') : TyAt w' w'.heap.size v t :=
  (h.cellsOnly.keep fun b hb _ => hk b hb.1 fun e => by
    obtain ⟨_, t, cs, h1⟩ := hb
    exact hmb t cs (e ▸ h1)).here

theorem plP_form (k : Pl) : ∃ o m, plP k = .pointer o ∧ plN k = .int .i64 m := by
  match k with
  | none => exact ⟨_, _, rfl, rfl⟩
  | some (g, n) => exact ⟨_, _, rfl, rfl⟩

theorem news6 (w : World) (t : TypeId) (p : Pr) : CellsAt (w.alloc (.cells (prCells p).toArray t)) (some ⟨w.heap.size, 0, none⟩) (prCells p) := by
  refine .inr ⟨_, rfl, fun j u hj => ?_⟩
  rw [WideShapes.add_plain, World.cell?_alloc_at _ _ _ _ rfl, Nat.zero_add]
  simpa using hj
theorem ones6 (p : Pr) : ∀ u ∈ prCells p, u.oneCell' = true := by
  intro u hu
  simp [prCells] at hu
  rcases hu with rfl | rfl | rfl | rfl | rfl | rfl <;> rfl
theorem pSize_append : ∀ a b : List Pr, pSize (a ++ b) = pSize a + pSize b
  | [], b => by simp [pSize]
  | x :: a, b => by
    rw [List.cons_append, pSize, pSize, pSize_append a b]
    omega

end Go.Proofs.YtceclhndagoddaaGreatDoor

namespace Go.Proofs.YtceclhndagoddaaGreatDoor
set_option maxRecDepth 100000
open Go.RowKit

end Go.Proofs.YtceclhndagoddaaGreatDoor
end

section
namespace Go.Proofs.YtceclhndagoddaaGreatDoor
open Go.RowKit

/-- The same tree? -/
noncomputable def eqVaB (a b : Va) : Bool := @decide (a = b) (Classical.propDecidable _)
theorem eqVaB_yes {a b : Va} (h : a = b) : eqVaB a b = true := by unfold eqVaB; simp [h]
theorem eqVaB_no {a b : Va} (h : a ≠ b) : eqVaB a b = false := by unfold eqVaB; simp [h]
theorem Va.ext {a b : Va} (h1 : a.kind = b.kind) (h2 : a.num = b.num) (h3 : a.name = b.name) (h4 : a.labels = b.labels) (h5 : a.args = b.args) : a = b := by
  cases a; cases b
  simp only [Va.kind, Va.num, Va.name, Va.labels, Va.args] at h1 h2 h3 h4 h5
  rw [h1, h2, h3, h4, h5]

def EqualVOne (f : Nat) (t : Va) : Prop := ∀ (t' : Va) (v v' : Value) (w : World), VaAt w w.heap.size v t → VaAt w w.heap.size v' t' → Calls Tryz.prog f #[v, v'] w (BoolIs (eqVaB t t') w)

end Go.Proofs.YtceclhndagoddaaGreatDoor
end
