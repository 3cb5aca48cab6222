/- Pairs of places as keys of maps. -/
import Derived.Test.YtceclhndagoddaaPlace
import Derived.Test.YtceclhndagoddaaSpecTy5
import Derived.Test.YtceclhndagoddaaImplSize
import Derived.Deep.RegionHeld3
import Derived.Deep.RegionHeldLaw

namespace Go.Proofs.Ytceclhndagoddaa
set_option maxRecDepth 100000
open Go.RowKit

def plP : Pl → Value | none => .pointer none | some (g, _) => .pointer (some ⟨g, 0, none⟩)
def plN : Pl → Value | none => .int .i64 0 | some (_, n) => .int .i64 (n : Int)
theorem plVal_eq (k : Pl) : plVal k = .agg #[plP k, plN k] := by
  match k with
  | none => rfl
  | some (g, n) => rfl
def pl2Val (k : Pl × Pl) : Value := .agg #[plP k.1, plN k.1, plP k.2, plN k.2]
def Pl2Ok (w1 : World) (B mb : Nat) (k : Pl × Pl) : Prop := PlOk w1 B mb k.1 ∧ PlOk w1 B mb k.2

theorem bits_plP (k : Pl) (n : Nat) : Instr.sameBits n (plP k) (plP k) = true := by
  match k with
  | none => simp [plP, Instr.sameBits]
  | some (g, m) => simp [plP, Instr.sameBits]
theorem bits_plN (k : Pl) (n : Nat) : Instr.sameBits n (plN k) (plN k) = true := by
  match k with
  | none => simp [plN, Instr.sameBits]
  | some (g, m) => simp [plN, Instr.sameBits]

end Go.Proofs.Ytceclhndagoddaa

namespace Go.Proofs.Ytceclhndagoddaa
set_option maxRecDepth 100000
open Go.RowKit

/-- The same node? -/
def nodesB (a b : Ty) : Bool := decide (a.kind = b.kind) && textsB a.labels b.labels

end Go.Proofs.Ytceclhndagoddaa

namespace Go.Proofs.Ytceclhndagoddaa
set_option maxRecDepth 100000
open Go.RowKit

/-- Two trees, and how they lie in cells. -/
structure Pr where
  x : Ty
  y : Ty
  L : Option Addr
  l : Nat
  A : Option Addr
  a : Nat
  L' : Option Addr
  l' : Nat
  A' : Option Addr
  a' : Nat

def prCells (p : Pr) : List Value := [.int .i64 p.x.kind, .slice p.L p.x.labels.length p.l, .slice p.A p.x.args.length p.a, .int .i64 p.y.kind, .slice p.L' p.y.labels.length p.l', .slice p.A' p.y.args.length p.a']
def pCells : List Pr → List Value | [] => [] | p :: r => pCells r ++ prCells p
theorem pCells_len : ∀ l : List Pr, (pCells l).length = l.length * 6
  | [] => rfl
  | f :: r => by
    rw [pCells, List.length_append, pCells_len r]
    simp [prCells]
    omega
def pSize : List Pr → Nat | [] => 0 | p :: r => sizeTy p.x + pSize r
theorem pSize_len : ∀ l : List Pr, l.length ≤ pSize l
  | [] => Nat.le_refl _
  | p :: r => by
    have := pSize_len r
    have := sizeTy_eq p.x
    rw [pSize, List.length_cons]
    omega

section
variable {w1 wc w : World} {B mb : Nat} {a0 b0 : Ty} {v : Value} {p : Pr} {r stk : List Pr} {F : Pl × Pl → Option Value}

theorem same_of (h1 : nodesB p.x p.y = true) (h2 : p.x.args = p.y.args) : p.x = p.y := by
  unfold nodesB at h1
  rw [Bool.and_eq_true_iff] at h1
  have h3 := of_decide_eq_true h1.1
  have h4 := h1.2
  unfold textsB at h4
  exact Ty.ext h3 (of_decide_eq_true h4) h2

end

/-- The row's last six cells. -/
theorem row_top6 {w : World} {B n : Nat} {T : TypeId} {v : Value} {xs : List Value} {a b c d e f : Value} (h : w.ownsRow B T 6 v (n + 1) (xs ++ [a, b, c, d, e, f])) (hx : xs.length = n * 6) :
    ∃ q cap cur, v = .slice (some ⟨q, 0, none⟩) (n + 1) cap ∧ B ≤ q ∧ Whole1 w q T cur ∧ n + 1 ≤ cap ∧ w.ownsRow B T 6 (.slice (some ⟨q, 0, none⟩) n cap) n xs ∧ cur[n * 6]? = some a ∧ cur[n * 6 + 1]? = some b ∧ cur[n * 6 + 2]? = some c ∧ cur[n * 6 + 3]? = some d ∧ cur[n * 6 + 4]? = some e ∧ cur[n * 6 + 5]? = some f := by
  rcases h.2 with ⟨_, h0⟩ | ⟨q, cap, cur, rfl, h2, h3, h4, h5, h6, h7⟩
  · omega
  · have hi : ∀ i, i < (n + 1) * 6 → cur[i]? = (xs ++ [a, b, c, d, e, f])[i]? := fun i hi => by
      rw [← h7, List.getElem?_take, if_pos hi]
      simp
    have htk : cur.toList.take (n * 6) = xs := by
      have : cur.toList.take (n * 6) = (cur.toList.take ((n + 1) * 6)).take (n * 6) := by rw [List.take_take, Nat.min_eq_left (by omega)]
      rw [this, h7, List.take_append_of_le_length (by omega), ← hx, List.take_length]
    have hc : ∀ j, j < 6 → cur[n * 6 + j]? = [a, b, c, d, e, f][j]? := fun j hj => by
      rw [hi _ (by omega), List.getElem?_append_right (by omega), hx, show n * 6 + j - n * 6 = j by omega]
    exact ⟨q, cap, cur, rfl, h2, h3, h4, ⟨hx, .inr ⟨q, cap, cur, rfl, h2, h3, by omega, h5, h6, htk⟩⟩, hc 0 (by omega), hc 1 (by omega), hc 2 (by omega), hc 3 (by omega), hc 4 (by omega), hc 5 (by omega)⟩

end Go.Proofs.Ytceclhndagoddaa

namespace Go.Proofs.Ytceclhndagoddaa
set_option maxRecDepth 100000
open Go.RowKit

theorem plP_form (k : Pl) : ∃ o m, plP k = .pointer o ∧ plN k = .int .i64 m := by
  match k with
  | none => exact ⟨_, _, rfl, rfl⟩
  | some (g, n) => exact ⟨_, _, rfl, rfl⟩

theorem news6 (w : World) (t : TypeId) (p : Pr) : CellsAt (w.alloc (.cells (prCells p).toArray t)) (some ⟨w.heap.size, 0, none⟩) (prCells p) := by
  refine .inr ⟨_, rfl, fun j u hj => ?_⟩
  rw [WideShapes.add_plain, World.cell?_alloc_at _ _ _ _ rfl, Nat.zero_add]
  simpa using hj
theorem ones6 (p : Pr) : ∀ u ∈ prCells p, u.oneCell' = true := by
  intro u hu
  simp [prCells] at hu
  rcases hu with rfl | rfl | rfl | rfl | rfl | rfl <;> rfl
theorem pSize_append : ∀ a b : List Pr, pSize (a ++ b) = pSize a + pSize b
  | [], b => by simp [pSize]
  | x :: a, b => by
    rw [List.cons_append, pSize, pSize, pSize_append a b]
    omega

end Go.Proofs.Ytceclhndagoddaa

namespace Go.Proofs.Ytceclhndagoddaa
set_option maxRecDepth 100000
open Go.RowKit

end Go.Proofs.Ytceclhndagoddaa
