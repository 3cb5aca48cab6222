/- impl.SizeOfType, impl.DepthOfType: of trees that lie in blocks of their own. -/
import Derived.Test.YtmacbkcjeamaeaaExtent
namespace Go.Proofs.Ytmacbkcjeamaeaa
set_option maxRecDepth 100000
open Go.RowKit

/-- The value reads as the tree, in blocks that are there, each slice in one of its own. -/
def OwnT (w : World) (v : Value) (t : Ty) : Prop := ∃ S, TyIn w S v t ∧ ∀ b, S b → b < w.heap.size
theorem OwnT.up {w w' : World} {v : Value} {t : Ty} (h : OwnT w v t) (hb : Below w.heap.size w w') : OwnT w' v t := by
  obtain ⟨S, h1, h2⟩ := h
  exact ⟨S, h1.keep fun b hb' hbl => hb.block b hbl, fun b hb' => Nat.lt_of_lt_of_le (h2 b hb') hb.size⟩
theorem OwnT.here {w : World} {v : Value} {t : Ty} (h : OwnT w v t) : TyAt w w.heap.size v t := by
  obtain ⟨S, h1, h2⟩ := h
  exact h1.here
theorem OwnT.of {w : World} {v : Value} {t : Ty} {a : Nat} (h : TyIn w (Span a w.heap.size) v t) : OwnT w v t := ⟨_, h, fun _ hb => hb.2⟩

/-- The parts. -/
def OwnTs (w : World) (A : Option Addr) (ts : List Ty) : Prop := ∃ S, TysIn w S A ts ∧ ∀ b, S b → b < w.heap.size
theorem OwnTs.up {w w' : World} {A : Option Addr} {ts : List Ty} (h : OwnTs w A ts) (hb : Below w.heap.size w w') : OwnTs w' A ts := by
  obtain ⟨S, h1, h2⟩ := h
  exact ⟨S, h1.keep fun b hb' hbl => hb.block b hbl, fun b hb' => Nat.lt_of_lt_of_le (h2 b hb') hb.size⟩
theorem OwnTs.here {w : World} {A : Option Addr} {ts : List Ty} (h : OwnTs w A ts) : TysAt w w.heap.size A ts := by
  obtain ⟨S, h1, h2⟩ := h
  exact h1.here
theorem OwnT.open {w : World} {v : Value} {t : Ty} (h : OwnT w v t) : ∃ L lc A ac, v = .agg #[.int .i64 t.kind, .slice L t.labels.length lc, .slice A t.args.length ac] ∧ t.labels.length ≤ maxLen ∧ (∀ i, (h : i < t.labels.length) → t.labels[i].size ≤ maxLen) ∧ StrsAt w w.heap.size L t.labels ∧ OwnTs w A t.args := by
  obtain ⟨S, h1, h2⟩ := h
  obtain ⟨L, lc, A, ac, gl, hv, hn, hz, hl, ha⟩ := h1.open
  refine ⟨L, lc, A, ac, hv, hn, hz, ?_, _, ha, fun b hb => h2 b hb.1⟩
  rcases hl with h0 | ⟨rfl, _, h4⟩
  · rw [h0]
    exact StrsAt.empty _ _ _
  · exact h4.at _ h4.lt

/-- Part i: its cells, and that it lies in blocks of its own. -/
theorem OwnTs.elem {w : World} {A : Option Addr} {ts : List Ty} (h : OwnTs w A ts) (i : Nat) (hi : i < ts.length) : ∃ g L lc A' ac, A = some ⟨g, 0, none⟩ ∧ g < w.heap.size ∧ w.cell? ⟨g, i * 3, none⟩ = some (.int .i64 ts[i].kind) ∧ w.cell? ⟨g, i * 3 + 1, none⟩ = some (.slice L ts[i].labels.length lc) ∧
    w.cell? ⟨g, i * 3 + 2, none⟩ = some (.slice A' ts[i].args.length ac) ∧ OwnT w (.agg #[.int .i64 ts[i].kind, .slice L ts[i].labels.length lc, .slice A' ts[i].args.length ac]) ts[i] := by
  obtain ⟨S, ⟨hm, ga, vs, Ss, h1, h2, h3, h4⟩, hS⟩ := h
  rcases h1 with rfl | ⟨rfl, h5, h6⟩
  · exact absurd hi (by simp)
  · obtain ⟨L, lc, A', ac, gl, hv, _⟩ := (h4 i hi).open
    have c0 := h6.cell i 0 hi (by omega)
    have c1 := h6.cell i 1 hi (by omega)
    have c2 := h6.cell i 2 hi (by omega)
    have ht := h4 i hi
    rw [hv] at c0 c1 c2 ht
    exact ⟨ga, L, lc, A', ac, rfl, h6.lt, c0, c1, c2, _, ht, fun b hb => hS b (h2 i hi b hb).1⟩

theorem ext_field0 (a b : Int) (w : World) : (Instr.field 73 (.agg #[.int .i64 a, .int .i64 b]) 0).run Try.prog w = .ok (.int .i64 a) w := by kernel_rfl
theorem ext_field1 (a b : Int) (w : World) : (Instr.field 73 (.agg #[.int .i64 a, .int .i64 b]) 1).run Try.prog w = .ok (.int .i64 b) w := by kernel_rfl

theorem implSizeOf_any (t : Ty) (v : Value) (w : World) (hv : OwnT w v t) (hsz : sizeTy t ≤ 2000000) : Calls Try.prog 23 #[v] w (IntBelow (sizeTy t) w) := by
  obtain ⟨L, lc, A, ac, rfl, _⟩ := hv.open
  obtain ⟨hb0, p0, hs0⟩ := boxes1 w 27 #[.int .i64 t.kind, .slice L t.labels.length lc, .slice A t.args.length ac]
  have hv0 := hv.up hb0
  go_enter Try.func23, Try.ntmps23
  go_wp2_with fail
  have hfd := ext_field0
  obtain ⟨S, h1, h2⟩ := hv0
  refine (extentOf_any t _ S _ h1 h2 hsz).mono ?_
  rintro e w1 ⟨rfl, hb1⟩
  go_wp2
  go_ret
  exact ⟨rfl, hb0.trans (hb1.mono hb0.size)⟩
theorem implDepthOf_any (t : Ty) (v : Value) (w : World) (hv : OwnT w v t) (hsz : sizeTy t ≤ 2000000) : Calls Try.prog 24 #[v] w (IntBelow (depthTy t) w) := by
  obtain ⟨L, lc, A, ac, rfl, _⟩ := hv.open
  obtain ⟨hb0, p0, hs0⟩ := boxes1 w 27 #[.int .i64 t.kind, .slice L t.labels.length lc, .slice A t.args.length ac]
  have hv0 := hv.up hb0
  go_enter Try.func24, Try.ntmps24
  go_wp2_with fail
  have hfd := ext_field1
  obtain ⟨S, h1, h2⟩ := hv0
  refine (extentOf_any t _ S _ h1 h2 hsz).mono ?_
  rintro e w1 ⟨rfl, hb1⟩
  go_wp2
  go_ret
  exact ⟨rfl, hb0.trans (hb1.mono hb0.size)⟩

end Go.Proofs.Ytmacbkcjeamaeaa
