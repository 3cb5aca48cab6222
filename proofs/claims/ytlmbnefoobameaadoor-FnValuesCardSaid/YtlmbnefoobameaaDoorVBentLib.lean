/- The drawn value is bent: spec.l5Bent. -/
import Derived.Test.YtlmbnefoobameaaDoorVDraw
import Derived.Deep.DeepCutAuto
import Derived.Deep.DrawnRows
import Derived.Deep.RegionHeld3
namespace Go.Proofs.YtlmbnefoobameaaDoor
set_option maxRecDepth 100000
open Go.RowKit
attribute [local go_sem ↓] Go.wp_at_zero Go.wp_at_succ

/-- The result's box is w.heap.size. -/
theorem drawnV_fin0 {w w3 : World} {B p n : Nat} {v : Value} {t : Va} (h : OwnVa w3 (w.heap.size + 1) v t) (hn : szVa t ≤ n) (hq : smallB t = true) (hc : CurAt w3 B p) (hp : p < w.heap.size) (hg : w.grownBy w3 (some p)) (a b c d e : Value) :
    DrawnVa w B p n (.returned v) (((((w3.setCell ⟨w.heap.size, 0, none⟩ a).setCell ⟨w.heap.size, 1, none⟩ b).setCell ⟨w.heap.size, 2, none⟩ c).setCell ⟨w.heap.size, 3, none⟩ d).setCell ⟨w.heap.size, 4, none⟩ e) := by
  have hb : Below w.heap.size w3 (((((w3.setCell ⟨w.heap.size, 0, none⟩ a).setCell ⟨w.heap.size, 1, none⟩ b).setCell ⟨w.heap.size, 2, none⟩ c).setCell ⟨w.heap.size, 3, none⟩ d).setCell ⟨w.heap.size, 4, none⟩ e) := (((((Below.refl w.heap.size w3).setCell (by simp) _).setCell (by simp) _).setCell (by simp) _).setCell (by simp) _).setCell (by simp) _
  have hk : ∀ g, g ≠ w.heap.size → (((((w3.setCell ⟨w.heap.size, 0, none⟩ a).setCell ⟨w.heap.size, 1, none⟩ b).setCell ⟨w.heap.size, 2, none⟩ c).setCell ⟨w.heap.size, 3, none⟩ d).setCell ⟨w.heap.size, 4, none⟩ e).heap[g]? = w3.heap[g]? := fun g hg => by
    rw [Below.heap_setCell _ _ _ _ hg, Below.heap_setCell _ _ _ _ hg, Below.heap_setCell _ _ _ _ hg, Below.heap_setCell _ _ _ _ hg, Below.heap_setCell _ _ _ _ hg]
  exact ⟨⟨v, t, rfl, (h.keep hb.size (fun g h1 _ => hk g (by omega))).base (by omega), hn, hq⟩, hc.belowP hb hp, ⟨hb.os.trans hg.os, hb.tape.trans hg.tape, hb.output.trans hg.output, Nat.le_trans hg.size hb.size, fun i hi hne => (hk i (by omega)).trans (hg.block i hi hne)⟩⟩
theorem smallB_root {t : Va} (h : smallB t = true) (k n : Int) (nm : ByteArray) (ls : List ByteArray) (hn : -999999999999 ≤ n ∧ n ≤ 999999999999) : smallB (.mk k n nm ls t.args) = true :=
  smallB_mk _ _ _ _ _ hn (smallB_of t h).2
theorem szVa_root (t : Va) (k n : Int) (nm : ByteArray) : szVa (.mk k n nm t.labels t.args) + t.name.size = szVa t + nm.size := by
  cases t
  simp only [szVa, Va.labels, Va.args, Va.name]
  omega
theorem pickN (p B : Nat) (W : World) (h : CurAt W B p) :
    Calls Tryd.prog 67 #[.pointer (some ⟨p, 0, none⟩), .slice (some ⟨W.heap.size, 0, none⟩) 3 3] (W.alloc (.cells #[.int .i64 (-1), .int .i64 2, .int .i64 7] 3)) (DrawnOf (W.alloc (.cells #[.int .i64 (-1), .int .i64 2, .int .i64 7] 3)) B p [-1, 2, 7]) :=
  l1PickInt_any p B 3 (some ⟨W.heap.size, 0, none⟩) [-1, 2, 7] _ (CurAt.alloc3 h _) (ints_new3 W _ [-1, 2, 7]) (fun q b off e => by cases e; have := h.lt; omega) (by decide) (by decide)
theorem pickS (p B : Nat) (W : World) (h : CurAt W B p) :
    Calls Tryd.prog 73 #[.pointer (some ⟨p, 0, none⟩), .slice (some ⟨W.heap.size, 0, none⟩) 4 4] (W.alloc (.cells #[.string ⟨#[112]⟩, .string ⟨#[113]⟩, .string ⟨#[90]⟩, .string ⟨#[]⟩] 9)) (DrawnStr (W.alloc (.cells #[.string ⟨#[112]⟩, .string ⟨#[113]⟩, .string ⟨#[90]⟩, .string ⟨#[]⟩] 9)) B p [⟨#[112]⟩, ⟨#[113]⟩, ⟨#[90]⟩, ⟨#[]⟩]) :=
  l1Pick_any p B (W.heap.size + 1) 4 (some ⟨W.heap.size, 0, none⟩) [⟨#[112]⟩, ⟨#[113]⟩, ⟨#[90]⟩, ⟨#[]⟩] _ (CurAt.alloc3 h _) (StrsAt.of_whole (t := 9) (Whole1.new W _ _) _ (by omega)) (fun q b off e => by cases e; have := h.lt; omega) (by decide) (by decide)
theorem vspan_snoc {lo hi : Nat → Nat} {ts : List Va} {u : Va} {z a b : Nat} {k n : Int} {nm : ByteArray} {ls : List ByteArray} (h : ∀ i, i < ts.length → ¬ Span (lo i) (hi i) z) (hz : z < a) : ∀ i, i < (Va.mk k n nm ls (ts ++ [u])).args.length → ¬ Span ((fun i => if i = ts.length then a else lo i) i) ((fun i => if i = ts.length then b else hi i) i) z := fun i hi' hsp => by
  have h1 : i < (ts ++ [u]).length := hi'
  rw [List.length_append, List.length_singleton] at h1
  by_cases e : i = ts.length
  · simp only [e, if_true] at hsp
    have := hsp.1
    omega
  · simp only [e, if_false] at hsp
    exact h i (by omega) hsp
theorem smallB_arg {t u : Va} (h : smallB t = true) (hu : smallB u = true) : smallB (.mk t.kind t.num t.name t.labels (t.args ++ [u])) = true := by
  rw [smallB, smallBs_snoc _ _ (smallBs_all _ (smallB_of t h).2) hu]
  simp [(smallB_of t h).1]

end Go.Proofs.YtlmbnefoobameaaDoor
