/- spec.l5Draw of an int, of a bool. -/
import Derived.Test.YtlmbnefoobameaaDoorVDrawLib
import Derived.Deep.DeepCutAuto
namespace Go.Proofs.YtlmbnefoobameaaDoor
set_option maxRecDepth 100000
open Go.RowKit
attribute [local go_sem ↓] Go.wp_at_zero Go.wp_at_succ

theorem szVa_leaf (k n : Int) (m : Nat) : szVa (.mk k n ⟨#[]⟩ [] []) ≤ m := by
  rw [szVa, szVas]
  exact Nat.zero_le m
theorem drawnV_fin {w w3 : World} {B p n : Nat} {v : Value} {t : Va} (h : OwnVa w3 (w.heap.size + 2) v t) (hn : szVa t ≤ n) (hq : smallB t = true) (hc : CurAt w3 B p) (hp : p < w.heap.size) (hg : w.grownBy w3 (some p)) (a b c d e : Value) :
    DrawnVa w B p n (.returned v) (((((w3.setCell ⟨w.heap.size + 1, 0, none⟩ a).setCell ⟨w.heap.size + 1, 1, none⟩ b).setCell ⟨w.heap.size + 1, 2, none⟩ c).setCell ⟨w.heap.size + 1, 3, none⟩ d).setCell ⟨w.heap.size + 1, 4, none⟩ e) := by
  have hb : Below (w.heap.size + 1) w3 (((((w3.setCell ⟨w.heap.size + 1, 0, none⟩ a).setCell ⟨w.heap.size + 1, 1, none⟩ b).setCell ⟨w.heap.size + 1, 2, none⟩ c).setCell ⟨w.heap.size + 1, 3, none⟩ d).setCell ⟨w.heap.size + 1, 4, none⟩ e) := (((((Below.refl (w.heap.size + 1) w3).setCell (by simp) _).setCell (by simp) _).setCell (by simp) _).setCell (by simp) _).setCell (by simp) _
  have hk : ∀ g, g ≠ w.heap.size + 1 → (((((w3.setCell ⟨w.heap.size + 1, 0, none⟩ a).setCell ⟨w.heap.size + 1, 1, none⟩ b).setCell ⟨w.heap.size + 1, 2, none⟩ c).setCell ⟨w.heap.size + 1, 3, none⟩ d).setCell ⟨w.heap.size + 1, 4, none⟩ e).heap[g]? = w3.heap[g]? := fun g hg => by
    rw [Below.heap_setCell _ _ _ _ hg, Below.heap_setCell _ _ _ _ hg, Below.heap_setCell _ _ _ _ hg, Below.heap_setCell _ _ _ _ hg, Below.heap_setCell _ _ _ _ hg]
  exact ⟨⟨v, t, rfl, (h.keep hb.size (fun g h1 _ => hk g (by omega))).base (by omega), hn, hq⟩, hc.belowP hb (by omega), ⟨hb.os.trans hg.os, hb.tape.trans hg.tape, hb.output.trans hg.output, Nat.le_trans hg.size hb.size, fun i hi hne => (hk i (by omega)).trans (hg.block i hi hne)⟩⟩

set_option maxHeartbeats 1000000 in
theorem specDrawV_1 (ls : List ByteArray) (ts : List Ty) (L A : Option Addr) (lc ac p B n : Nat) (w : World) (hc : CurAt w B p) : Calls Tryd.prog 33 #[.pointer (some ⟨p, 0, none⟩), .agg #[.int .i64 1, .slice L ls.length lc, .slice A ts.length ac]] w (DrawnVa w B p n) := by
  have hpl := hc.lt
  obtain ⟨hb0, p0, r0, hs0⟩ := boxes2 w 30 27 #[.int .i64 1, .slice L ls.length lc, .slice A ts.length ac] #[.int .i64 0, .int .i64 0, .string ⟨#[]⟩, .slice none 0 0, .slice none 0 0]
  have HB := Lib.hid (fun W h => l1Below_any p B 6 W h (by omega) (by omega))
  have hc0 := hc.belowP hb0 hpl
  have hg0 := only_below (only_refl w (some p)) hb0
  clear hc
  go_enter Tryd.func33, Tryd.ntmps33
  go_wp2_with fail
  generalize (w.alloc (.cells #[.int .i64 1, .slice L ls.length lc, .slice A ts.length ac] 30)).alloc (.cells #[.int .i64 0, .int .i64 0, .string ⟨#[]⟩, .slice none 0 0, .slice none 0 0] 27) = w0 at *
  refine (HB.out w0 hc0).mono ?_
  rintro e w1 ⟨⟨x, rfl, hx0, hx1⟩, hc1, hg1⟩
  have hg1' := only_trans hg0 hg1
  have r1 := r0.grown hg1 (by omega)
  have hs1 := hg1.size
  clear r0 p0 hg0 hg1 hc0
  go_wp2_with fail
  refine (l5Int_any (x - 1) w1).mono ?_
  rintro e w2 ⟨rfl, hb2⟩
  have r2 := r1.below hb2 r1.lt
  have d0 : w2.cell? ⟨w.heap.size + 1, 0, none⟩ = some (.int .i64 0) := r2.cell 0
  have e0 : w2.frozen? ⟨w.heap.size + 1, 0, none⟩ = false := r2.free 0
  have d1 : w2.cell? ⟨w.heap.size + 1, 1, none⟩ = some (.int .i64 0) := r2.cell 1
  have e1 : w2.frozen? ⟨w.heap.size + 1, 1, none⟩ = false := r2.free 1
  have d2 : w2.cell? ⟨w.heap.size + 1, 2, none⟩ = some (.string ⟨#[]⟩) := r2.cell 2
  have e2 : w2.frozen? ⟨w.heap.size + 1, 2, none⟩ = false := r2.free 2
  have d3 : w2.cell? ⟨w.heap.size + 1, 3, none⟩ = some (.slice none 0 0) := r2.cell 3
  have e3 : w2.frozen? ⟨w.heap.size + 1, 3, none⟩ = false := r2.free 3
  have d4 : w2.cell? ⟨w.heap.size + 1, 4, none⟩ = some (.slice none 0 0) := r2.cell 4
  have e4 : w2.frozen? ⟨w.heap.size + 1, 4, none⟩ = false := r2.free 4
  have HF := Lib.hid (drawnV_fin (n := n) (OwnVa.leaf w2 (w.heap.size + 2) 1 (x - 1) ⟨#[]⟩ (by simp [ByteArray.size])) (szVa_leaf _ _ _) (by simp [smallB, smallBs]; omega) (hc1.belowP hb2 hc1.lt) hpl (only_below hg1' hb2))
  clear r1 r2 hc1 hg1' hb2 hb0
  go_wp2
  exact bodyPost_ret (v := .agg #[.int .i64 1, .int .i64 (x - 1), .string ⟨#[]⟩, .slice none 0 0, .slice none 0 0]) (by simp [results, Tryd.results33, go_sem, d0, d1, d2, d3, d4]) rfl (HF.out _ _ _ _ _)

set_option maxHeartbeats 1000000 in
theorem specDrawV_2 (ls : List ByteArray) (ts : List Ty) (L A : Option Addr) (lc ac p B n : Nat) (w : World) (hc : CurAt w B p) : Calls Tryd.prog 33 #[.pointer (some ⟨p, 0, none⟩), .agg #[.int .i64 2, .slice L ls.length lc, .slice A ts.length ac]] w (DrawnVa w B p n) := by
  have hpl := hc.lt
  obtain ⟨hb0, p0, r0, hs0⟩ := boxes2 w 30 27 #[.int .i64 2, .slice L ls.length lc, .slice A ts.length ac] #[.int .i64 0, .int .i64 0, .string ⟨#[]⟩, .slice none 0 0, .slice none 0 0]
  have HB := Lib.hid (fun W h => l1Once_any p B 2 W h (by omega) (by omega))
  have hc0 := hc.belowP hb0 hpl
  have hg0 := only_below (only_refl w (some p)) hb0
  clear hc
  go_enter Tryd.func33, Tryd.ntmps33
  go_wp2_with fail
  generalize (w.alloc (.cells #[.int .i64 2, .slice L ls.length lc, .slice A ts.length ac] 30)).alloc (.cells #[.int .i64 0, .int .i64 0, .string ⟨#[]⟩, .slice none 0 0, .slice none 0 0] 27) = w0 at *
  refine (HB.out w0 hc0).mono ?_
  rintro e w1 ⟨⟨x, rfl⟩, hc1, hg1⟩
  have hg1' := only_trans hg0 hg1
  have r1 := r0.grown hg1 (by omega)
  have hs1 := hg1.size
  clear r0 p0 hg0 hg1 hc0
  have HX := l5Bool_any x w1
  obtain ⟨y, hy, hyb⟩ : ∃ y : Int, (if x then (1 : Int) else 0) = y ∧ (y = 0 ∨ y = 1) := ⟨_, rfl, by cases x <;> simp⟩
  rw [hy] at HX
  clear hy
  go_wp2_with fail
  refine HX.mono ?_
  rintro e w2 ⟨rfl, hb2⟩
  have r2 := r1.below hb2 r1.lt
  have d0 : w2.cell? ⟨w.heap.size + 1, 0, none⟩ = some (.int .i64 0) := r2.cell 0
  have e0 : w2.frozen? ⟨w.heap.size + 1, 0, none⟩ = false := r2.free 0
  have d1 : w2.cell? ⟨w.heap.size + 1, 1, none⟩ = some (.int .i64 0) := r2.cell 1
  have e1 : w2.frozen? ⟨w.heap.size + 1, 1, none⟩ = false := r2.free 1
  have d2 : w2.cell? ⟨w.heap.size + 1, 2, none⟩ = some (.string ⟨#[]⟩) := r2.cell 2
  have e2 : w2.frozen? ⟨w.heap.size + 1, 2, none⟩ = false := r2.free 2
  have d3 : w2.cell? ⟨w.heap.size + 1, 3, none⟩ = some (.slice none 0 0) := r2.cell 3
  have e3 : w2.frozen? ⟨w.heap.size + 1, 3, none⟩ = false := r2.free 3
  have d4 : w2.cell? ⟨w.heap.size + 1, 4, none⟩ = some (.slice none 0 0) := r2.cell 4
  have e4 : w2.frozen? ⟨w.heap.size + 1, 4, none⟩ = false := r2.free 4
  have HF := Lib.hid (drawnV_fin (n := n) (OwnVa.leaf w2 (w.heap.size + 2) 2 y ⟨#[]⟩ (by simp [ByteArray.size])) (szVa_leaf _ _ _) (by simp [smallB, smallBs]; omega) (hc1.belowP hb2 hc1.lt) hpl (only_below hg1' hb2))
  clear r1 r2 hc1 hg1' hb2 hb0
  go_wp2
  exact bodyPost_ret (v := .agg #[.int .i64 2, .int .i64 y, .string ⟨#[]⟩, .slice none 0 0, .slice none 0 0]) (by simp [results, Tryd.results33, go_sem, d0, d1, d2, d3, d4]) rfl (HF.out _ _ _ _ _)

end Go.Proofs.YtlmbnefoobameaaDoor
