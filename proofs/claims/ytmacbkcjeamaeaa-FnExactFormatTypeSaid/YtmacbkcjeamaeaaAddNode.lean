/- (*impl.extent).addNode writes two cells. -/
import Derived.Test.YtmacbkcjeamaeaaImplTy1
import Derived.Deep.RegionLaw
import Derived.Deep.DeepCutAuto
import Derived.StillTailTactics
import Derived.Deep.RegionHeld3
namespace Go.Proofs.Ytmacbkcjeamaeaa
set_option maxRecDepth 100000
open Go.RowKit

theorem limitedSum_same (a b : Nat) (w : World) (h : a + b ≤ 2 ^ 62) : Calls Try.prog 105 #[.int .i64 (a : Int), .int .i64 (b : Int)] w fun e w' => e = .returned (.int .i64 ((a + b : Nat) : Int)) ∧ w' = w :=
  (limitedSum_any a b w h).mono fun _ _ h => ⟨h.1, h.2.symm⟩

/-- Two cells of the row g were written. -/
def Added (w : World) (g o : Nat) (T : TypeId) (cs : Array Value) (x y : Int) (e : Ending) (w' : World) : Prop :=
  e = .returned (.tuple #[]) ∧ Whole1 w' g T ((cs.setIfInBounds o (.int .i64 x)).setIfInBounds (o + 1) (.int .i64 y)) ∧ w.grownBy w' (some g)

set_option maxHeartbeats 1000000 in
theorem addNode_any (w : World) (g o : Nat) (T : TypeId) (cs : Array Value) (a b s d : Nat) (hW : Whole1 w g T cs) (h0 : cs[o]? = some (.int .i64 (a : Int))) (h1 : cs[o + 1]? = some (.int .i64 (b : Int))) (hab : a + s + 1 ≤ 2 ^ 62) (hd : d + 1 ≤ 2 ^ 62) :
    Calls Try.prog 89 #[.pointer (some ⟨g, o, none⟩), .agg #[.int .i64 (s : Int), .int .i64 (d : Int)]] w (Added w g o T cs ((a + (s + 1) : Nat) : Int) ((max b (d + 1) : Nat) : Int)) := by
  obtain ⟨x, hx⟩ : ∃ x : Int, x = ((a + (s + 1) : Nat) : Int) := ⟨_, rfl⟩
  obtain ⟨y, hy⟩ : ∃ y : Int, y = ((d + 1 : Nat) : Int) := ⟨_, rfl⟩
  obtain ⟨z, hz⟩ : ∃ z : Int, z = ((max b (d + 1) : Nat) : Int) := ⟨_, rfl⟩
  have HS := Lib.hid (fun W => (show Calls Try.prog 105 #[.int .i64 (a : Int), .int .i64 ((s + 1 : Nat) : Int)] W fun e w' => e = .returned (.int .i64 x) ∧ w' = W by rw [hx]; exact limitedSum_same a (s + 1) W (by omega)))
  have HD := Lib.hid (fun W => (show Calls Try.prog 105 #[.int .i64 (d : Int), .int .i64 1] W fun e w' => e = .returned (.int .i64 y) ∧ w' = W by rw [hy]; exact limitedSum_same d 1 W (by omega)))
  have hyz : (if (b : Int) < y then y else (b : Int)) = z := by rw [hy, hz]; split <;> omega
  rw [← hx, ← hz]
  clear hx hz
  have hb0 := (Below.refl w.heap.size w).alloc (Nat.le_refl _) (.cells #[.int .i64 (s : Int), .int .i64 (d : Int)] 73)
  obtain ⟨_, p0, hs0⟩ := boxes1 w 73 #[.int .i64 (s : Int), .int .i64 (d : Int)]
  have hgl := hW.lt
  have hW0 := hW.below hb0 hgl
  have hgb := World.grownBy_alloc w (.cells #[.int .i64 (s : Int), .int .i64 (d : Int)] 73) (some g)
  have hos : o < cs.size := (Array.getElem?_eq_some_iff.1 h0).1
  have hos1 : o + 1 < cs.size := (Array.getElem?_eq_some_iff.1 h1).1
  go_enter Try.func89, Try.ntmps89
  go_upto_region 1 with fail
  generalize w.alloc (.cells #[.int .i64 (s : Int), .int .i64 (d : Int)] 73) = w0 at *
  have c0 : w0.cell? ⟨g, o, none⟩ = some (.int .i64 (a : Int)) := (hW0.cell o).trans h0
  have c1 : w0.cell? ⟨g, o + 1, none⟩ = some (.int .i64 (b : Int)) := (hW0.cell (o + 1)).trans h1
  have f0 : w0.frozen? ⟨g, o, none⟩ = false := hW0.free o
  have e0 : w0.cell? ⟨w.heap.size, 0, none⟩ = some (.int .i64 (s : Int)) := p0.cell 0
  have e1 : w0.cell? ⟨w.heap.size, 1, none⟩ = some (.int .i64 (d : Int)) := p0.cell 1
  refine wp_region_still_tail 9 (by kernel_rfl) (by kernel_rfl) ?_
  simp only [List.take_succ_cons, List.take_zero, List.drop_succ_cons, List.drop_zero]
  repeat still_step
  still_call (limitedSum_same s 1 _ (by omega))
  still_call (HS.out _)
  refine wpStill_nil ?_
  change wpList _ _ _ _ _ w0.drew
  have hw1 := hW0.drewN 1
  have hg1 : w.grownBy w0.drew (some g) := only_drewN hgb 1
  have p1 := p0.drewN 1
  change Whole1 w0.drew _ _ _ at hw1
  change Whole1 w0.drew _ _ _ at p1
  have g0 : w0.drew.cell? ⟨g, o, none⟩ = some (.int .i64 (a : Int)) := c0
  have g1 : w0.drew.frozen? ⟨g, o, none⟩ = false := f0
  clear c0 c1 f0 e0 e1 hb0
  generalize w0.drew = w1 at *
  have hw2 := hw1.set o (.int .i64 x)
  have hg2 := only_set hg1 o (.int .i64 x)
  have hne : w.heap.size ≠ g := by omega
  have p2 : Whole1 (w1.setCell ⟨g, o, none⟩ (.int .i64 x)) w.heap.size 73 #[.int .i64 (s : Int), .int .i64 (d : Int)] := (Below.heap_setCell _ _ _ _ hne).trans p1
  have HW := Lib.hid hw2
  have HG := Lib.hid hg2
  have hp2 := Lib.hid p2
  clear hW hW0 hw1 hg1 p0 p1 hgb hg2 hw2 p2
  go_upto_region 2 with fail
  generalize w1.setCell ⟨g, o, none⟩ (.int .i64 x) = w2 at *
  have c1 : w2.cell? ⟨g, o + 1, none⟩ = some (.int .i64 (b : Int)) := (HW.out.cell (o + 1)).trans (by rw [Array.getElem?_setIfInBounds, if_neg (by omega)]; exact h1)
  have f1 : w2.frozen? ⟨g, o + 1, none⟩ = false := HW.out.free (o + 1)
  have e1 : w2.cell? ⟨w.heap.size, 1, none⟩ = some (.int .i64 (d : Int)) := hp2.out.cell 1
  refine wp_region_still_tail 9 (by kernel_rfl) (by kernel_rfl) ?_
  simp only [List.take_succ_cons, List.take_zero, List.drop_succ_cons, List.drop_zero]
  repeat still_step
  still_call (HD.out _)
  repeat still_step
  refine wpStill_nil ?_
  change wpList _ _ _ _ _ w2.drew
  have hw3 : Whole1 w2.drew g T _ := HW.out
  have hg3 : w.grownBy w2.drew (some g) := only_drewN HG.out 1
  have g1 : w2.drew.frozen? ⟨g, o + 1, none⟩ = false := f1
  have g0 : w2.drew.cell? ⟨g, o + 1, none⟩ = some (.int .i64 (b : Int)) := c1
  clear c1 f1 e1
  generalize w2.drew = w3 at *
  have HW3 := Lib.hid (hw3.set (o + 1) (.int .i64 z))
  have HG3 := Lib.hid (only_set hg3 (o + 1) (.int .i64 z))
  clear hw3 hg3
  go_wp2
  case inl =>
    rw [show (d : Int) + 1 = z by rw [← hyz, hy, if_pos (by omega)]; omega]
    exact bodyPost_end (v := .tuple #[]) (by simp [results, Try.results89]) rfl ⟨rfl, HW3.out, HG3.out⟩
  case inr h =>
    rw [show (b : Int) = z by rw [← hyz, hy, if_neg (by omega)]]
    exact bodyPost_end (v := .tuple #[]) (by simp [results, Try.results89]) rfl ⟨rfl, HW3.out, HG3.out⟩

end Go.Proofs.Ytmacbkcjeamaeaa
