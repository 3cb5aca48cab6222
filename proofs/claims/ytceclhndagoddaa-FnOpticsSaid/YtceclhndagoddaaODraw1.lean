/- spec.l7Leaf. -/
import Derived.Test.YtceclhndagoddaaODrawLib
import Derived.Deep.DeepCutAuto
import Derived.Deep.DrawnRows
import Derived.Deep.RegionHeld3
namespace Go.Proofs.Ytceclhndagoddaa
set_option maxRecDepth 100000
open Go.RowKit
attribute [local go_sem ↓] Go.wp_at_zero Go.wp_at_succ

theorem pickO2 (p B : Nat) (W : World) (n : Nat) (hn : W.heap.size = n) (a b : ByteArray) (h : CurAt W B p) :
    Calls Try.prog 46 #[.pointer (some ⟨p, 0, none⟩), .slice (some ⟨n, 0, none⟩) 2 2] (W.alloc (.cells #[.string a, .string b] 9)) (DrawnStr (W.alloc (.cells #[.string a, .string b] 9)) B p [a, b]) := by
  subst hn
  exact l1Pick_any p B (W.heap.size + 1) 2 (some ⟨W.heap.size, 0, none⟩) [a, b] _ (CurAt.allocO h _) (StrsAt.of_whole (t := 9) (Whole1.new W _ _) _ (by omega)) (fun q b off e => by cases e; have := h.lt; omega) (by simp) (by simp)

set_option maxHeartbeats 4000000 in
theorem specLeafO_any (p B : Nat) (w : World) (hc : CurAt w B p) : Calls Try.prog 56 #[.pointer (some ⟨p, 0, none⟩)] w (DrawnOt w B p 1) := by
  have hpl := hc.lt
  obtain ⟨hb0, r0, hs0⟩ := boxes1 w 26 #[.int .i64 0, .string ⟨#[]⟩, .int .i64 0, .slice none 0 0]
  have hc0 : CurAt (w.alloc (.cells #[.int .i64 0, .string ⟨#[]⟩, .int .i64 0, .slice none 0 0] 26)) B p := hc.allocO _
  have hg0 : w.grownBy (w.alloc (.cells #[.int .i64 0, .string ⟨#[]⟩, .int .i64 0, .slice none 0 0] 26)) (some p) := World.grownBy_alloc w _ _
  have H10 := Lib.hid (fun W h => l1Below_any p B 10 W h (by omega) (by omega))
  clear hc hb0
  go_enter Try.func56, Try.ntmps56
  go_wp2_with fail
  refine (H10.out _ hc0).mono ?_
  rintro e w1 ⟨⟨x, rfl, hx0, hx1⟩, hc1, hg1⟩
  have r1 := r0.grownO hg1 (by omega)
  have hg1' := only_trans hg0 hg1
  have hs1 := hg1.size
  rw [hs0] at hs1
  clear r0 hg0 hg1 hc0 hs0
  by_cases h2 : x = 1
  · subst h2
    obtain ⟨hbW, rb, hsW⟩ := boxes1 w1 26 #[.int .i64 2, .string ⟨#[]⟩, .int .i64 0, .slice none 0 0]
    have hcW := hc1.belowO hbW hc1.lt
    have rW := r1.below hbW r1.lt
    have hgW := only_below hg1' hbW
    clear hbW hc1 r1 hg1'
    have hzp : p < w1.heap.size := by omega
    have hzr : w.heap.size < w1.heap.size := by omega
    have hrz : w.heap.size ≠ w1.heap.size := by omega
    have hzne : w1.heap.size ≠ w.heap.size := by omega
    generalize hz1 : w1.heap.size = z at *
    have HPK := Lib.hid (pickO2 p B _ _ hsW ⟨#[97]⟩ ⟨#[98]⟩ hcW)
    go_wp2_with fail
    generalize w1.alloc (.cells #[.int .i64 2, .string ⟨#[]⟩, .int .i64 0, .slice none 0 0] 26) = W at *
    refine HPK.out.mono ?_
    rintro e w3 ⟨⟨s, rfl, hs⟩, hc3, hg3a⟩
    have hg3 := only_trans (World.grownBy_alloc W _ _) hg3a
    clear hg3a
    have hss : s.size ≤ 1 := by
      simp at hs
      rcases hs with rfl | rfl <;> decide
    clear hs
    have b3 := rb.grownO hg3 (by omega)
    have r3 := rW.grownO hg3 (by omega)
    have hg3' := only_trans hgW hg3
    have d0 : w3.cell? ⟨w.heap.size, 0, none⟩ = some (.int .i64 0) := r3.cell 0
    have f0 : w3.frozen? ⟨w.heap.size, 0, none⟩ = false := r3.free 0
    have d1 : w3.cell? ⟨w.heap.size, 1, none⟩ = some (.string ⟨#[]⟩) := r3.cell 1
    have f1 : w3.frozen? ⟨w.heap.size, 1, none⟩ = false := r3.free 1
    have d2 : w3.cell? ⟨w.heap.size, 2, none⟩ = some (.int .i64 0) := r3.cell 2
    have f2 : w3.frozen? ⟨w.heap.size, 2, none⟩ = false := r3.free 2
    have d3 : w3.cell? ⟨w.heap.size, 3, none⟩ = some (.slice none 0 0) := r3.cell 3
    have f3 : w3.frozen? ⟨w.heap.size, 3, none⟩ = false := r3.free 3
    have q0 : w3.cell? ⟨z, 0, none⟩ = some (.int .i64 2) := b3.cell 0
    have u0 : w3.frozen? ⟨z, 0, none⟩ = false := b3.free 0
    have q1 : w3.cell? ⟨z, 1, none⟩ = some (.string ⟨#[]⟩) := b3.cell 1
    have u1 : w3.frozen? ⟨z, 1, none⟩ = false := b3.free 1
    have q2 : w3.cell? ⟨z, 2, none⟩ = some (.int .i64 0) := b3.cell 2
    have u2 : w3.frozen? ⟨z, 2, none⟩ = false := b3.free 2
    have q3 : w3.cell? ⟨z, 3, none⟩ = some (.slice none 0 0) := b3.cell 3
    have u3 : w3.frozen? ⟨z, 3, none⟩ = false := b3.free 3
    have HF := Lib.hid (drawnO_fin0 (n := 1) (OwnOt.leaf (w3.setCell ⟨z, 1, none⟩ (.string s)) (w.heap.size + 1) 2 0 s (Nat.le_trans hss (by unfold maxLen; decide))) (by simp only [szOt, szOts]; omega) (hc3.belowO ((Below.refl z w3).setCell (by simp) _) (by omega)) hpl (grown_setO hg3' (by omega) _ _))
    clear r3 b3
    go_wp2
    exact bodyPost_ret (v := .agg #[.int .i64 2, .string s, .int .i64 0, .slice none 0 0]) (by simp [results, Try.results56, go_sem, d0, d1, d2, d3]) rfl (HF.out _ _ _ _)
  by_cases h10 : x = 9
  · subst h10
    obtain ⟨hbW, rb, hsW⟩ := boxes1 w1 26 #[.int .i64 10, .string ⟨#[]⟩, .int .i64 0, .slice none 0 0]
    have hcW := hc1.belowO hbW hc1.lt
    have rW := r1.below hbW r1.lt
    have hgW := only_below hg1' hbW
    clear hbW hc1 r1 hg1'
    have hzp : p < w1.heap.size := by omega
    have hzr : w.heap.size < w1.heap.size := by omega
    have hrz : w.heap.size ≠ w1.heap.size := by omega
    have hzne : w1.heap.size ≠ w.heap.size := by omega
    generalize hz1 : w1.heap.size = z at *
    have HPK := Lib.hid (pickO2 p B _ _ hsW ⟨#[97]⟩ ⟨#[98]⟩ hcW)
    go_wp2_with fail
    generalize w1.alloc (.cells #[.int .i64 10, .string ⟨#[]⟩, .int .i64 0, .slice none 0 0] 26) = W at *
    refine HPK.out.mono ?_
    rintro e w3 ⟨⟨s, rfl, hs⟩, hc3, hg3a⟩
    have hg3 := only_trans (World.grownBy_alloc W _ _) hg3a
    clear hg3a
    have hss : s.size ≤ 1 := by
      simp at hs
      rcases hs with rfl | rfl <;> decide
    clear hs
    have b3 := rb.grownO hg3 (by omega)
    have r3 := rW.grownO hg3 (by omega)
    have hg3' := only_trans hgW hg3
    have d0 : w3.cell? ⟨w.heap.size, 0, none⟩ = some (.int .i64 0) := r3.cell 0
    have f0 : w3.frozen? ⟨w.heap.size, 0, none⟩ = false := r3.free 0
    have d1 : w3.cell? ⟨w.heap.size, 1, none⟩ = some (.string ⟨#[]⟩) := r3.cell 1
    have f1 : w3.frozen? ⟨w.heap.size, 1, none⟩ = false := r3.free 1
    have d2 : w3.cell? ⟨w.heap.size, 2, none⟩ = some (.int .i64 0) := r3.cell 2
    have f2 : w3.frozen? ⟨w.heap.size, 2, none⟩ = false := r3.free 2
    have d3 : w3.cell? ⟨w.heap.size, 3, none⟩ = some (.slice none 0 0) := r3.cell 3
    have f3 : w3.frozen? ⟨w.heap.size, 3, none⟩ = false := r3.free 3
    have q0 : w3.cell? ⟨z, 0, none⟩ = some (.int .i64 10) := b3.cell 0
    have u0 : w3.frozen? ⟨z, 0, none⟩ = false := b3.free 0
    have q1 : w3.cell? ⟨z, 1, none⟩ = some (.string ⟨#[]⟩) := b3.cell 1
    have u1 : w3.frozen? ⟨z, 1, none⟩ = false := b3.free 1
    have q2 : w3.cell? ⟨z, 2, none⟩ = some (.int .i64 0) := b3.cell 2
    have u2 : w3.frozen? ⟨z, 2, none⟩ = false := b3.free 2
    have q3 : w3.cell? ⟨z, 3, none⟩ = some (.slice none 0 0) := b3.cell 3
    have u3 : w3.frozen? ⟨z, 3, none⟩ = false := b3.free 3
    have HF := Lib.hid (drawnO_fin0 (n := 1) (OwnOt.leaf (w3.setCell ⟨z, 1, none⟩ (.string s)) (w.heap.size + 1) 10 0 s (Nat.le_trans hss (by unfold maxLen; decide))) (by simp only [szOt, szOts]; omega) (hc3.belowO ((Below.refl z w3).setCell (by simp) _) (by omega)) hpl (grown_setO hg3' (by omega) _ _))
    clear r3 b3
    go_wp2
    exact bodyPost_ret (v := .agg #[.int .i64 10, .string s, .int .i64 0, .slice none 0 0]) (by simp [results, Try.results56, go_sem, d0, d1, d2, d3]) rfl (HF.out _ _ _ _)
  by_cases h3 : x = 2
  · subst h3
    obtain ⟨hbW, rb, hsW⟩ := boxes1 w1 26 #[.int .i64 3, .string ⟨#[]⟩, .int .i64 0, .slice none 0 0]
    have hcW := hc1.belowO hbW hc1.lt
    have rW := r1.below hbW r1.lt
    have hgW := only_below hg1' hbW
    clear hbW hc1 r1 hg1'
    have hzp : p < w1.heap.size := by omega
    have hzr : w.heap.size < w1.heap.size := by omega
    have hrz : w.heap.size ≠ w1.heap.size := by omega
    have hzne : w1.heap.size ≠ w.heap.size := by omega
    generalize hz1 : w1.heap.size = z at *
    have HPK := Lib.hid (pickO2 p B _ _ hsW ⟨#[112]⟩ ⟨#[113]⟩ hcW)
    go_wp2_with fail
    generalize w1.alloc (.cells #[.int .i64 3, .string ⟨#[]⟩, .int .i64 0, .slice none 0 0] 26) = W at *
    refine HPK.out.mono ?_
    rintro e w3 ⟨⟨s, rfl, hs⟩, hc3, hg3a⟩
    have hg3 := only_trans (World.grownBy_alloc W _ _) hg3a
    clear hg3a
    have hss : s.size ≤ 1 := by
      simp at hs
      rcases hs with rfl | rfl <;> decide
    clear hs
    have b3 := rb.grownO hg3 (by omega)
    have r3 := rW.grownO hg3 (by omega)
    have hg3' := only_trans hgW hg3
    have d0 : w3.cell? ⟨w.heap.size, 0, none⟩ = some (.int .i64 0) := r3.cell 0
    have f0 : w3.frozen? ⟨w.heap.size, 0, none⟩ = false := r3.free 0
    have d1 : w3.cell? ⟨w.heap.size, 1, none⟩ = some (.string ⟨#[]⟩) := r3.cell 1
    have f1 : w3.frozen? ⟨w.heap.size, 1, none⟩ = false := r3.free 1
    have d2 : w3.cell? ⟨w.heap.size, 2, none⟩ = some (.int .i64 0) := r3.cell 2
    have f2 : w3.frozen? ⟨w.heap.size, 2, none⟩ = false := r3.free 2
    have d3 : w3.cell? ⟨w.heap.size, 3, none⟩ = some (.slice none 0 0) := r3.cell 3
    have f3 : w3.frozen? ⟨w.heap.size, 3, none⟩ = false := r3.free 3
    have q0 : w3.cell? ⟨z, 0, none⟩ = some (.int .i64 3) := b3.cell 0
    have u0 : w3.frozen? ⟨z, 0, none⟩ = false := b3.free 0
    have q1 : w3.cell? ⟨z, 1, none⟩ = some (.string ⟨#[]⟩) := b3.cell 1
    have u1 : w3.frozen? ⟨z, 1, none⟩ = false := b3.free 1
    have q2 : w3.cell? ⟨z, 2, none⟩ = some (.int .i64 0) := b3.cell 2
    have u2 : w3.frozen? ⟨z, 2, none⟩ = false := b3.free 2
    have q3 : w3.cell? ⟨z, 3, none⟩ = some (.slice none 0 0) := b3.cell 3
    have u3 : w3.frozen? ⟨z, 3, none⟩ = false := b3.free 3
    have HF := Lib.hid (drawnO_fin0 (n := 1) (OwnOt.leaf (w3.setCell ⟨z, 1, none⟩ (.string s)) (w.heap.size + 1) 3 0 s (Nat.le_trans hss (by unfold maxLen; decide))) (by simp only [szOt, szOts]; omega) (hc3.belowO ((Below.refl z w3).setCell (by simp) _) (by omega)) hpl (grown_setO hg3' (by omega) _ _))
    clear r3 b3
    go_wp2
    exact bodyPost_ret (v := .agg #[.int .i64 3, .string s, .int .i64 0, .slice none 0 0]) (by simp [results, Try.results56, go_sem, d0, d1, d2, d3]) rfl (HF.out _ _ _ _)
  by_cases h6 : x = 5
  · subst h6
    obtain ⟨hbW, rb, hsW⟩ := boxes1 w1 26 #[.int .i64 6, .string ⟨#[]⟩, .int .i64 0, .slice none 0 0]
    have hcW := hc1.belowO hbW hc1.lt
    have rW := r1.below hbW r1.lt
    have hgW := only_below hg1' hbW
    clear hbW hc1 r1 hg1'
    have hzp : p < w1.heap.size := by omega
    have hzr : w.heap.size < w1.heap.size := by omega
    have hrz : w.heap.size ≠ w1.heap.size := by omega
    have hzne : w1.heap.size ≠ w.heap.size := by omega
    generalize hz1 : w1.heap.size = z at *
    have HPK := Lib.hid (l1Below_any p B 3 _ hcW (by omega) (by omega))
    go_wp2_with fail
    generalize w1.alloc (.cells #[.int .i64 6, .string ⟨#[]⟩, .int .i64 0, .slice none 0 0] 26) = W at *
    refine HPK.out.mono ?_
    rintro e w3 ⟨⟨y, rfl, hy0, hy1⟩, hc3, hg3⟩
    have b3 := rb.grownO hg3 (by omega)
    have r3 := rW.grownO hg3 (by omega)
    have hg3' := only_trans hgW hg3
    have d0 : w3.cell? ⟨w.heap.size, 0, none⟩ = some (.int .i64 0) := r3.cell 0
    have f0 : w3.frozen? ⟨w.heap.size, 0, none⟩ = false := r3.free 0
    have d1 : w3.cell? ⟨w.heap.size, 1, none⟩ = some (.string ⟨#[]⟩) := r3.cell 1
    have f1 : w3.frozen? ⟨w.heap.size, 1, none⟩ = false := r3.free 1
    have d2 : w3.cell? ⟨w.heap.size, 2, none⟩ = some (.int .i64 0) := r3.cell 2
    have f2 : w3.frozen? ⟨w.heap.size, 2, none⟩ = false := r3.free 2
    have d3 : w3.cell? ⟨w.heap.size, 3, none⟩ = some (.slice none 0 0) := r3.cell 3
    have f3 : w3.frozen? ⟨w.heap.size, 3, none⟩ = false := r3.free 3
    have q0 : w3.cell? ⟨z, 0, none⟩ = some (.int .i64 6) := b3.cell 0
    have u0 : w3.frozen? ⟨z, 0, none⟩ = false := b3.free 0
    have q1 : w3.cell? ⟨z, 1, none⟩ = some (.string ⟨#[]⟩) := b3.cell 1
    have u1 : w3.frozen? ⟨z, 1, none⟩ = false := b3.free 1
    have q2 : w3.cell? ⟨z, 2, none⟩ = some (.int .i64 0) := b3.cell 2
    have u2 : w3.frozen? ⟨z, 2, none⟩ = false := b3.free 2
    have q3 : w3.cell? ⟨z, 3, none⟩ = some (.slice none 0 0) := b3.cell 3
    have u3 : w3.frozen? ⟨z, 3, none⟩ = false := b3.free 3
    have HF := Lib.hid (drawnO_fin0 (n := 1) (OwnOt.leaf (w3.setCell ⟨z, 2, none⟩ (.int .i64 (y))) (w.heap.size + 1) 6 (y) ⟨#[]⟩ (Nat.zero_le _)) (by simp [szOt, szOts, ByteArray.size]) (hc3.belowO ((Below.refl z w3).setCell (by simp) _) (by omega)) hpl (grown_setO hg3' (by omega) _ _))
    clear r3 b3
    go_wp2
    exact bodyPost_ret (v := .agg #[.int .i64 6, .string ⟨#[]⟩, .int .i64 (y), .slice none 0 0]) (by simp [results, Try.results56, go_sem, d0, d1, d2, d3]) rfl (HF.out _ _ _ _)
  by_cases h7 : x = 6
  · subst h7
    obtain ⟨hbW, rb, hsW⟩ := boxes1 w1 26 #[.int .i64 7, .string ⟨#[]⟩, .int .i64 0, .slice none 0 0]
    have hcW := hc1.belowO hbW hc1.lt
    have rW := r1.below hbW r1.lt
    have hgW := only_below hg1' hbW
    clear hbW hc1 r1 hg1'
    have hzp : p < w1.heap.size := by omega
    have hzr : w.heap.size < w1.heap.size := by omega
    have hrz : w.heap.size ≠ w1.heap.size := by omega
    have hzne : w1.heap.size ≠ w.heap.size := by omega
    generalize hz1 : w1.heap.size = z at *
    have HPK := Lib.hid (l1Below_any p B 7 _ hcW (by omega) (by omega))
    go_wp2_with fail
    generalize w1.alloc (.cells #[.int .i64 7, .string ⟨#[]⟩, .int .i64 0, .slice none 0 0] 26) = W at *
    refine HPK.out.mono ?_
    rintro e w3 ⟨⟨y, rfl, hy0, hy1⟩, hc3, hg3⟩
    have b3 := rb.grownO hg3 (by omega)
    have r3 := rW.grownO hg3 (by omega)
    have hg3' := only_trans hgW hg3
    have d0 : w3.cell? ⟨w.heap.size, 0, none⟩ = some (.int .i64 0) := r3.cell 0
    have f0 : w3.frozen? ⟨w.heap.size, 0, none⟩ = false := r3.free 0
    have d1 : w3.cell? ⟨w.heap.size, 1, none⟩ = some (.string ⟨#[]⟩) := r3.cell 1
    have f1 : w3.frozen? ⟨w.heap.size, 1, none⟩ = false := r3.free 1
    have d2 : w3.cell? ⟨w.heap.size, 2, none⟩ = some (.int .i64 0) := r3.cell 2
    have f2 : w3.frozen? ⟨w.heap.size, 2, none⟩ = false := r3.free 2
    have d3 : w3.cell? ⟨w.heap.size, 3, none⟩ = some (.slice none 0 0) := r3.cell 3
    have f3 : w3.frozen? ⟨w.heap.size, 3, none⟩ = false := r3.free 3
    have q0 : w3.cell? ⟨z, 0, none⟩ = some (.int .i64 7) := b3.cell 0
    have u0 : w3.frozen? ⟨z, 0, none⟩ = false := b3.free 0
    have q1 : w3.cell? ⟨z, 1, none⟩ = some (.string ⟨#[]⟩) := b3.cell 1
    have u1 : w3.frozen? ⟨z, 1, none⟩ = false := b3.free 1
    have q2 : w3.cell? ⟨z, 2, none⟩ = some (.int .i64 0) := b3.cell 2
    have u2 : w3.frozen? ⟨z, 2, none⟩ = false := b3.free 2
    have q3 : w3.cell? ⟨z, 3, none⟩ = some (.slice none 0 0) := b3.cell 3
    have u3 : w3.frozen? ⟨z, 3, none⟩ = false := b3.free 3
    have HF := Lib.hid (drawnO_fin0 (n := 1) (OwnOt.leaf (w3.setCell ⟨z, 2, none⟩ (.int .i64 (y - 3))) (w.heap.size + 1) 7 (y - 3) ⟨#[]⟩ (Nat.zero_le _)) (by simp [szOt, szOts, ByteArray.size]) (hc3.belowO ((Below.refl z w3).setCell (by simp) _) (by omega)) hpl (grown_setO hg3' (by omega) _ _))
    clear r3 b3
    go_wp2
    exact bodyPost_ret (v := .agg #[.int .i64 7, .string ⟨#[]⟩, .int .i64 (y - 3), .slice none 0 0]) (by simp [results, Try.results56, go_sem, d0, d1, d2, d3]) rfl (HF.out _ _ _ _)
  have e2 : ((1 + x) == 2) = false := by rw [beq_eq_false_iff_ne]; omega
  have e10 : ((1 + x) == 10) = false := by rw [beq_eq_false_iff_ne]; omega
  have e3 : ((1 + x) == 3) = false := by rw [beq_eq_false_iff_ne]; omega
  have e6 : ((1 + x) == 6) = false := by rw [beq_eq_false_iff_ne]; omega
  have e7 : ((1 + x) == 7) = false := by rw [beq_eq_false_iff_ne]; omega
  clear h2 h10 h3 h6 h7
  obtain ⟨hbW, rb, hsW⟩ := boxes1 w1 26 #[.int .i64 (1 + x), .string ⟨#[]⟩, .int .i64 0, .slice none 0 0]
  have hcW := hc1.belowO hbW hc1.lt
  have rW := r1.below hbW r1.lt
  have hgW := only_below hg1' hbW
  clear hbW hc1 r1 hg1'
  have hzp : p < w1.heap.size := by omega
  have hzr : w.heap.size < w1.heap.size := by omega
  have hrz : w.heap.size ≠ w1.heap.size := by omega
  have hzne : w1.heap.size ≠ w.heap.size := by omega
  generalize hz1 : w1.heap.size = z at *
  go_upto_region 12 with fail
  generalize w1.alloc (.cells #[.int .i64 (1 + x), .string ⟨#[]⟩, .int .i64 0, .slice none 0 0] 26) = W at *
  have d0 : W.cell? ⟨w.heap.size, 0, none⟩ = some (.int .i64 0) := rW.cell 0
  have f0 : W.frozen? ⟨w.heap.size, 0, none⟩ = false := rW.free 0
  have d1 : W.cell? ⟨w.heap.size, 1, none⟩ = some (.string ⟨#[]⟩) := rW.cell 1
  have f1 : W.frozen? ⟨w.heap.size, 1, none⟩ = false := rW.free 1
  have d2 : W.cell? ⟨w.heap.size, 2, none⟩ = some (.int .i64 0) := rW.cell 2
  have f2 : W.frozen? ⟨w.heap.size, 2, none⟩ = false := rW.free 2
  have d3 : W.cell? ⟨w.heap.size, 3, none⟩ = some (.slice none 0 0) := rW.cell 3
  have f3 : W.frozen? ⟨w.heap.size, 3, none⟩ = false := rW.free 3
  have q0 : W.cell? ⟨z, 0, none⟩ = some (.int .i64 (1 + x)) := rb.cell 0
  have u0 : W.frozen? ⟨z, 0, none⟩ = false := rb.free 0
  have q1 : W.cell? ⟨z, 1, none⟩ = some (.string ⟨#[]⟩) := rb.cell 1
  have u1 : W.frozen? ⟨z, 1, none⟩ = false := rb.free 1
  have q2 : W.cell? ⟨z, 2, none⟩ = some (.int .i64 0) := rb.cell 2
  have u2 : W.frozen? ⟨z, 2, none⟩ = false := rb.free 2
  have q3 : W.cell? ⟨z, 3, none⟩ = some (.slice none 0 0) := rb.cell 3
  have u3 : W.frozen? ⟨z, 3, none⟩ = false := rb.free 3
  have HF := Lib.hid (drawnO_fin0 (n := 1) (OwnOt.leaf W (w.heap.size + 1) (1 + x) 0 ⟨#[]⟩ (Nat.zero_le _)) (by simp [szOt, szOts, ByteArray.size]) hcW hpl hgW)
  go_wp2
  exact bodyPost_ret (v := .agg #[.int .i64 (1 + x), .string ⟨#[]⟩, .int .i64 0, .slice none 0 0]) (by simp [results, Try.results56, go_sem, d0, d1, d2, d3]) rfl (HF.out _ _ _ _)

end Go.Proofs.Ytceclhndagoddaa
