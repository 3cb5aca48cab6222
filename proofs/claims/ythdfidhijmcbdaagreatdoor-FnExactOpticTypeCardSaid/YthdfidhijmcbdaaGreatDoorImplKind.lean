/- impl.IsKind, impl.IsWithin, impl.JoinKinds, impl.KindText, impl.FociRange: over the table of joins. -/
import Derived.Test.YthdfidhijmcbdaaGreatDoorOType
import Derived.Deep.QuietTactic
import Derived.BigQuiet
namespace Go.Proofs.YthdfidhijmcbdaaGreatDoor
set_option maxRecDepth 100000
open Go.RowKit

/-- The table of joins: six rows of six numbers. -/
def joinCells : List Value := [.int .i64 0, .int .i64 0, .int .i64 0, .int .i64 0, .int .i64 0, .int .i64 0, .int .i64 0, .int .i64 1, .int .i64 2, .int .i64 3, .int .i64 4, .int .i64 5, .int .i64 0, .int .i64 2, .int .i64 2, .int .i64 4, .int .i64 4, .int .i64 5, .int .i64 0, .int .i64 3, .int .i64 4, .int .i64 3, .int .i64 4, .int .i64 5, .int .i64 0, .int .i64 4, .int .i64 4, .int .i64 4, .int .i64 4, .int .i64 5, .int .i64 0, .int .i64 5, .int .i64 5, .int .i64 5, .int .i64 5, .int .i64 5]
/-- The package variable holds the table. -/
def JoinsAt (w : World) : Prop := 1 < w.heap.size ∧ ∀ i, i < 36 → w.cell? ⟨1, i, none⟩ = joinCells[i]?
theorem JoinsAt.below {w w' : World} (h : JoinsAt w) (hb : Below w.heap.size w w') : JoinsAt w' := ⟨Nat.lt_of_lt_of_le h.1 hb.size, fun i hi => (hb.cell (p := ⟨1, i, none⟩) h.1).trans (h.2 i hi)⟩
theorem joinI_out {k : Int} (h : isKindB k = false) (j : Int) : joinI k j = 0 := joinI_none (by rw [h]; rfl)
theorem joinI_zero (k : Int) : joinI k 0 = 0 := joinI_none (by simp [isKindB])

set_option maxHeartbeats 4000000 in
theorem joinsWith_0 (w : World) (hJ : JoinsAt w) : Calls Tryz.prog 144 #[.int .i64 0] w (fun e w' => e = .returned (.agg #[.int .i64 0, .int .i64 0, .int .i64 0, .int .i64 0, .int .i64 0, .int .i64 0]) ∧ Below w.heap.size w w') := by
  obtain ⟨hb0, p0, hs0⟩ := boxes1 w 186 #[.int .i64 0, .int .i64 0, .int .i64 0, .int .i64 0, .int .i64 0, .int .i64 0]
  obtain ⟨hb9, p9, hs9⟩ := boxes1 w 186 #[.int .i64 0, .int .i64 0, .int .i64 0, .int .i64 0, .int .i64 0, .int .i64 0]
  have hJ0 := hJ.below hb0
  have f0 : (w.alloc (.cells #[.int .i64 0, .int .i64 0, .int .i64 0, .int .i64 0, .int .i64 0, .int .i64 0] 186)).cell? ⟨1, 0, none⟩ = some (.int .i64 0) := hJ0.2 0 (by omega)
  have f1 : (w.alloc (.cells #[.int .i64 0, .int .i64 0, .int .i64 0, .int .i64 0, .int .i64 0, .int .i64 0] 186)).cell? ⟨1, 1, none⟩ = some (.int .i64 0) := hJ0.2 1 (by omega)
  have f2 : (w.alloc (.cells #[.int .i64 0, .int .i64 0, .int .i64 0, .int .i64 0, .int .i64 0, .int .i64 0] 186)).cell? ⟨1, 2, none⟩ = some (.int .i64 0) := hJ0.2 2 (by omega)
  have f3 : (w.alloc (.cells #[.int .i64 0, .int .i64 0, .int .i64 0, .int .i64 0, .int .i64 0, .int .i64 0] 186)).cell? ⟨1, 3, none⟩ = some (.int .i64 0) := hJ0.2 3 (by omega)
  have f4 : (w.alloc (.cells #[.int .i64 0, .int .i64 0, .int .i64 0, .int .i64 0, .int .i64 0, .int .i64 0] 186)).cell? ⟨1, 4, none⟩ = some (.int .i64 0) := hJ0.2 4 (by omega)
  have f5 : (w.alloc (.cells #[.int .i64 0, .int .i64 0, .int .i64 0, .int .i64 0, .int .i64 0, .int .i64 0] 186)).cell? ⟨1, 5, none⟩ = some (.int .i64 0) := hJ0.2 5 (by omega)
  clear hJ hJ0 hs0 hs9 p0 p9 hb0
  go_enter Tryz.func144, Tryz.ntmps144
  go_wp2
  exact bodyPost_ret (v := .agg #[.int .i64 0, .int .i64 0, .int .i64 0, .int .i64 0, .int .i64 0, .int .i64 0]) (by simp [results, Tryz.results144, go_sem]) rfl ⟨rfl, hb9⟩

set_option maxHeartbeats 4000000 in
theorem joinsWith_1 (w : World) (hJ : JoinsAt w) : Calls Tryz.prog 144 #[.int .i64 1] w (fun e w' => e = .returned (.agg #[.int .i64 0, .int .i64 1, .int .i64 2, .int .i64 3, .int .i64 4, .int .i64 5]) ∧ Below w.heap.size w w') := by
  obtain ⟨hb0, p0, hs0⟩ := boxes1 w 186 #[.int .i64 0, .int .i64 0, .int .i64 0, .int .i64 0, .int .i64 0, .int .i64 0]
  obtain ⟨hb9, p9, hs9⟩ := boxes1 w 186 #[.int .i64 0, .int .i64 1, .int .i64 2, .int .i64 3, .int .i64 4, .int .i64 5]
  have hJ0 := hJ.below hb0
  have f0 : (w.alloc (.cells #[.int .i64 0, .int .i64 0, .int .i64 0, .int .i64 0, .int .i64 0, .int .i64 0] 186)).cell? ⟨1, 6, none⟩ = some (.int .i64 0) := hJ0.2 6 (by omega)
  have f1 : (w.alloc (.cells #[.int .i64 0, .int .i64 0, .int .i64 0, .int .i64 0, .int .i64 0, .int .i64 0] 186)).cell? ⟨1, 7, none⟩ = some (.int .i64 1) := hJ0.2 7 (by omega)
  have f2 : (w.alloc (.cells #[.int .i64 0, .int .i64 0, .int .i64 0, .int .i64 0, .int .i64 0, .int .i64 0] 186)).cell? ⟨1, 8, none⟩ = some (.int .i64 2) := hJ0.2 8 (by omega)
  have f3 : (w.alloc (.cells #[.int .i64 0, .int .i64 0, .int .i64 0, .int .i64 0, .int .i64 0, .int .i64 0] 186)).cell? ⟨1, 9, none⟩ = some (.int .i64 3) := hJ0.2 9 (by omega)
  have f4 : (w.alloc (.cells #[.int .i64 0, .int .i64 0, .int .i64 0, .int .i64 0, .int .i64 0, .int .i64 0] 186)).cell? ⟨1, 10, none⟩ = some (.int .i64 4) := hJ0.2 10 (by omega)
  have f5 : (w.alloc (.cells #[.int .i64 0, .int .i64 0, .int .i64 0, .int .i64 0, .int .i64 0, .int .i64 0] 186)).cell? ⟨1, 11, none⟩ = some (.int .i64 5) := hJ0.2 11 (by omega)
  clear hJ hJ0 hs0 hs9 p0 p9 hb0
  go_enter Tryz.func144, Tryz.ntmps144
  go_wp2
  exact bodyPost_ret (v := .agg #[.int .i64 0, .int .i64 1, .int .i64 2, .int .i64 3, .int .i64 4, .int .i64 5]) (by simp [results, Tryz.results144, go_sem]) rfl ⟨rfl, hb9⟩

set_option maxHeartbeats 4000000 in
theorem joinsWith_2 (w : World) (hJ : JoinsAt w) : Calls Tryz.prog 144 #[.int .i64 2] w (fun e w' => e = .returned (.agg #[.int .i64 0, .int .i64 2, .int .i64 2, .int .i64 4, .int .i64 4, .int .i64 5]) ∧ Below w.heap.size w w') := by
  obtain ⟨hb0, p0, hs0⟩ := boxes1 w 186 #[.int .i64 0, .int .i64 0, .int .i64 0, .int .i64 0, .int .i64 0, .int .i64 0]
  obtain ⟨hb9, p9, hs9⟩ := boxes1 w 186 #[.int .i64 0, .int .i64 2, .int .i64 2, .int .i64 4, .int .i64 4, .int .i64 5]
  have hJ0 := hJ.below hb0
  have f0 : (w.alloc (.cells #[.int .i64 0, .int .i64 0, .int .i64 0, .int .i64 0, .int .i64 0, .int .i64 0] 186)).cell? ⟨1, 12, none⟩ = some (.int .i64 0) := hJ0.2 12 (by omega)
  have f1 : (w.alloc (.cells #[.int .i64 0, .int .i64 0, .int .i64 0, .int .i64 0, .int .i64 0, .int .i64 0] 186)).cell? ⟨1, 13, none⟩ = some (.int .i64 2) := hJ0.2 13 (by omega)
  have f2 : (w.alloc (.cells #[.int .i64 0, .int .i64 0, .int .i64 0, .int .i64 0, .int .i64 0, .int .i64 0] 186)).cell? ⟨1, 14, none⟩ = some (.int .i64 2) := hJ0.2 14 (by omega)
  have f3 : (w.alloc (.cells #[.int .i64 0, .int .i64 0, .int .i64 0, .int .i64 0, .int .i64 0, .int .i64 0] 186)).cell? ⟨1, 15, none⟩ = some (.int .i64 4) := hJ0.2 15 (by omega)
  have f4 : (w.alloc (.cells #[.int .i64 0, .int .i64 0, .int .i64 0, .int .i64 0, .int .i64 0, .int .i64 0] 186)).cell? ⟨1, 16, none⟩ = some (.int .i64 4) := hJ0.2 16 (by omega)
  have f5 : (w.alloc (.cells #[.int .i64 0, .int .i64 0, .int .i64 0, .int .i64 0, .int .i64 0, .int .i64 0] 186)).cell? ⟨1, 17, none⟩ = some (.int .i64 5) := hJ0.2 17 (by omega)
  clear hJ hJ0 hs0 hs9 p0 p9 hb0
  go_enter Tryz.func144, Tryz.ntmps144
  go_wp2
  exact bodyPost_ret (v := .agg #[.int .i64 0, .int .i64 2, .int .i64 2, .int .i64 4, .int .i64 4, .int .i64 5]) (by simp [results, Tryz.results144, go_sem]) rfl ⟨rfl, hb9⟩

set_option maxHeartbeats 4000000 in
theorem joinsWith_3 (w : World) (hJ : JoinsAt w) : Calls Tryz.prog 144 #[.int .i64 3] w (fun e w' => e = .returned (.agg #[.int .i64 0, .int .i64 3, .int .i64 4, .int .i64 3, .int .i64 4, .int .i64 5]) ∧ Below w.heap.size w w') := by
  obtain ⟨hb0, p0, hs0⟩ := boxes1 w 186 #[.int .i64 0, .int .i64 0, .int .i64 0, .int .i64 0, .int .i64 0, .int .i64 0]
  obtain ⟨hb9, p9, hs9⟩ := boxes1 w 186 #[.int .i64 0, .int .i64 3, .int .i64 4, .int .i64 3, .int .i64 4, .int .i64 5]
  have hJ0 := hJ.below hb0
  have f0 : (w.alloc (.cells #[.int .i64 0, .int .i64 0, .int .i64 0, .int .i64 0, .int .i64 0, .int .i64 0] 186)).cell? ⟨1, 18, none⟩ = some (.int .i64 0) := hJ0.2 18 (by omega)
  have f1 : (w.alloc (.cells #[.int .i64 0, .int .i64 0, .int .i64 0, .int .i64 0, .int .i64 0, .int .i64 0] 186)).cell? ⟨1, 19, none⟩ = some (.int .i64 3) := hJ0.2 19 (by omega)
  have f2 : (w.alloc (.cells #[.int .i64 0, .int .i64 0, .int .i64 0, .int .i64 0, .int .i64 0, .int .i64 0] 186)).cell? ⟨1, 20, none⟩ = some (.int .i64 4) := hJ0.2 20 (by omega)
  have f3 : (w.alloc (.cells #[.int .i64 0, .int .i64 0, .int .i64 0, .int .i64 0, .int .i64 0, .int .i64 0] 186)).cell? ⟨1, 21, none⟩ = some (.int .i64 3) := hJ0.2 21 (by omega)
  have f4 : (w.alloc (.cells #[.int .i64 0, .int .i64 0, .int .i64 0, .int .i64 0, .int .i64 0, .int .i64 0] 186)).cell? ⟨1, 22, none⟩ = some (.int .i64 4) := hJ0.2 22 (by omega)
  have f5 : (w.alloc (.cells #[.int .i64 0, .int .i64 0, .int .i64 0, .int .i64 0, .int .i64 0, .int .i64 0] 186)).cell? ⟨1, 23, none⟩ = some (.int .i64 5) := hJ0.2 23 (by omega)
  clear hJ hJ0 hs0 hs9 p0 p9 hb0
  go_enter Tryz.func144, Tryz.ntmps144
  go_wp2
  exact bodyPost_ret (v := .agg #[.int .i64 0, .int .i64 3, .int .i64 4, .int .i64 3, .int .i64 4, .int .i64 5]) (by simp [results, Tryz.results144, go_sem]) rfl ⟨rfl, hb9⟩

set_option maxHeartbeats 4000000 in
theorem joinsWith_4 (w : World) (hJ : JoinsAt w) : Calls Tryz.prog 144 #[.int .i64 4] w (fun e w' => e = .returned (.agg #[.int .i64 0, .int .i64 4, .int .i64 4, .int .i64 4, .int .i64 4, .int .i64 5]) ∧ Below w.heap.size w w') := by
  obtain ⟨hb0, p0, hs0⟩ := boxes1 w 186 #[.int .i64 0, .int .i64 0, .int .i64 0, .int .i64 0, .int .i64 0, .int .i64 0]
  obtain ⟨hb9, p9, hs9⟩ := boxes1 w 186 #[.int .i64 0, .int .i64 4, .int .i64 4, .int .i64 4, .int .i64 4, .int .i64 5]
  have hJ0 := hJ.below hb0
  have f0 : (w.alloc (.cells #[.int .i64 0, .int .i64 0, .int .i64 0, .int .i64 0, .int .i64 0, .int .i64 0] 186)).cell? ⟨1, 24, none⟩ = some (.int .i64 0) := hJ0.2 24 (by omega)
  have f1 : (w.alloc (.cells #[.int .i64 0, .int .i64 0, .int .i64 0, .int .i64 0, .int .i64 0, .int .i64 0] 186)).cell? ⟨1, 25, none⟩ = some (.int .i64 4) := hJ0.2 25 (by omega)
  have f2 : (w.alloc (.cells #[.int .i64 0, .int .i64 0, .int .i64 0, .int .i64 0, .int .i64 0, .int .i64 0] 186)).cell? ⟨1, 26, none⟩ = some (.int .i64 4) := hJ0.2 26 (by omega)
  have f3 : (w.alloc (.cells #[.int .i64 0, .int .i64 0, .int .i64 0, .int .i64 0, .int .i64 0, .int .i64 0] 186)).cell? ⟨1, 27, none⟩ = some (.int .i64 4) := hJ0.2 27 (by omega)
  have f4 : (w.alloc (.cells #[.int .i64 0, .int .i64 0, .int .i64 0, .int .i64 0, .int .i64 0, .int .i64 0] 186)).cell? ⟨1, 28, none⟩ = some (.int .i64 4) := hJ0.2 28 (by omega)
  have f5 : (w.alloc (.cells #[.int .i64 0, .int .i64 0, .int .i64 0, .int .i64 0, .int .i64 0, .int .i64 0] 186)).cell? ⟨1, 29, none⟩ = some (.int .i64 5) := hJ0.2 29 (by omega)
  clear hJ hJ0 hs0 hs9 p0 p9 hb0
  go_enter Tryz.func144, Tryz.ntmps144
  go_wp2
  exact bodyPost_ret (v := .agg #[.int .i64 0, .int .i64 4, .int .i64 4, .int .i64 4, .int .i64 4, .int .i64 5]) (by simp [results, Tryz.results144, go_sem]) rfl ⟨rfl, hb9⟩

set_option maxHeartbeats 4000000 in
theorem joinsWith_5 (w : World) (hJ : JoinsAt w) : Calls Tryz.prog 144 #[.int .i64 5] w (fun e w' => e = .returned (.agg #[.int .i64 0, .int .i64 5, .int .i64 5, .int .i64 5, .int .i64 5, .int .i64 5]) ∧ Below w.heap.size w w') := by
  obtain ⟨hb0, p0, hs0⟩ := boxes1 w 186 #[.int .i64 0, .int .i64 0, .int .i64 0, .int .i64 0, .int .i64 0, .int .i64 0]
  obtain ⟨hb9, p9, hs9⟩ := boxes1 w 186 #[.int .i64 0, .int .i64 5, .int .i64 5, .int .i64 5, .int .i64 5, .int .i64 5]
  have hJ0 := hJ.below hb0
  have f0 : (w.alloc (.cells #[.int .i64 0, .int .i64 0, .int .i64 0, .int .i64 0, .int .i64 0, .int .i64 0] 186)).cell? ⟨1, 30, none⟩ = some (.int .i64 0) := hJ0.2 30 (by omega)
  have f1 : (w.alloc (.cells #[.int .i64 0, .int .i64 0, .int .i64 0, .int .i64 0, .int .i64 0, .int .i64 0] 186)).cell? ⟨1, 31, none⟩ = some (.int .i64 5) := hJ0.2 31 (by omega)
  have f2 : (w.alloc (.cells #[.int .i64 0, .int .i64 0, .int .i64 0, .int .i64 0, .int .i64 0, .int .i64 0] 186)).cell? ⟨1, 32, none⟩ = some (.int .i64 5) := hJ0.2 32 (by omega)
  have f3 : (w.alloc (.cells #[.int .i64 0, .int .i64 0, .int .i64 0, .int .i64 0, .int .i64 0, .int .i64 0] 186)).cell? ⟨1, 33, none⟩ = some (.int .i64 5) := hJ0.2 33 (by omega)
  have f4 : (w.alloc (.cells #[.int .i64 0, .int .i64 0, .int .i64 0, .int .i64 0, .int .i64 0, .int .i64 0] 186)).cell? ⟨1, 34, none⟩ = some (.int .i64 5) := hJ0.2 34 (by omega)
  have f5 : (w.alloc (.cells #[.int .i64 0, .int .i64 0, .int .i64 0, .int .i64 0, .int .i64 0, .int .i64 0] 186)).cell? ⟨1, 35, none⟩ = some (.int .i64 5) := hJ0.2 35 (by omega)
  clear hJ hJ0 hs0 hs9 p0 p9 hb0
  go_enter Tryz.func144, Tryz.ntmps144
  go_wp2
  exact bodyPost_ret (v := .agg #[.int .i64 0, .int .i64 5, .int .i64 5, .int .i64 5, .int .i64 5, .int .i64 5]) (by simp [results, Tryz.results144, go_sem]) rfl ⟨rfl, hb9⟩

set_option maxHeartbeats 4000000 in
theorem joinsWith_out (k : Int) (hk : k < 0 ∨ 5 < k) (w : World) : Calls Tryz.prog 144 #[.int .i64 k] w (fun e w' => e = .returned (.agg #[.int .i64 0, .int .i64 0, .int .i64 0, .int .i64 0, .int .i64 0, .int .i64 0]) ∧ Below w.heap.size w w') := by
  obtain ⟨hb9, p9, hs9⟩ := boxes1 w 186 #[.int .i64 0, .int .i64 0, .int .i64 0, .int .i64 0, .int .i64 0, .int .i64 0]
  clear p9 hs9
  by_cases h0 : k < 0
  · clear hk
    go_enter Tryz.func144, Tryz.ntmps144
    go_wp2
    exact bodyPost_ret (v := .agg #[.int .i64 0, .int .i64 0, .int .i64 0, .int .i64 0, .int .i64 0, .int .i64 0]) (by simp [results, Tryz.results144, go_sem]) rfl ⟨rfl, hb9⟩
  · have h6 : k ≥ 6 := by omega
    clear hk
    go_enter Tryz.func144, Tryz.ntmps144
    go_wp2
    exact bodyPost_ret (v := .agg #[.int .i64 0, .int .i64 0, .int .i64 0, .int .i64 0, .int .i64 0, .int .i64 0]) (by simp [results, Tryz.results144, go_sem]) rfl ⟨rfl, hb9⟩

theorem joinsWith_any (k : Int) (w : World) (hJ : JoinsAt w) : Calls Tryz.prog 144 #[.int .i64 k] w (fun e w' => e = .returned (.agg #[.int .i64 (joinI k 0), .int .i64 (joinI k 1), .int .i64 (joinI k 2), .int .i64 (joinI k 3), .int .i64 (joinI k 4), .int .i64 (joinI k 5)]) ∧ Below w.heap.size w w') := by
  by_cases h : 0 ≤ k ∧ k ≤ 5
  · have h6 : k = 0 ∨ k = 1 ∨ k = 2 ∨ k = 3 ∨ k = 4 ∨ k = 5 := by omega
    rcases h6 with rfl | rfl | rfl | rfl | rfl | rfl
    · exact joinsWith_0 w hJ
    · exact joinsWith_1 w hJ
    · exact joinsWith_2 w hJ
    · exact joinsWith_3 w hJ
    · exact joinsWith_4 w hJ
    · exact joinsWith_5 w hJ
  · have hn : isKindB k = false := decide_eq_false (by omega)
    simp only [joinI_out hn]
    exact joinsWith_out k (by omega) w

set_option maxHeartbeats 4000000 in
theorem implIsKind_any (k : Int) (w : World) (hJ : JoinsAt w) : Calls Tryz.prog 143 #[.int .i64 k] w (fun e w' => e = .returned (.bool (isKindB k)) ∧ Below w.heap.size w w') := by
  by_cases h : 0 ≤ k ∧ k ≤ 5
  · have h6 : k = 0 ∨ k = 1 ∨ k = 2 ∨ k = 3 ∨ k = 4 ∨ k = 5 := by omega
    clear h
    rcases h6 with rfl | rfl | rfl | rfl | rfl | rfl
    · skip
      have q0 : ∀ W, (Op.equalIn 10000 186 (.agg #[.int .i64 0, .int .i64 0, .int .i64 0, .int .i64 0, .int .i64 0, .int .i64 0]) (.agg #[.int .i64 0, .int .i64 0, .int .i64 0, .int .i64 0, .int .i64 0, .int .i64 0])).run Tryz.prog W = .ok true W := fun _ => by kernel_rfl
      have HJW := Lib.hid (joinsWith_0 w hJ)
      clear hJ
      go_enter Tryz.func143, Tryz.ntmps143
      go_wp2_with fail
      refine HJW.out.mono ?_
      rintro e w1 ⟨rfl, hb1⟩
      go_wp2
      go_ret
      exact ⟨rfl, hb1⟩
    · skip
      have q0 : ∀ W, (Op.equalIn 10000 186 (.agg #[.int .i64 0, .int .i64 1, .int .i64 2, .int .i64 3, .int .i64 4, .int .i64 5]) (.agg #[.int .i64 0, .int .i64 0, .int .i64 0, .int .i64 0, .int .i64 0, .int .i64 0])).run Tryz.prog W = .ok false W := fun _ => by kernel_rfl
      have HJW := Lib.hid (joinsWith_1 w hJ)
      clear hJ
      go_enter Tryz.func143, Tryz.ntmps143
      go_wp2_with fail
      refine HJW.out.mono ?_
      rintro e w1 ⟨rfl, hb1⟩
      go_wp2
      go_ret
      exact ⟨rfl, hb1⟩
    · skip
      have q0 : ∀ W, (Op.equalIn 10000 186 (.agg #[.int .i64 0, .int .i64 2, .int .i64 2, .int .i64 4, .int .i64 4, .int .i64 5]) (.agg #[.int .i64 0, .int .i64 0, .int .i64 0, .int .i64 0, .int .i64 0, .int .i64 0])).run Tryz.prog W = .ok false W := fun _ => by kernel_rfl
      have HJW := Lib.hid (joinsWith_2 w hJ)
      clear hJ
      go_enter Tryz.func143, Tryz.ntmps143
      go_wp2_with fail
      refine HJW.out.mono ?_
      rintro e w1 ⟨rfl, hb1⟩
      go_wp2
      go_ret
      exact ⟨rfl, hb1⟩
    · skip
      have q0 : ∀ W, (Op.equalIn 10000 186 (.agg #[.int .i64 0, .int .i64 3, .int .i64 4, .int .i64 3, .int .i64 4, .int .i64 5]) (.agg #[.int .i64 0, .int .i64 0, .int .i64 0, .int .i64 0, .int .i64 0, .int .i64 0])).run Tryz.prog W = .ok false W := fun _ => by kernel_rfl
      have HJW := Lib.hid (joinsWith_3 w hJ)
      clear hJ
      go_enter Tryz.func143, Tryz.ntmps143
      go_wp2_with fail
      refine HJW.out.mono ?_
      rintro e w1 ⟨rfl, hb1⟩
      go_wp2
      go_ret
      exact ⟨rfl, hb1⟩
    · skip
      have q0 : ∀ W, (Op.equalIn 10000 186 (.agg #[.int .i64 0, .int .i64 4, .int .i64 4, .int .i64 4, .int .i64 4, .int .i64 5]) (.agg #[.int .i64 0, .int .i64 0, .int .i64 0, .int .i64 0, .int .i64 0, .int .i64 0])).run Tryz.prog W = .ok false W := fun _ => by kernel_rfl
      have HJW := Lib.hid (joinsWith_4 w hJ)
      clear hJ
      go_enter Tryz.func143, Tryz.ntmps143
      go_wp2_with fail
      refine HJW.out.mono ?_
      rintro e w1 ⟨rfl, hb1⟩
      go_wp2
      go_ret
      exact ⟨rfl, hb1⟩
    · skip
      have q0 : ∀ W, (Op.equalIn 10000 186 (.agg #[.int .i64 0, .int .i64 5, .int .i64 5, .int .i64 5, .int .i64 5, .int .i64 5]) (.agg #[.int .i64 0, .int .i64 0, .int .i64 0, .int .i64 0, .int .i64 0, .int .i64 0])).run Tryz.prog W = .ok false W := fun _ => by kernel_rfl
      have HJW := Lib.hid (joinsWith_5 w hJ)
      clear hJ
      go_enter Tryz.func143, Tryz.ntmps143
      go_wp2_with fail
      refine HJW.out.mono ?_
      rintro e w1 ⟨rfl, hb1⟩
      go_wp2
      go_ret
      exact ⟨rfl, hb1⟩
  · have hr := Lib.hid (show isKindB k = false from decide_eq_false (by omega))
    have hk : k < 0 ∨ 5 < k := by omega
    clear h
    have q0 : ∀ W, (Op.equalIn 10000 186 (.agg #[.int .i64 0, .int .i64 0, .int .i64 0, .int .i64 0, .int .i64 0, .int .i64 0]) (.agg #[.int .i64 0, .int .i64 0, .int .i64 0, .int .i64 0, .int .i64 0, .int .i64 0])).run Tryz.prog W = .ok true W := fun _ => by kernel_rfl
    have HJW := Lib.hid (joinsWith_out k hk w)
    clear hJ hk
    go_enter Tryz.func143, Tryz.ntmps143
    go_wp2_with fail
    refine HJW.out.mono ?_
    rintro e w1 ⟨rfl, hb1⟩
    go_wp2
    go_ret
    exact ⟨by rw [hr.out]; rfl, hb1⟩

set_option maxHeartbeats 4000000 in
theorem implJoinK_any (a b : Int) (w : World) (hJ : JoinsAt w) : Calls Tryz.prog 131 #[.int .i64 a, .int .i64 b] w (fun e w' => e = .returned (.int .i64 (joinI a b)) ∧ Below w.heap.size w w') := by
  have HK := Lib.hid (fun W => implIsKind_any b W)
  have HR := Lib.hid (fun W => joinsWith_any a W)
  have HF := Lib.hid hJ
  cases hb : isKindB b
  · have hr := Lib.hid (show joinI a b = 0 by rw [joinI_comm]; exact joinI_out hb a)
    rw [hb] at HK
    clear HR hb hJ
    go_enter Tryz.func131, Tryz.ntmps131
    go_wp2_with fail
    refine (HK.out _ HF.out).mono ?_
    rintro e w1 ⟨rfl, hb1⟩
    go_wp2
    go_ret
    exact ⟨by rw [hr.out]; rfl, hb1⟩
  · clear hJ
    rcases five hb with rfl | rfl | rfl | rfl | rfl
    · have hk5 : isKindB 1 = true := rfl
      rw [hk5] at HK
      clear hb hk5
      generalize joinI a 0 = x0 at *
      generalize joinI a 1 = x1 at *
      generalize joinI a 2 = x2 at *
      generalize joinI a 3 = x3 at *
      generalize joinI a 4 = x4 at *
      generalize joinI a 5 = x5 at *
      have i0 : ∀ W, (Instr.index 186 (.agg #[.int .i64 x0, .int .i64 x1, .int .i64 x2, .int .i64 x3, .int .i64 x4, .int .i64 x5]) (.int .i64 1)).run Tryz.prog W = .ok (.int .i64 x1) W := fun _ => by kernel_rfl
      go_enter Tryz.func131, Tryz.ntmps131
      go_wp2_with fail
      refine (HK.out _ HF.out).mono ?_
      rintro e w1 ⟨rfl, hb1⟩
      have HF1 := Lib.hid (HF.out.below hb1)
      go_wp2_with fail
      refine (HR.out _ HF1.out).mono ?_
      rintro e w2 ⟨rfl, hb2⟩
      go_wp2
      go_ret
      exact ⟨rfl, hb1.trans (hb2.mono hb1.size)⟩
    · have hk5 : isKindB 2 = true := rfl
      rw [hk5] at HK
      clear hb hk5
      generalize joinI a 0 = x0 at *
      generalize joinI a 1 = x1 at *
      generalize joinI a 2 = x2 at *
      generalize joinI a 3 = x3 at *
      generalize joinI a 4 = x4 at *
      generalize joinI a 5 = x5 at *
      have i0 : ∀ W, (Instr.index 186 (.agg #[.int .i64 x0, .int .i64 x1, .int .i64 x2, .int .i64 x3, .int .i64 x4, .int .i64 x5]) (.int .i64 2)).run Tryz.prog W = .ok (.int .i64 x2) W := fun _ => by kernel_rfl
      go_enter Tryz.func131, Tryz.ntmps131
      go_wp2_with fail
      refine (HK.out _ HF.out).mono ?_
      rintro e w1 ⟨rfl, hb1⟩
      have HF1 := Lib.hid (HF.out.below hb1)
      go_wp2_with fail
      refine (HR.out _ HF1.out).mono ?_
      rintro e w2 ⟨rfl, hb2⟩
      go_wp2
      go_ret
      exact ⟨rfl, hb1.trans (hb2.mono hb1.size)⟩
    · have hk5 : isKindB 3 = true := rfl
      rw [hk5] at HK
      clear hb hk5
      generalize joinI a 0 = x0 at *
      generalize joinI a 1 = x1 at *
      generalize joinI a 2 = x2 at *
      generalize joinI a 3 = x3 at *
      generalize joinI a 4 = x4 at *
      generalize joinI a 5 = x5 at *
      have i0 : ∀ W, (Instr.index 186 (.agg #[.int .i64 x0, .int .i64 x1, .int .i64 x2, .int .i64 x3, .int .i64 x4, .int .i64 x5]) (.int .i64 3)).run Tryz.prog W = .ok (.int .i64 x3) W := fun _ => by kernel_rfl
      go_enter Tryz.func131, Tryz.ntmps131
      go_wp2_with fail
      refine (HK.out _ HF.out).mono ?_
      rintro e w1 ⟨rfl, hb1⟩
      have HF1 := Lib.hid (HF.out.below hb1)
      go_wp2_with fail
      refine (HR.out _ HF1.out).mono ?_
      rintro e w2 ⟨rfl, hb2⟩
      go_wp2
      go_ret
      exact ⟨rfl, hb1.trans (hb2.mono hb1.size)⟩
    · have hk5 : isKindB 4 = true := rfl
      rw [hk5] at HK
      clear hb hk5
      generalize joinI a 0 = x0 at *
      generalize joinI a 1 = x1 at *
      generalize joinI a 2 = x2 at *
      generalize joinI a 3 = x3 at *
      generalize joinI a 4 = x4 at *
      generalize joinI a 5 = x5 at *
      have i0 : ∀ W, (Instr.index 186 (.agg #[.int .i64 x0, .int .i64 x1, .int .i64 x2, .int .i64 x3, .int .i64 x4, .int .i64 x5]) (.int .i64 4)).run Tryz.prog W = .ok (.int .i64 x4) W := fun _ => by kernel_rfl
      go_enter Tryz.func131, Tryz.ntmps131
      go_wp2_with fail
      refine (HK.out _ HF.out).mono ?_
      rintro e w1 ⟨rfl, hb1⟩
      have HF1 := Lib.hid (HF.out.below hb1)
      go_wp2_with fail
      refine (HR.out _ HF1.out).mono ?_
      rintro e w2 ⟨rfl, hb2⟩
      go_wp2
      go_ret
      exact ⟨rfl, hb1.trans (hb2.mono hb1.size)⟩
    · have hk5 : isKindB 5 = true := rfl
      rw [hk5] at HK
      clear hb hk5
      generalize joinI a 0 = x0 at *
      generalize joinI a 1 = x1 at *
      generalize joinI a 2 = x2 at *
      generalize joinI a 3 = x3 at *
      generalize joinI a 4 = x4 at *
      generalize joinI a 5 = x5 at *
      have i0 : ∀ W, (Instr.index 186 (.agg #[.int .i64 x0, .int .i64 x1, .int .i64 x2, .int .i64 x3, .int .i64 x4, .int .i64 x5]) (.int .i64 5)).run Tryz.prog W = .ok (.int .i64 x5) W := fun _ => by kernel_rfl
      go_enter Tryz.func131, Tryz.ntmps131
      go_wp2_with fail
      refine (HK.out _ HF.out).mono ?_
      rintro e w1 ⟨rfl, hb1⟩
      have HF1 := Lib.hid (HF.out.below hb1)
      go_wp2_with fail
      refine (HR.out _ HF1.out).mono ?_
      rintro e w2 ⟨rfl, hb2⟩
      go_wp2
      go_ret
      exact ⟨rfl, hb1.trans (hb2.mono hb1.size)⟩

theorem within_join {a b : Int} (hb : isKindB b = true) : (joinI a b == b) = withinB a b := by
  by_cases ha : isKindB a = true
  · rcases five ha with rfl | rfl | rfl | rfl | rfl <;> rcases five hb with rfl | rfl | rfl | rfl | rfl <;> rfl
  · have ha' : isKindB a = false := by simpa using ha
    rw [joinI_out ha']
    simp only [withinB, ha', Bool.false_and]
    rcases five hb with rfl | rfl | rfl | rfl | rfl <;> rfl

set_option maxHeartbeats 4000000 in
theorem implIsWithin_any (a b : Int) (w : World) (hJ : JoinsAt w) : Calls Tryz.prog 132 #[.int .i64 a, .int .i64 b] w (BoolIs (withinB a b) w) := by
  have HK := Lib.hid (fun W => implIsKind_any b W)
  have HR := Lib.hid (fun W => implJoinK_any a b W)
  have HF := Lib.hid hJ
  clear hJ
  cases hb : isKindB b
  · have hr := Lib.hid (show withinB a b = false by simp [withinB, hb])
    rw [hb] at HK
    clear HR hb
    go_enter Tryz.func132, Tryz.ntmps132
    go_wp2_with fail
    refine (HK.out _ HF.out).mono ?_
    rintro e w1 ⟨rfl, hb1⟩
    go_wp2
    go_ret
    exact ⟨by rw [hr.out]; rfl, hb1⟩
  · have hr := Lib.hid (within_join (a := a) hb)
    rw [hb] at HK
    clear hb
    generalize joinI a b = j at *
    go_enter Tryz.func132, Tryz.ntmps132
    go_wp2_with fail
    refine (HK.out _ HF.out).mono ?_
    rintro e w1 ⟨rfl, hb1⟩
    have HF1 := Lib.hid (HF.out.below hb1)
    go_wp2_with fail
    refine (HR.out _ HF1.out).mono ?_
    rintro e w2 ⟨rfl, hb2⟩
    go_wp2
    go_ret
    exact ⟨by rw [← hr.out]; rfl, hb1.trans (hb2.mono hb1.size)⟩

theorem notFive {k : Int} (h : ¬ isKindB k = true) : ¬ (1 ≤ k ∧ k ≤ 5) := fun g => h (decide_eq_true g)

end Go.Proofs.YthdfidhijmcbdaaGreatDoor
