/- impl.IsKind, impl.IsWithin, impl.JoinKinds, impl.KindText, impl.FociRange: over the table of joins. -/
import Derived.Test.YtakicpcfghejiaaOType
import Derived.Deep.QuietTactic
import Derived.BigQuiet
namespace Go.Proofs.Ytakicpcfghejiaa
set_option maxRecDepth 100000
open Go.RowKit

/-- The table of joins: six rows of six numbers. -/
def joinCells : List Value := [.int .i64 0, .int .i64 0, .int .i64 0, .int .i64 0, .int .i64 0, .int .i64 0, .int .i64 0, .int .i64 1, .int .i64 2, .int .i64 3, .int .i64 4, .int .i64 5, .int .i64 0, .int .i64 2, .int .i64 2, .int .i64 4, .int .i64 4, .int .i64 5, .int .i64 0, .int .i64 3, .int .i64 4, .int .i64 3, .int .i64 4, .int .i64 5, .int .i64 0, .int .i64 4, .int .i64 4, .int .i64 4, .int .i64 4, .int .i64 5, .int .i64 0, .int .i64 5, .int .i64 5, .int .i64 5, .int .i64 5, .int .i64 5]
theorem joinI_out {k : Int} (h : isKindB k = false) (j : Int) : joinI k j = 0 := joinI_none (by rw [h]; rfl)
theorem joinI_zero (k : Int) : joinI k 0 = 0 := joinI_none (by simp [isKindB])

theorem within_join {a b : Int} (hb : isKindB b = true) : (joinI a b == b) = withinB a b := by
  by_cases ha : isKindB a = true
  · rcases five ha with rfl | rfl | rfl | rfl | rfl <;> rcases five hb with rfl | rfl | rfl | rfl | rfl <;> rfl
  · have ha' : isKindB a = false := by simpa using ha
    rw [joinI_out ha']
    simp only [withinB, ha', Bool.false_and]
    rcases five hb with rfl | rfl | rfl | rfl | rfl <;> rfl

theorem notFive {k : Int} (h : ¬ isKindB k = true) : ¬ (1 ≤ k ∧ k ≤ 5) := fun g => h (decide_eq_true g)

set_option maxHeartbeats 4000000 in
theorem implKindText_any (k : Int) (w : World) : Calls Try.prog 6 #[.int .i64 k] w fun e w' => e = .returned (.string (kindTextB k)) ∧ Below w.heap.size w w' := by
  by_cases hk : isKindB k = true
  · rcases five hk with rfl | rfl | rfl | rfl | rfl <;>
      (clear hk
       go_enter Try.func6, Try.ntmps6
       go_wp2
       go_ret
       exact ⟨rfl, Below.refl _ _⟩)
  · have hn := notFive hk
    have i1 : (k == 1) = false := by rw [beq_eq_false_iff_ne]; omega
    have i2 : (k == 2) = false := by rw [beq_eq_false_iff_ne]; omega
    have i3 : (k == 3) = false := by rw [beq_eq_false_iff_ne]; omega
    have i4 : (k == 4) = false := by rw [beq_eq_false_iff_ne]; omega
    have i5 : (k == 5) = false := by rw [beq_eq_false_iff_ne]; omega
    have hr := Lib.hid (show kindTextB k = ⟨#[63]⟩ by unfold kindTextB; rw [if_neg (by omega), if_neg (by omega), if_neg (by omega), if_neg (by omega), if_neg (by omega)])
    clear hn hk
    go_enter Try.func6, Try.ntmps6
    go_wp2
    go_ret
    exact ⟨by rw [hr.out]; rfl, Below.refl _ _⟩

theorem implFoci0 (k : Int) (w : World) : Calls Try.prog 8 #[.int .i64 k] w fun e w' => e = .returned (.tuple #[.int .i64 (fociLoI k), .int .i64 (fociHiI k)]) ∧ w = w' := by
  by_cases hk : isKindB k = true
  · rcases five hk with rfl | rfl | rfl | rfl | rfl <;>
      (clear hk
       go_enter Try.func8, Try.ntmps8
       go_wp2
       exact bodyPost_ret (v := .tuple #[.int .i64 _, .int .i64 _]) (by simp [results, Try.results8, go_sem]; exact ⟨rfl, rfl⟩) rfl ⟨rfl, rfl⟩)
  · have hn := notFive hk
    have i1 : (k == 1) = false := by rw [beq_eq_false_iff_ne]; omega
    have i2 : (k == 2) = false := by rw [beq_eq_false_iff_ne]; omega
    have i3 : (k == 3) = false := by rw [beq_eq_false_iff_ne]; omega
    have i4 : (k == 4) = false := by rw [beq_eq_false_iff_ne]; omega
    have i5 : (k == 5) = false := by rw [beq_eq_false_iff_ne]; omega
    have hr := Lib.hid (show fociLoI k = 0 ∧ fociHiI k = 0 by unfold fociLoI fociHiI; rw [if_neg (by omega), if_neg (by omega), if_neg (by omega)]; exact ⟨rfl, rfl⟩)
    clear hn hk
    go_enter Try.func8, Try.ntmps8
    go_wp2
    exact bodyPost_ret (v := .tuple #[.int .i64 0, .int .i64 0]) (by simp [results, Try.results8, go_sem]) rfl ⟨by rw [hr.out.1, hr.out.2], rfl⟩
theorem implFoci_any (k : Int) (W : World) : Calls Try.prog 8 #[.int .i64 k] W (fun e w' => e = .returned (.tuple #[.int .i64 (fociLoI k), .int .i64 (fociHiI k)]) ∧ Below W.heap.size W w') := (implFoci0 k W).mono (by rintro e w' ⟨h, rfl⟩; exact ⟨h, Below.refl _ _⟩)

end Go.Proofs.Ytakicpcfghejiaa
