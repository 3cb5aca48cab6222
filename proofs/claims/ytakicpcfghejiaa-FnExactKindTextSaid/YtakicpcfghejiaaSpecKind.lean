/- spec.IsKind, spec.IsWithin, spec.JoinKinds, spec.KindText, spec.FociRange. -/
import Derived.Test.YtakicpcfghejiaaOType
import Derived.Deep.QuietTactic
import Derived.BigQuiet
namespace Go.Proofs.Ytakicpcfghejiaa
open Go.RowKit

def kinds5 : List ByteArray := [⟨#[105, 115, 111]⟩, ⟨#[108, 101, 110, 115]⟩, ⟨#[112, 114, 105, 115, 109]⟩, ⟨#[97, 102, 102, 105, 110, 101]⟩, ⟨#[116, 114, 97, 118, 101, 114, 115, 97, 108]⟩]

theorem specIsKind_any (k : Int) (w : World) : Calls Try.prog 9 #[.int .i64 k] w fun e w' => e = .returned (.bool (isKindB k)) ∧ w = w' := by
  by_cases h : 1 ≤ k ∧ k ≤ 5
  · have hr := Lib.hid (show isKindB k = true from decide_eq_true h)
    have HI := Lib.hid (fun W => l1In_yes k 1 5 W h.1 h.2)
    clear h
    go_enter Try.func9, Try.ntmps9
    go_wp2_with fail
    refine (HI.out _).mono ?_
    rintro e w1 ⟨rfl, rfl⟩
    go_wp2
    go_ret
    exact ⟨by rw [hr.out]; rfl, rfl⟩
  · have hr := Lib.hid (show isKindB k = false from decide_eq_false h)
    have HI := Lib.hid (fun W => l1In_no k 1 5 W (by omega))
    clear h
    go_enter Try.func9, Try.ntmps9
    go_wp2_with fail
    refine (HI.out _).mono ?_
    rintro e w1 ⟨rfl, rfl⟩
    go_wp2
    go_ret
    exact ⟨by rw [hr.out]; rfl, rfl⟩

theorem specFoci_any (k : Int) (w : World) : Calls Try.prog 7 #[.int .i64 k] w fun e w' => e = .returned (.tuple #[.int .i64 (fociLoI k), .int .i64 (fociHiI k)]) ∧ w = w' := by
  by_cases hk : isKindB k = true
  · rcases five hk with rfl | rfl | rfl | rfl | rfl <;>
      (clear hk
       go_enter Try.func7, Try.ntmps7
       go_wp2
       exact bodyPost_ret (v := .tuple #[.int .i64 _, .int .i64 _]) (by simp [results, Try.results7, go_sem]; exact ⟨rfl, rfl⟩) rfl ⟨rfl, rfl⟩)
  · have hn : ¬ (1 ≤ k ∧ k ≤ 5) := fun h => hk (decide_eq_true h)
    have i1 : (k == 1) = false := by rw [beq_eq_false_iff_ne]; omega
    have i2 : (k == 2) = false := by rw [beq_eq_false_iff_ne]; omega
    have i3 : (k == 3) = false := by rw [beq_eq_false_iff_ne]; omega
    have i4 : (k == 4) = false := by rw [beq_eq_false_iff_ne]; omega
    have i5 : (k == 5) = false := by rw [beq_eq_false_iff_ne]; omega
    have hr := Lib.hid (show fociLoI k = 0 ∧ fociHiI k = 0 by unfold fociLoI fociHiI; rw [if_neg (by omega), if_neg (by omega), if_neg (by omega)]; exact ⟨rfl, rfl⟩)
    clear hn hk
    go_enter Try.func7, Try.ntmps7
    go_wp2
    exact bodyPost_ret (v := .tuple #[.int .i64 0, .int .i64 0]) (by simp [results, Try.results7, go_sem]) rfl ⟨by rw [hr.out.1, hr.out.2], rfl⟩

set_option maxHeartbeats 4000000 in
theorem specKindText_any (k : Int) (w : World) : Calls Try.prog 5 #[.int .i64 k] w fun e w' => e = .returned (.string (kindTextB k)) ∧ Below w.heap.size w w' := by
  have HA := specIsKind_any k
  by_cases hk : isKindB k = true
  · rw [hk] at HA
    have HA' := Lib.hid HA
    clear HA
    rcases five hk with rfl | rfl | rfl | rfl | rfl <;>
      (clear hk
       go_enter Try.func5, Try.ntmps5
       go_wp2_with fail
       refine (HA'.out _).mono ?_
       rintro e w1 ⟨rfl, rfl⟩
       have hb := (Below.refl w.heap.size w).alloc (Nat.le_refl _) (.cells (strVals kinds5).toArray 9)
       go_wp2
       go_ret
       exact ⟨rfl, hb⟩)
  · have hn : isKindB k = false := by simpa using hk
    rw [hn] at HA
    have hn' : ¬ (1 ≤ k ∧ k ≤ 5) := fun h => hk (decide_eq_true h)
    have hr := Lib.hid (show kindTextB k = ⟨#[63]⟩ by unfold kindTextB; rw [if_neg (by omega), if_neg (by omega), if_neg (by omega), if_neg (by omega), if_neg (by omega)])
    have HA' := Lib.hid HA
    clear HA hk hn hn'
    go_enter Try.func5, Try.ntmps5
    go_wp2_with fail
    refine (HA'.out _).mono ?_
    rintro e w1 ⟨rfl, rfl⟩
    go_wp2
    go_ret
    exact ⟨by rw [hr.out]; rfl, Below.refl _ _⟩

end Go.Proofs.Ytakicpcfghejiaa
