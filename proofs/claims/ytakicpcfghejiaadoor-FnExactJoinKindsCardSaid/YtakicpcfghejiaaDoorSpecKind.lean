/- spec.IsKind, spec.IsWithin, spec.JoinKinds, spec.KindText, spec.FociRange. -/
import Derived.Test.YtakicpcfghejiaaDoorOType
import Derived.Deep.QuietTactic
import Derived.BigQuiet
namespace Go.Proofs.YtakicpcfghejiaaDoor
open Go.RowKit

def kinds5 : List ByteArray := [⟨#[105, 115, 111]⟩, ⟨#[108, 101, 110, 115]⟩, ⟨#[112, 114, 105, 115, 109]⟩, ⟨#[97, 102, 102, 105, 110, 101]⟩, ⟨#[116, 114, 97, 118, 101, 114, 115, 97, 108]⟩]

theorem specIsKind_any (k : Int) (w : World) : Calls Tryd.prog 19 #[.int .i64 k] w fun e w' => e = .returned (.bool (isKindB k)) ∧ w = w' := by
  by_cases h : 1 ≤ k ∧ k ≤ 5
  · have hr := Lib.hid (show isKindB k = true from decide_eq_true h)
    have HI := Lib.hid (fun W => l1In_yes k 1 5 W h.1 h.2)
    clear h
    go_enter Tryd.func19, Tryd.ntmps19
    go_wp2_with fail
    refine (HI.out _).mono ?_
    rintro e w1 ⟨rfl, rfl⟩
    go_wp2
    go_ret
    exact ⟨by rw [hr.out]; rfl, rfl⟩
  · have hr := Lib.hid (show isKindB k = false from decide_eq_false h)
    have HI := Lib.hid (fun W => l1In_no k 1 5 W (by omega))
    clear h
    go_enter Tryd.func19, Tryd.ntmps19
    go_wp2_with fail
    refine (HI.out _).mono ?_
    rintro e w1 ⟨rfl, rfl⟩
    go_wp2
    go_ret
    exact ⟨by rw [hr.out]; rfl, rfl⟩

set_option maxHeartbeats 4000000 in
theorem specIsWithin_any (a b : Int) (w : World) : Calls Tryd.prog 15 #[.int .i64 a, .int .i64 b] w (BoolIs (withinB a b) w) := by
  have HA := specIsKind_any a
  have HB := specIsKind_any b
  cases ha : isKindB a
  · have hr := Lib.hid (show withinB a b = false by simp [withinB, ha])
    rw [ha] at HA
    have HA' := Lib.hid HA
    clear HA HB ha
    go_enter Tryd.func15, Tryd.ntmps15
    go_wp2_with fail
    refine (HA'.out _).mono ?_
    rintro e w1 ⟨rfl, rfl⟩
    go_wp2
    go_ret
    exact ⟨by rw [hr.out]; rfl, Below.refl _ _⟩
  · cases hb : isKindB b
    · have hr := Lib.hid (show withinB a b = false by simp [withinB, hb])
      rw [ha] at HA
      rw [hb] at HB
      have HA' := Lib.hid HA
      have HB' := Lib.hid HB
      clear HA HB ha hb
      go_enter Tryd.func15, Tryd.ntmps15
      go_wp2_with fail
      refine (HA'.out _).mono ?_
      rintro e w1 ⟨rfl, rfl⟩
      go_wp2_with fail
      refine (HB'.out _).mono ?_
      rintro e w1 ⟨rfl, rfl⟩
      go_wp2
      go_ret
      exact ⟨by rw [hr.out]; rfl, Below.refl _ _⟩
    · clear HA HB
      rcases five ha with rfl | rfl | rfl | rfl | rfl <;> rcases five hb with rfl | rfl | rfl | rfl | rfl <;>
        (clear ha hb
         go_enter Tryd.func15, Tryd.ntmps15
         go_wp2
         go_ret
         exact ⟨rfl, Below.refl _ _⟩)

theorem specFoci_any (k : Int) (w : World) : Calls Tryd.prog 12 #[.int .i64 k] w fun e w' => e = .returned (.tuple #[.int .i64 (fociLoI k), .int .i64 (fociHiI k)]) ∧ w = w' := by
  by_cases hk : isKindB k = true
  · rcases five hk with rfl | rfl | rfl | rfl | rfl <;>
      (clear hk
       go_enter Tryd.func12, Tryd.ntmps12
       go_wp2
       exact bodyPost_ret (v := .tuple #[.int .i64 _, .int .i64 _]) (by simp [results, Tryd.results12, go_sem]; exact ⟨rfl, rfl⟩) rfl ⟨rfl, rfl⟩)
  · have hn : ¬ (1 ≤ k ∧ k ≤ 5) := fun h => hk (decide_eq_true h)
    have i1 : (k == 1) = false := by rw [beq_eq_false_iff_ne]; omega
    have i2 : (k == 2) = false := by rw [beq_eq_false_iff_ne]; omega
    have i3 : (k == 3) = false := by rw [beq_eq_false_iff_ne]; omega
    have i4 : (k == 4) = false := by rw [beq_eq_false_iff_ne]; omega
    have i5 : (k == 5) = false := by rw [beq_eq_false_iff_ne]; omega
    have hr := Lib.hid (show fociLoI k = 0 ∧ fociHiI k = 0 by unfold fociLoI fociHiI; rw [if_neg (by omega), if_neg (by omega), if_neg (by omega)]; exact ⟨rfl, rfl⟩)
    clear hn hk
    go_enter Tryd.func12, Tryd.ntmps12
    go_wp2
    exact bodyPost_ret (v := .tuple #[.int .i64 0, .int .i64 0]) (by simp [results, Tryd.results12, go_sem]) rfl ⟨by rw [hr.out.1, hr.out.2], rfl⟩

set_option maxHeartbeats 4000000 in
theorem specKindText_any (k : Int) (w : World) : Calls Tryd.prog 17 #[.int .i64 k] w fun e w' => e = .returned (.string (kindTextB k)) ∧ Below w.heap.size w w' := by
  have HA := specIsKind_any k
  by_cases hk : isKindB k = true
  · rw [hk] at HA
    have HA' := Lib.hid HA
    clear HA
    rcases five hk with rfl | rfl | rfl | rfl | rfl <;>
      (clear hk
       go_enter Tryd.func17, Tryd.ntmps17
       go_wp2_with fail
       refine (HA'.out _).mono ?_
       rintro e w1 ⟨rfl, rfl⟩
       have hb := (Below.refl w.heap.size w).alloc (Nat.le_refl _) (.cells (strVals kinds5).toArray 9)
       go_wp2
       go_ret
       exact ⟨rfl, hb⟩)
  · have hn : isKindB k = false := by simpa using hk
    rw [hn] at HA
    have hn' : ¬ (1 ≤ k ∧ k ≤ 5) := fun h => hk (decide_eq_true h)
    have hr := Lib.hid (show kindTextB k = ⟨#[63]⟩ by unfold kindTextB; rw [if_neg (by omega), if_neg (by omega), if_neg (by omega), if_neg (by omega), if_neg (by omega)])
    have HA' := Lib.hid HA
    clear HA hk hn hn'
    go_enter Tryd.func17, Tryd.ntmps17
    go_wp2_with fail
    refine (HA'.out _).mono ?_
    rintro e w1 ⟨rfl, rfl⟩
    go_wp2
    go_ret
    exact ⟨by rw [hr.out]; rfl, Below.refl _ _⟩

set_option maxHeartbeats 4000000 in
theorem specJoin_any (a b : Int) (w : World) : Calls Tryd.prog 13 #[.int .i64 a, .int .i64 b] w fun e w' => e = .returned (.int .i64 (joinI a b)) ∧ Below w.heap.size w w' := by
  have HA := specIsKind_any a
  have HB := specIsKind_any b
  cases ha : isKindB a
  · have hr := Lib.hid (joinI_none (a := a) (b := b) (by rw [ha]; rfl))
    rw [ha] at HA
    have HA' := Lib.hid HA
    clear HA HB ha
    go_enter Tryd.func13, Tryd.ntmps13
    go_wp2_with fail
    refine (HA'.out _).mono ?_
    rintro e w1 ⟨rfl, rfl⟩
    go_wp2
    go_ret
    exact ⟨by rw [hr.out]; rfl, Below.refl _ _⟩
  · cases hb : isKindB b
    · have hr := Lib.hid (joinI_none (a := a) (b := b) (by rw [ha, hb]; rfl))
      rw [ha] at HA
      rw [hb] at HB
      have HA' := Lib.hid HA
      have HB' := Lib.hid HB
      clear HA HB ha hb
      go_enter Tryd.func13, Tryd.ntmps13
      go_wp2_with fail
      refine (HA'.out _).mono ?_
      rintro e w1 ⟨rfl, rfl⟩
      go_wp2_with fail
      refine (HB'.out _).mono ?_
      rintro e w1 ⟨rfl, rfl⟩
      go_wp2
      go_ret
      exact ⟨by rw [hr.out]; rfl, Below.refl _ _⟩
    · have hj : joinI a b = if withinB a b = true then b else if withinB b a = true then a else 4 := by simp [joinI, ha, hb]
      rw [ha] at HA
      rw [hb] at HB
      have HA' := Lib.hid HA
      have HB' := Lib.hid HB
      clear HA HB ha hb
      cases h1 : withinB a b
      · cases h2 : withinB b a
        · rw [h1] at hj
          rw [h2] at hj
          have hr := Lib.hid (show joinI a b = 4 from hj)
          have H1' := Lib.hid (fun W => (show Calls Tryd.prog 15 #[.int .i64 a, .int .i64 b] W (BoolIs false W) from by have h0 := specIsWithin_any a b W; rw [h1] at h0; exact h0))
          have H2' := Lib.hid (fun W => (show Calls Tryd.prog 15 #[.int .i64 b, .int .i64 a] W (BoolIs false W) from by have h0 := specIsWithin_any b a W; rw [h2] at h0; exact h0))
          clear hj h1 h2
          go_enter Tryd.func13, Tryd.ntmps13
          go_wp2_with fail
          refine (HA'.out _).mono ?_
          rintro e w1 ⟨rfl, rfl⟩
          go_wp2_with fail
          refine (HB'.out _).mono ?_
          rintro e w1 ⟨rfl, rfl⟩
          go_wp2_with fail
          refine (H1'.out _).mono ?_
          rintro e w1 ⟨rfl, hb1⟩
          go_wp2_with fail
          refine (H2'.out _).mono ?_
          rintro e w2 ⟨rfl, hb2⟩
          go_wp2
          go_ret
          exact ⟨by rw [hr.out]; rfl, hb1.trans (hb2.mono hb1.size)⟩
        · rw [h1] at hj
          rw [h2] at hj
          have hr := Lib.hid (show joinI a b = a from hj)
          have H1' := Lib.hid (fun W => (show Calls Tryd.prog 15 #[.int .i64 a, .int .i64 b] W (BoolIs false W) from by have h0 := specIsWithin_any a b W; rw [h1] at h0; exact h0))
          have H2' := Lib.hid (fun W => (show Calls Tryd.prog 15 #[.int .i64 b, .int .i64 a] W (BoolIs true W) from by have h0 := specIsWithin_any b a W; rw [h2] at h0; exact h0))
          clear hj h1 h2
          go_enter Tryd.func13, Tryd.ntmps13
          go_wp2_with fail
          refine (HA'.out _).mono ?_
          rintro e w1 ⟨rfl, rfl⟩
          go_wp2_with fail
          refine (HB'.out _).mono ?_
          rintro e w1 ⟨rfl, rfl⟩
          go_wp2_with fail
          refine (H1'.out _).mono ?_
          rintro e w1 ⟨rfl, hb1⟩
          go_wp2_with fail
          refine (H2'.out _).mono ?_
          rintro e w2 ⟨rfl, hb2⟩
          go_wp2
          go_ret
          exact ⟨by rw [hr.out]; rfl, hb1.trans (hb2.mono hb1.size)⟩
      · rw [h1] at hj
        have hr := Lib.hid (show joinI a b = b from hj)
        have H1' := Lib.hid (fun W => (show Calls Tryd.prog 15 #[.int .i64 a, .int .i64 b] W (BoolIs true W) from by have h0 := specIsWithin_any a b W; rw [h1] at h0; exact h0))
        clear hj h1
        go_enter Tryd.func13, Tryd.ntmps13
        go_wp2_with fail
        refine (HA'.out _).mono ?_
        rintro e w1 ⟨rfl, rfl⟩
        go_wp2_with fail
        refine (HB'.out _).mono ?_
        rintro e w1 ⟨rfl, rfl⟩
        go_wp2_with fail
        refine (H1'.out _).mono ?_
        rintro e w1 ⟨rfl, hb1⟩
        go_wp2
        go_ret
        exact ⟨by rw [hr.out]; rfl, hb1⟩

end Go.Proofs.YtakicpcfghejiaaDoor
