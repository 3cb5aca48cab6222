/- Lemmas: SpecKind, SpecHasK. -/
import Derived.Test.YtfnblkcmcfofoaaGreatDoorLawFoci_16
import Derived.Deep.QuietTactic
import Derived.BigQuiet

namespace Go.Proofs.YtfnblkcmcfofoaaGreatDoor
section
open Go.RowKit
theorem specIsKind_any (k:Int) (w:World):Calls Tryz.prog 173 #[.int .i64 k] w fun e w'=>e=.returned (.bool (isKindB k))∧w=w':=by
  by_cases h:1≤k∧k≤5
  · have hr:=Lib.hid (show isKindB k=true from decide_eq_true h)
    have HI:=Lib.hid (fun W=>l1In_yes k 1 5 W h.1 h.2)
    clear h
    go_enter Tryz.func173,Tryz.ntmps173
    go_wp2_with fail
    refine (HI.out _).mono ?_
    rintro e w1 ⟨rfl,rfl⟩
    go_wp2
    go_ret
    exact ⟨by rw [hr.out];rfl,rfl⟩
  · have hr:=Lib.hid (show isKindB k=false from decide_eq_false h)
    have HI:=Lib.hid (fun W=>l1In_no k 1 5 W (by omega))
    clear h
    go_enter Tryz.func173,Tryz.ntmps173
    go_wp2_with fail
    refine (HI.out _).mono ?_
    rintro e w1 ⟨rfl,rfl⟩
    go_wp2
    go_ret
    exact ⟨by rw [hr.out];rfl,rfl⟩
set_option maxHeartbeats 4000000 in
theorem specIsWithin_any (a b:Int) (w:World):Calls Tryz.prog 138 #[.int .i64 a,.int .i64 b] w (BoolIs (withinB a b) w):=by
  have HA:=specIsKind_any a
  have HB:=specIsKind_any b
  cases ha:isKindB a
  · have hr:=Lib.hid (show withinB a b=false by simp [withinB,ha])
    rw [ha] at HA
    have HA':=Lib.hid HA
    clear HA HB ha
    go_enter Tryz.func138,Tryz.ntmps138
    go_wp2_with fail
    refine (HA'.out _).mono ?_
    rintro e w1 ⟨rfl,rfl⟩
    go_wp2
    go_ret
    exact ⟨by rw [hr.out];rfl,Below.refl _ _⟩
  · cases hb:isKindB b
    · have hr:=Lib.hid (show withinB a b=false by simp [withinB,hb])
      rw [ha] at HA
      rw [hb] at HB
      have HA':=Lib.hid HA
      have HB':=Lib.hid HB
      clear HA HB ha hb
      go_enter Tryz.func138,Tryz.ntmps138
      go_wp2_with fail
      refine (HA'.out _).mono ?_
      rintro e w1 ⟨rfl,rfl⟩
      go_wp2_with fail
      refine (HB'.out _).mono ?_
      rintro e w1 ⟨rfl,rfl⟩
      go_wp2
      go_ret
      exact ⟨by rw [hr.out];rfl,Below.refl _ _⟩
    · clear HA HB
      rcases five ha with rfl | rfl | rfl | rfl | rfl<;>rcases five hb with rfl | rfl | rfl | rfl | rfl <;>
        (clear ha hb
         go_enter Tryz.func138,Tryz.ntmps138
         go_wp2
         go_ret
         exact ⟨rfl,Below.refl _ _⟩)
set_option maxHeartbeats 4000000 in
theorem specJoin_any (a b:Int) (w:World):Calls Tryz.prog 183 #[.int .i64 a,.int .i64 b] w fun e w'=>e=.returned (.int .i64 (joinI a b))∧Below w.heap.size w w':=by
  have HA:=specIsKind_any a
  have HB:=specIsKind_any b
  cases ha:isKindB a
  · have hr:=Lib.hid (joinI_none (a:=a) (b:=b) (by rw [ha];rfl))
    rw [ha] at HA
    have HA':=Lib.hid HA
    clear HA HB ha
    go_enter Tryz.func183,Tryz.ntmps183
    go_wp2_with fail
    refine (HA'.out _).mono ?_
    rintro e w1 ⟨rfl,rfl⟩
    go_wp2
    go_ret
    exact ⟨by rw [hr.out];rfl,Below.refl _ _⟩
  · cases hb:isKindB b
    · have hr:=Lib.hid (joinI_none (a:=a) (b:=b) (by rw [ha,hb];rfl))
      rw [ha] at HA
      rw [hb] at HB
      have HA':=Lib.hid HA
      have HB':=Lib.hid HB
      clear HA HB ha hb
      go_enter Tryz.func183,Tryz.ntmps183
      go_wp2_with fail
      refine (HA'.out _).mono ?_
      rintro e w1 ⟨rfl,rfl⟩
      go_wp2_with fail
      refine (HB'.out _).mono ?_
      rintro e w1 ⟨rfl,rfl⟩
      go_wp2
      go_ret
      exact ⟨by rw [hr.out];rfl,Below.refl _ _⟩
    · have hj:joinI a b=if withinB a b=true then b else if withinB b a=true then a else 4:=by simp [joinI,ha,hb]
      rw [ha] at HA
      rw [hb] at HB
      have HA':=Lib.hid HA
      have HB':=Lib.hid HB
      clear HA HB ha hb
      cases h1:withinB a b
      · cases h2:withinB b a
        · rw [h1] at hj
          rw [h2] at hj
          have hr:=Lib.hid (show joinI a b=4 from hj)
          have H1':=Lib.hid (fun W=>(show Calls Tryz.prog 138 #[.int .i64 a,.int .i64 b] W (BoolIs false W) from by have h0:=specIsWithin_any a b W;rw [h1] at h0;exact h0))
          have H2':=Lib.hid (fun W=>(show Calls Tryz.prog 138 #[.int .i64 b,.int .i64 a] W (BoolIs false W) from by have h0:=specIsWithin_any b a W;rw [h2] at h0;exact h0))
          clear hj h1 h2
          go_enter Tryz.func183,Tryz.ntmps183
          go_wp2_with fail
          refine (HA'.out _).mono ?_
          rintro e w1 ⟨rfl,rfl⟩
          go_wp2_with fail
          refine (HB'.out _).mono ?_
          rintro e w1 ⟨rfl,rfl⟩
          go_wp2_with fail
          refine (H1'.out _).mono ?_
          rintro e w1 ⟨rfl,hb1⟩
          go_wp2_with fail
          refine (H2'.out _).mono ?_
          rintro e w2 ⟨rfl,hb2⟩
          go_wp2
          go_ret
          exact ⟨by rw [hr.out];rfl,hb1.trans (hb2.mono hb1.size)⟩
        · rw [h1] at hj
          rw [h2] at hj
          have hr:=Lib.hid (show joinI a b=a from hj)
          have H1':=Lib.hid (fun W=>(show Calls Tryz.prog 138 #[.int .i64 a,.int .i64 b] W (BoolIs false W) from by have h0:=specIsWithin_any a b W;rw [h1] at h0;exact h0))
          have H2':=Lib.hid (fun W=>(show Calls Tryz.prog 138 #[.int .i64 b,.int .i64 a] W (BoolIs true W) from by have h0:=specIsWithin_any b a W;rw [h2] at h0;exact h0))
          clear hj h1 h2
          go_enter Tryz.func183,Tryz.ntmps183
          go_wp2_with fail
          refine (HA'.out _).mono ?_
          rintro e w1 ⟨rfl,rfl⟩
          go_wp2_with fail
          refine (HB'.out _).mono ?_
          rintro e w1 ⟨rfl,rfl⟩
          go_wp2_with fail
          refine (H1'.out _).mono ?_
          rintro e w1 ⟨rfl,hb1⟩
          go_wp2_with fail
          refine (H2'.out _).mono ?_
          rintro e w2 ⟨rfl,hb2⟩
          go_wp2
          go_ret
          exact ⟨by rw [hr.out];rfl,hb1.trans (hb2.mono hb1.size)⟩
      · rw [h1] at hj
        have hr:=Lib.hid (show joinI a b=b from hj)
        have H1':=Lib.hid (fun W=>(show Calls Tryz.prog 138 #[.int .i64 a,.int .i64 b] W (BoolIs true W) from by have h0:=specIsWithin_any a b W;rw [h1] at h0;exact h0))
        clear hj h1
        go_enter Tryz.func183,Tryz.ntmps183
        go_wp2_with fail
        refine (HA'.out _).mono ?_
        rintro e w1 ⟨rfl,rfl⟩
        go_wp2_with fail
        refine (HB'.out _).mono ?_
        rintro e w1 ⟨rfl,rfl⟩
        go_wp2_with fail
        refine (H1'.out _).mono ?_
        rintro e w1 ⟨rfl,hb1⟩
        go_wp2
        go_ret
        exact ⟨by rw [hr.out];rfl,hb1⟩
end
section
open Go.RowKit
end
end Go.Proofs.YtfnblkcmcfofoaaGreatDoor
