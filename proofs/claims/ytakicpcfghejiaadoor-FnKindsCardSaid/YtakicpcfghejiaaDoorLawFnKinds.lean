/- FnKinds: for every code the law of kinds hands back true. No condition. -/
import Derived.Test.YtakicpcfghejiaaDoorRows
import Derived.Test.YtakicpcfghejiaaDoorLaw
import Derived.Test.YtakicpcfghejiaaDoorCards
import Derived.Test.YtakicpcfghejiaaDoorTie
import Derived.Test.YtakicpcfghejiaaDoorLawLaid
import Derived.Test.YtakicpcfghejiaaDoorOpenBytes
import Derived.Test.YtakicpcfghejiaaDoorSpecKind
import Derived.Test.YtakicpcfghejiaaDoorImplKind
import Derived.Test.YtakicpcfghejiaaDoorKDraw
import Derived.Test.YtakicpcfghejiaaDoorJoinsLaid
import Derived.SevenTiedAt
namespace Go.Proofs.YtakicpcfghejiaaDoor.lawFnKinds
open Go.ChangeShapes Go.WideShapes Go.ChangeAt Go.RowKit
open Go.ChangeMaps (open_string shut_string)

set_option maxHeartbeats 8000000 in
set_option maxRecDepth 100000 in
theorem walk (A : Option Addr) (n cap : Nat) (w : World) (hd : BytesAt w w.heap.size A n) (hn : n ≤ maxLen) (hJ0 : JoinsAt w) :
    Calls Tryd.prog 3 #[.slice A n cap] w (TrueBelow w) := by
  unfold maxLen at hn
  by_cases h1 : (1048576 : Int) < n
  · clear hd
    go_enter Tryd.func3, Tryd.ntmps3
    go_wp2
    go_ret
    exact ⟨rfl, Below.refl _ _⟩
  · skip
    have HD := Lib.hid hd
    have HF := Lib.hid hJ0
    clear hd hJ0
    go_enter Tryd.func3, Tryd.ntmps3
    go_wp2_with (first | (go_at_call 7; go_in) | fail)
    refine (kDrawJoinKinds_any A n cap w HD.out (by omega)).mono ?_
    rintro e w1 ⟨⟨a, b, rfl, ha0, ha1, hb0, hb1'⟩, cb1⟩
    clear ha0 ha1 hb0 hb1'
    go_wp2_with fail
    refine (kDrawKindText_any A n cap w1 ((BytesAt.below HD.out cb1).keepMore cb1.size) (by omega)).mono ?_
    rintro e w2 ⟨⟨c, rfl, hc0, hc1⟩, hb2⟩
    have cb2 := cb1.trans (hb2.mono cb1.size)
    clear hb2 hc0 hc1
    have LJ := Lib.hid (fun W hJ => implJoin_any a b W hJ)
    have SJ := Lib.hid (fun W => specJoin_any a b W)
    have LR := Lib.hid (fun W (hJ : JoinsAt W) => (show Calls Tryd.prog 10 #[.int .i64 b, .int .i64 a] W (fun e w' => e = .returned (.int .i64 (joinI a b)) ∧ Below W.heap.size W w') from by have h0 := implJoin_any b a W hJ; rw [joinI_comm b a] at h0; exact h0))
    have LF := Lib.hid (fun W => implFoci_any c W)
    have SF := Lib.hid (fun W => (specFoci_any c W).mono (R' := fun e w' => e = .returned (.tuple #[.int .i64 (fociLoI c), .int .i64 (fociHiI c)]) ∧ Below W.heap.size W w') (by rintro e w' ⟨h, rfl⟩; exact ⟨h, Below.refl _ _⟩))
    have LT := Lib.hid (fun W => implKindText_any c W)
    have ST := Lib.hid (fun W => specKindText_any c W)
    have SKc := Lib.hid (fun W => (specIsKind_any c W).mono (R' := fun e w' => e = .returned (.bool (isKindB c)) ∧ Below W.heap.size W w') (by rintro e w' ⟨h, rfl⟩; exact ⟨h, Below.refl _ _⟩))
    have LKa := Lib.hid (fun W hJ => implIsKind_any a W hJ)
    have LKb := Lib.hid (fun W hJ => implIsKind_any b W hJ)
    have LKc := Lib.hid (fun W hJ => implIsKind_any c W hJ)
    have LWab := Lib.hid (fun W hJ => implIsWithin_any a b W hJ)
    have SWab := Lib.hid (fun W => specIsWithin_any a b W)
    have LWba := Lib.hid (fun W hJ => implIsWithin_any b a W hJ)
    have LWaj := Lib.hid (fun W hJ => implIsWithin_any a (joinI a b) W hJ)
    have LWbj := Lib.hid (fun W hJ => implIsWithin_any b (joinI a b) W hJ)
    have LWac := Lib.hid (fun W hJ => implIsWithin_any a c W hJ)
    have LWbc := Lib.hid (fun W hJ => implIsWithin_any b c W hJ)
    have LWjc := Lib.hid (fun W hJ => implIsWithin_any (joinI a b) c W hJ)
    have F0 := Lib.hid (fun (h : (isKindB a && isKindB b) = false) => joinI_none h)
    have F1 := Lib.hid (fun (h : isKindB a = true) (h' : isKindB b = true) => joinI_above h h')
    have F2 := Lib.hid (fun (h : withinB a b = true) (h' : withinB b a = true) => withinB_both h h')
    have F3 := Lib.hid (fun (h : withinB a c = true) (h' : withinB b c = true) => joinI_least h h')
    generalize joinI a b = j at *
    generalize withinB a j = waj at *
    generalize withinB b j = wbj at *
    generalize withinB j c = wjc at *
    generalize withinB a c = wac at *
    generalize withinB b c = wbc at *
    generalize withinB a b = wab at *
    generalize withinB b a = wba at *
    generalize isKindB a = ka at *
    generalize isKindB b = kb at *
    generalize isKindB c = kc at *
    generalize kindTextB c = tx at *
    generalize fociLoI c = x at *
    generalize fociHiI c = y at *
    have hjj : (j != j) = false := by simp
    have hxx : (x != x) = false := by simp
    have hyy : (y != y) = false := by simp
    have hww : (wab != wab) = false := by simp
    have hkk : (kc != kc) = false := by simp
    go_wp2_with fail
    refine (LJ.out w2 (HF.out.below cb2)).mono ?_
    rintro e w3 ⟨rfl, hb3⟩
    have cb3 := cb2.trans (hb3.mono cb2.size)
    clear hb3
    go_wp2_with fail
    refine (LF.out w3).mono ?_
    rintro e w4 ⟨rfl, hb4⟩
    have cb4 := cb3.trans (hb4.mono cb3.size)
    clear hb4
    go_wp2_with fail
    refine (SF.out w4).mono ?_
    rintro e w5 ⟨rfl, hb5⟩
    have cb5 := cb4.trans (hb5.mono cb4.size)
    clear hb5
    go_wp2_with fail
    refine (SJ.out w5).mono ?_
    rintro e w6 ⟨rfl, hb6⟩
    have cb6 := cb5.trans (hb6.mono cb5.size)
    clear hb6
    go_wp2_with fail
    refine (LWab.out w6 (HF.out.below cb6)).mono ?_
    rintro e w7 ⟨rfl, hb7⟩
    have cb7 := cb6.trans (hb7.mono cb6.size)
    clear hb7
    go_wp2_with fail
    refine (SWab.out w7).mono ?_
    rintro e w8 ⟨rfl, hb8⟩
    have cb8 := cb7.trans (hb8.mono cb7.size)
    clear hb8
    go_wp2_with fail
    refine (LT.out w8).mono ?_
    rintro e w9 ⟨rfl, hb9⟩
    have cb9 := cb8.trans (hb9.mono cb8.size)
    clear hb9
    go_wp2_with fail
    refine (ST.out w9).mono ?_
    rintro e w10 ⟨rfl, hb10⟩
    have cb10 := cb9.trans (hb10.mono cb9.size)
    clear hb10
    go_wp2_with fail
    refine (LKc.out w10 (HF.out.below cb10)).mono ?_
    rintro e w11 ⟨rfl, hb11⟩
    have cb11 := cb10.trans (hb11.mono cb10.size)
    clear hb11
    go_wp2_with fail
    refine (SKc.out w11).mono ?_
    rintro e w12 ⟨rfl, hb12⟩
    have cb12 := cb11.trans (hb12.mono cb11.size)
    clear hb12
    go_wp2_with fail
    refine (LR.out w12 (HF.out.below cb12)).mono ?_
    rintro e w13 ⟨rfl, hb13⟩
    have cb13 := cb12.trans (hb13.mono cb12.size)
    clear hb13
    go_wp2_with fail
    refine (LKa.out w13 (HF.out.below cb13)).mono ?_
    rintro e w14 ⟨rfl, hb14⟩
    have cb14 := cb13.trans (hb14.mono cb13.size)
    clear hb14
    cases ka
    · skip
      obtain rfl : j = 0 := F0.out (by simp)
      have h00 : ((0 : Int) == 0) = true := rfl
      go_wp2
      go_ret
      exact ⟨rfl, cb14⟩
    · skip
      go_wp2_with fail
      refine (LKb.out w14 (HF.out.below cb14)).mono ?_
      rintro e w15 ⟨rfl, hb15⟩
      have cb15 := cb14.trans (hb15.mono cb14.size)
      clear hb15
      cases kb
      · skip
        obtain rfl : j = 0 := F0.out (by simp)
        have h00 : ((0 : Int) == 0) = true := rfl
        go_wp2
        go_ret
        exact ⟨rfl, cb15⟩
      · skip
        have hq : waj = true ∧ wbj = true := F1.out (by simp) (by simp)
        obtain ⟨hq1, hq2⟩ := hq
        subst hq1
        subst hq2
        go_wp2_with fail
        refine (LWaj.out w15 (HF.out.below cb15)).mono ?_
        rintro e w16 ⟨rfl, hb16⟩
        have cb16 := cb15.trans (hb16.mono cb15.size)
        clear hb16
        go_wp2_with fail
        refine (LWbj.out w16 (HF.out.below cb16)).mono ?_
        rintro e w17 ⟨rfl, hb17⟩
        have cb17 := cb16.trans (hb17.mono cb16.size)
        clear hb17
        go_wp2_with fail
        refine (LWab.out w17 (HF.out.below cb17)).mono ?_
        rintro e w18 ⟨rfl, hb18⟩
        have cb18 := cb17.trans (hb18.mono cb17.size)
        clear hb18
        cases wab
        · skip
          go_wp2_with fail
          refine (LKc.out w18 (HF.out.below cb18)).mono ?_
          rintro e w19 ⟨rfl, hb19⟩
          have cb19 := cb18.trans (hb19.mono cb18.size)
          clear hb19
          cases kc
          · skip
            go_wp2
            go_ret
            exact ⟨rfl, cb19⟩
          · skip
            go_wp2_with fail
            refine (LWac.out w19 (HF.out.below cb19)).mono ?_
            rintro e w20 ⟨rfl, hb20⟩
            have cb20 := cb19.trans (hb20.mono cb19.size)
            clear hb20
            cases wac
            · skip
              go_wp2
              go_ret
              exact ⟨rfl, cb20⟩
            · skip
              go_wp2_with fail
              refine (LWbc.out w20 (HF.out.below cb20)).mono ?_
              rintro e w21 ⟨rfl, hb21⟩
              have cb21 := cb20.trans (hb21.mono cb20.size)
              clear hb21
              cases wbc
              · skip
                go_wp2
                go_ret
                exact ⟨rfl, cb21⟩
              · skip
                obtain rfl : wjc = true := F3.out (by simp) (by simp)
                go_wp2_with fail
                refine (LWjc.out w21 (HF.out.below cb21)).mono ?_
                rintro e w22 ⟨rfl, hb22⟩
                have cb22 := cb21.trans (hb22.mono cb21.size)
                clear hb22
                go_wp2
                go_ret
                exact ⟨rfl, cb22⟩
        · skip
          go_wp2_with fail
          refine (LWba.out w18 (HF.out.below cb18)).mono ?_
          rintro e w19 ⟨rfl, hb19⟩
          have cb19 := cb18.trans (hb19.mono cb18.size)
          clear hb19
          cases wba
          · skip
            go_wp2_with fail
            refine (LKc.out w19 (HF.out.below cb19)).mono ?_
            rintro e w20 ⟨rfl, hb20⟩
            have cb20 := cb19.trans (hb20.mono cb19.size)
            clear hb20
            cases kc
            · skip
              go_wp2
              go_ret
              exact ⟨rfl, cb20⟩
            · skip
              go_wp2_with fail
              refine (LWac.out w20 (HF.out.below cb20)).mono ?_
              rintro e w21 ⟨rfl, hb21⟩
              have cb21 := cb20.trans (hb21.mono cb20.size)
              clear hb21
              cases wac
              · skip
                go_wp2
                go_ret
                exact ⟨rfl, cb21⟩
              · skip
                go_wp2_with fail
                refine (LWbc.out w21 (HF.out.below cb21)).mono ?_
                rintro e w22 ⟨rfl, hb22⟩
                have cb22 := cb21.trans (hb22.mono cb21.size)
                clear hb22
                cases wbc
                · skip
                  go_wp2
                  go_ret
                  exact ⟨rfl, cb22⟩
                · skip
                  obtain rfl : wjc = true := F3.out (by simp) (by simp)
                  go_wp2_with fail
                  refine (LWjc.out w22 (HF.out.below cb22)).mono ?_
                  rintro e w23 ⟨rfl, hb23⟩
                  have cb23 := cb22.trans (hb23.mono cb22.size)
                  clear hb23
                  go_wp2
                  go_ret
                  exact ⟨rfl, cb23⟩
          · skip
            obtain rfl : a = b := F2.out (by simp) (by simp)
            have haa : (a != a) = false := by simp
            go_wp2_with fail
            refine (LKc.out w19 (HF.out.below cb19)).mono ?_
            rintro e w20 ⟨rfl, hb20⟩
            have cb20 := cb19.trans (hb20.mono cb19.size)
            clear hb20
            cases kc
            · skip
              go_wp2
              go_ret
              exact ⟨rfl, cb20⟩
            · skip
              go_wp2_with fail
              refine (LWac.out w20 (HF.out.below cb20)).mono ?_
              rintro e w21 ⟨rfl, hb21⟩
              have cb21 := cb20.trans (hb21.mono cb20.size)
              clear hb21
              cases wac
              · skip
                go_wp2
                go_ret
                exact ⟨rfl, cb21⟩
              · skip
                go_wp2_with fail
                refine (LWbc.out w21 (HF.out.below cb21)).mono ?_
                rintro e w22 ⟨rfl, hb22⟩
                have cb22 := cb21.trans (hb22.mono cb21.size)
                clear hb22
                cases wbc
                · skip
                  go_wp2
                  go_ret
                  exact ⟨rfl, cb22⟩
                · skip
                  obtain rfl : wjc = true := F3.out (by simp) (by simp)
                  go_wp2_with fail
                  refine (LWjc.out w22 (HF.out.below cb22)).mono ?_
                  rintro e w23 ⟨rfl, hb23⟩
                  have cb23 := cb22.trans (hb23.mono cb22.size)
                  clear hb23
                  go_wp2
                  go_ret
                  exact ⟨rfl, cb23⟩

theorem own : ownKnob Tryd.prog.godebug = none := by kernel_rfl
theorem laidOut : laidOutB Tryd.prog = true := by kernel_rfl

/-- What the row lists. -/
def laid : List (String × DataW Unit) := Rows.fnKindsRow.laid

set_option maxRecDepth 100000 in
theorem lifted (os : Os) (started : os.Started) (H : Type) (enc : TypeId × Value → H) :
    ReturnsInHanded {} Tryd.checked os 3 .any (fun w args => (Rows.fnKindsSpec.pre enc Tryd.prog Tryd.f3 [] false w args ∧ laidMetH Tryd.prog laid w) ∧ sizedMet enc Tryd.prog Tryd.f3 (OpenSpec.ofChange Rows.fnKindsSpec) false w args)
      (Rows.fnKindsSpec.post enc Tryd.prog Tryd.f3 false true false false) := by
  refine law_lifted_vars (C := Tryd.checked) (bt := 4) own laidOut started (by kernel_rfl) Tryd.func3 (by kernel_rfl) rfl Tryd.underlying4 (by kernel_rfl) ?_
    (ChangeSpec.witness_shaped (enc := enc) (C := Tryd.checked) (os := os) (X := fun w _ => laidMetH Tryd.prog laid w) false (World.laidAll Tryd.prog os laid) #[.slice none 0 0] 8 (World.laidAll_os _ _ _) (World.shaped_of_ZipB (by kernel_rfl) (by kernel_rfl)) (by kernel_rfl) (by kernel_rfl) (by kernel_rfl)
      (by rw [MakeChecks.laidMetH_plain _ _ _ (by kernel_rfl)]; exact laidMet_laidAll _ (by kernel_rfl) (by kernel_rfl))) ?_
  · intro ds gs hd hg
    have h1 : ds.length = 1 := hd
    have h2 : gs.length = 1 := hg
    match ds, gs, h1, h2 with
    | [d1], [g1], _, _ => rfl
  · intro W base args ds p hval0 hA0 hlt hL hsh
    have hval : ∀ (j : Nat) t v, Tryd.f3.params[j]? = some t → args[j]? = some v → Value.okWide Tryd.prog W .any base t v := hval0
    have hA : DataW.TrodAll enc Tryd.prog W 0 (fun _ => true) true Tryd.f3.params.toList args.toList ds p := hA0
    rw [Tryd.params3] at hA hval
    obtain ⟨v0, d0, rfl, rfl, h0⟩ := trodAll_one hA
    obtain ⟨A0, a0, c0, rfl, ra0, la0⟩ := open_bytes_arg Tryd.underlying22 Tryd.underlying5 (by kernel_rfl) (hval 0 22 v0 rfl rfl) h0 (fun x hx => hlt x (by simp [hx]))
    rw [MakeChecks.laidMetH_plain _ _ _ (by kernel_rfl)] at hL
    exact walk A0 a0 c0 W ra0 la0 (joinsAt_of (L := laid) (by unfold laid; exact List.mem_cons_self) hL)

theorem over : Rows.FnKindsSaid :=
  OpenClaim.holds_of_wide 3 Tryd.f3 rfl rfl rfl rfl rfl rfl rfl ⟨rfl, rfl, rfl, rfl, rfl⟩ rfl rfl rfl rfl rfl (by kernel_rfl) Tryd.func3 (by kernel_rfl)
    (of_decide_eq_true (by kernel_rfl)) (by unfold Func.isWrapper; rw [if_neg (of_decide_eq_false (by kernel_rfl))]; exact ⟨rfl, rfl⟩)
    (fun os started H enc _ => lifted os started H enc)

theorem proved : Rows.FnKindsCardSaid :=
  Claim7.holds_tied_plain_at .later [] Rows.fnKindsCard.laidKinds true Rows.fnKindsCard.stood.harness Rows.fnKindsCard.stood.looks
    over (fun _ h => by cases h) (by kernel_rfl) (fun _ h => by cases h) fnKinds_row_tie rfl ⟨rfl, rfl⟩ (by kernel_rfl) rfl
    (fun f fn hf hfn => by
      obtain rfl : f = 3 := Option.some.inj ((show Tryd.prog.funcNamed "loop.example/g00592/laws.FnKinds" = some 3 by kernel_rfl).symm.trans hf) |>.symm
      obtain rfl : fn = Tryd.f3 := (Option.some.inj (Tryd.func3.symm.trans hfn)).symm
      exact ⟨by kernel_rfl, fun j t ht => by
        rw [Tryd.params3] at ht
        have hm := Array.mem_of_getElem? ht
        have hall : (#[22].toList.all fun u => !Tryd.prog.wantsStandIn u) = true := by kernel_rfl
        exact (show Tryd.prog.wantsStandIn t = false by simpa using List.all_eq_true.1 hall t (by simpa using hm))⟩)
    (by kernel_rfl)

end Go.Proofs.YtakicpcfghejiaaDoor.lawFnKinds
