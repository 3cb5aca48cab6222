/- FnExactIsKind: for every number the law of IsKind hands back true. No condition. -/
import Derived.Test.YtakicpcfghejiaaDoorRows
import Derived.Test.YtakicpcfghejiaaDoorLaw
import Derived.Test.YtakicpcfghejiaaDoorCards
import Derived.Test.YtakicpcfghejiaaDoorTie
import Derived.Test.YtakicpcfghejiaaDoorLawLaid
import Derived.Test.YtakicpcfghejiaaDoorSpecKind
import Derived.Test.YtakicpcfghejiaaDoorImplKind
import Derived.Test.YtakicpcfghejiaaDoorJoinsLaid
import Derived.SevenTiedAt
namespace Go.Proofs.YtakicpcfghejiaaDoor.lawIsKind
open Go.ChangeShapes Go.WideShapes Go.ChangeAt Go.RowKit
open Go.ChangeMaps (open_string shut_string)

theorem walk (a0 : Int) (w : World) (hJ0 : JoinsAt w) : Calls Tryd.prog 4 #[.int .i64 a0] w (TrueBelow w) := by
  have HF := Lib.hid hJ0
  clear hJ0
  have hS := Lib.hid (fun W => (specIsKind_any a0 W).mono (R' := fun e w' => e = .returned (.bool (isKindB a0)) ∧ Below W.heap.size W w') (by rintro e w' ⟨h, rfl⟩; exact ⟨h, Below.refl _ _⟩))
  have hI := Lib.hid (fun W hJ => implIsKind_any a0 W hJ)
  generalize isKindB a0 = x at *
  have hxx : (x != x) = false := by simp
  go_enter Tryd.func4, Tryd.ntmps4
  go_wp2_with fail
  refine (hS.out _).mono ?_
  rintro e w1 ⟨rfl, hb1⟩
  go_wp2_with fail
  refine (hI.out _ (HF.out.below hb1)).mono ?_
  rintro e w2 ⟨rfl, hb2⟩
  go_wp2
  go_ret
  exact ⟨rfl, hb1.trans (hb2.mono hb1.size)⟩

theorem own : ownKnob Tryd.prog.godebug = none := by kernel_rfl
theorem laidOut : laidOutB Tryd.prog = true := by kernel_rfl

/-- What the row lists. -/
def laid : List (String × DataW Unit) := Rows.fnExactIsKindRow.laid

set_option maxRecDepth 100000 in
theorem lifted (os : Os) (started : os.Started) (H : Type) (enc : TypeId × Value → H) :
    ReturnsInHanded {} Tryd.checked os 4 .any (fun w args => (Rows.fnExactIsKindSpec.pre enc Tryd.prog Tryd.f4 [] false w args ∧ laidMetH Tryd.prog laid w) ∧ sizedMet enc Tryd.prog Tryd.f4 (OpenSpec.ofChange Rows.fnExactIsKindSpec) false w args)
      (Rows.fnExactIsKindSpec.post enc Tryd.prog Tryd.f4 false true false false) := by
  refine law_lifted_vars (C := Tryd.checked) (bt := 4) own laidOut started (by kernel_rfl) Tryd.func4 (by kernel_rfl) rfl Tryd.underlying4 (by kernel_rfl) ?_
    (ChangeSpec.witness_shaped (enc := enc) (C := Tryd.checked) (os := os) (X := fun w _ => laidMetH Tryd.prog laid w) false (World.laidAll Tryd.prog os laid) #[.int .i64 0] 8 (World.laidAll_os _ _ _) (World.shaped_of_ZipB (by kernel_rfl) (by kernel_rfl)) (by kernel_rfl) (by kernel_rfl) (by kernel_rfl)
      (by rw [MakeChecks.laidMetH_plain _ _ _ (by kernel_rfl)]; exact laidMet_laidAll _ (by kernel_rfl) (by kernel_rfl))) ?_
  · intro ds gs hd hg
    have h1 : ds.length = 1 := hd
    have h2 : gs.length = 1 := hg
    match ds, gs, h1, h2 with
    | [d1], [g1], _, _ => rfl
  · intro W base args ds p hval0 hA0 hlt hL hsh
    have hval : ∀ (j : Nat) t v, Tryd.f4.params[j]? = some t → args[j]? = some v → Value.okWide Tryd.prog W .any base t v := hval0
    have hA : DataW.TrodAll enc Tryd.prog W 0 (fun _ => true) true Tryd.f4.params.toList args.toList ds p := hA0
    rw [Tryd.params4] at hA hval
    obtain ⟨v0, d0, rfl, rfl, h0⟩ := trodAll_one hA
    obtain ⟨a0, rfl, rfl, rfl, wa0⟩ := open_int Tryd.underlying3 (hval 0 3 v0 rfl rfl) h0
    have ba0 := bounds_int wa0
    rw [MakeChecks.laidMetH_plain _ _ _ (by kernel_rfl)] at hL
    exact walk a0 W (joinsAt_of (L := laid) (by unfold laid; exact List.mem_cons_self) hL)

theorem over : Rows.FnExactIsKindSaid :=
  OpenClaim.holds_of_wide 4 Tryd.f4 rfl rfl rfl rfl rfl rfl rfl ⟨rfl, rfl, rfl, rfl, rfl⟩ rfl rfl rfl rfl rfl (by kernel_rfl) Tryd.func4 (by kernel_rfl)
    (of_decide_eq_true (by kernel_rfl)) (by unfold Func.isWrapper; rw [if_neg (of_decide_eq_false (by kernel_rfl))]; exact ⟨rfl, rfl⟩)
    (fun os started H enc _ => lifted os started H enc)

theorem proved : Rows.FnExactIsKindCardSaid :=
  Claim7.holds_tied_plain_at .later [] Rows.fnExactIsKindCard.laidKinds true Rows.fnExactIsKindCard.stood.harness Rows.fnExactIsKindCard.stood.looks
    over (fun _ h => by cases h) (by kernel_rfl) (fun _ h => by cases h) fnExactIsKind_row_tie rfl ⟨rfl, rfl⟩ (by kernel_rfl) rfl
    (fun f fn hf hfn => by
      obtain rfl : f = 4 := Option.some.inj ((show Tryd.prog.funcNamed "loop.example/g00592/laws.FnExactIsKind" = some 4 by kernel_rfl).symm.trans hf) |>.symm
      obtain rfl : fn = Tryd.f4 := (Option.some.inj (Tryd.func4.symm.trans hfn)).symm
      exact ⟨by kernel_rfl, fun j t ht => by
        rw [Tryd.params4] at ht
        have hm := Array.mem_of_getElem? ht
        have hall : (#[3].toList.all fun u => !Tryd.prog.wantsStandIn u) = true := by kernel_rfl
        exact (show Tryd.prog.wantsStandIn t = false by simpa using List.all_eq_true.1 hall t (by simpa using hm))⟩)
    (by kernel_rfl)

end Go.Proofs.YtakicpcfghejiaaDoor.lawIsKind
