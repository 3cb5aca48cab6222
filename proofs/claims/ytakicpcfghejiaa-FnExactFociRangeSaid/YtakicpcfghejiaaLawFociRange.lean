/- FnExactFociRange: for every number the law of FociRange hands back true. No condition. -/
import Derived.Test.YtakicpcfghejiaaRows
import Derived.Test.YtakicpcfghejiaaLaw
import Derived.Test.YtakicpcfghejiaaSpecKind
import Derived.Test.YtakicpcfghejiaaImplKind
namespace Go.Proofs.Ytakicpcfghejiaa.lawFociRange
open Go.ChangeShapes Go.WideShapes Go.ChangeAt Go.RowKit
open Go.ChangeMaps (open_string shut_string)

theorem walk (a0 : Int) (w : World) : Calls Try.prog 4 #[.int .i64 a0] w (TrueBelow w) := by
  have hS := Lib.hid (fun W => (specFoci_any a0 W).mono (R' := fun e w' => e = .returned (.tuple #[.int .i64 (fociLoI a0), .int .i64 (fociHiI a0)]) ∧ Below W.heap.size W w') (by rintro e w' ⟨h, rfl⟩; exact ⟨h, Below.refl _ _⟩))
  have hI := Lib.hid (fun W => implFoci_any a0 W)
  generalize fociLoI a0 = x at *
  generalize fociHiI a0 = y at *
  have hxx : (x != x) = false := by simp
  have hyy : (y != y) = false := by simp
  go_enter Try.func4, Try.ntmps4
  go_wp2_with fail
  refine (hS.out _).mono ?_
  rintro e w1 ⟨rfl, hb1⟩
  go_wp2_with fail
  refine (hI.out _).mono ?_
  rintro e w2 ⟨rfl, hb2⟩
  go_wp2
  go_ret
  exact ⟨rfl, hb1.trans (hb2.mono hb1.size)⟩

theorem own : ownKnob Try.prog.godebug = none := by kernel_rfl
theorem laidOut : laidOutB Try.prog = true := by kernel_rfl

set_option maxRecDepth 100000 in
theorem lifted (os : Os) (started : os.Started) (H : Type) (enc : TypeId × Value → H) :
    ReturnsInHanded {} Try.checked os 4 .any (Rows.fnExactFociRangeSpec.pre6 enc Try.prog Try.f4 Rows.fnExactFociRangeRow.domain false) (Rows.fnExactFociRangeSpec.post enc Try.prog Try.f4 false true false false) := by
  refine law_lifted (C := Try.checked) (bt := 4) own laidOut started (by kernel_rfl) Try.func4 rfl rfl Try.underlying4 (by kernel_rfl) ?_
    (ChangeSpec.witness6 (enc := enc) (C := Try.checked) false ⟨#[], #[.int .i64 0], []⟩ 8 (by kernel_rfl) (by kernel_rfl) (by kernel_rfl) (by kernel_rfl)) ?_
  · intro ds hd
    have : ds.length = 1 := hd
    match ds, this with
    | [d1], _ => rfl
  · intro W base args ds p hval0 hA0 hlt
    have hval : ∀ (j : Nat) t v, Try.f4.params[j]? = some t → args[j]? = some v → Value.okWide Try.prog W .any base t v := hval0
    have hA : DataW.TrodAll enc Try.prog W 0 (fun _ => true) true Try.f4.params.toList args.toList ds p := hA0
    rw [Try.params4] at hA hval
    obtain ⟨v0, d0, rfl, rfl, h0⟩ := trodAll_one hA
    obtain ⟨a0, rfl, rfl, rfl, wa0⟩ := open_int Try.underlying3 (hval 0 3 v0 rfl rfl) h0
    have ba0 := bounds_int wa0
    exact walk a0 W

theorem over : Rows.FnExactFociRangeSaid :=
  OpenClaim.holds_of_wide 4 Try.f4 rfl rfl rfl rfl rfl rfl rfl ⟨rfl, rfl, rfl, rfl, rfl⟩ rfl rfl rfl rfl rfl (by kernel_rfl) Try.func4 (by kernel_rfl)
    (of_decide_eq_true (by kernel_rfl)) (by unfold Func.isWrapper; rw [if_neg (of_decide_eq_false (by kernel_rfl))]; exact ⟨rfl, rfl⟩)
    (fun os started H enc _ => lifted os started H enc)

theorem proved : Rows.FnExactFociRangeSaid := over

end Go.Proofs.Ytakicpcfghejiaa.lawFociRange
