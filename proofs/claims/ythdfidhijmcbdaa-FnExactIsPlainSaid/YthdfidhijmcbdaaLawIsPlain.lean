/- FnExactIsPlain: for every optic the law of IsPlain hands back true, and its argument reads as it did. No condition. -/
import Derived.Test.YthdfidhijmcbdaaRows
import Derived.Test.YthdfidhijmcbdaaLaw
import Derived.Test.YthdfidhijmcbdaaOpenOt
import Derived.Test.YthdfidhijmcbdaaSzOt
import Derived.Test.YthdfidhijmcbdaaOGather
import Derived.Test.YthdfidhijmcbdaaEqOt
import Derived.Test.YthdfidhijmcbdaaSpecOt
import Derived.Test.YthdfidhijmcbdaaSpecHasK
import Derived.Test.YthdfidhijmcbdaaImplHasK
import Derived.Deep.DeepCutAuto
import Derived.Deep.DrawnRows
import Derived.Deep.RegionHeld3
namespace Go.Proofs.Ythdfidhijmcbdaa.lawIsPlain
open Go.ChangeShapes Go.WideShapes Go.ChangeAt Go.RowKit
open Go.ChangeMaps (open_string shut_string)

theorem leftOf_le2 (left : Int) (n : Nat) (h : 0 ≤ left) : leftOf left n ≤ left := by unfold leftOf; split <;> omega

set_option maxHeartbeats 4000000 in
set_option maxRecDepth 100000 in
theorem walk (t : Ot) (va : Value) (w : World) (ha0 : OtAt w w.heap.size va t) :
    Calls Try.prog 4 #[va] w (TrueBelow w) := by
  obtain ⟨A0, a0, rfl, _⟩ := ha0.open
  obtain ⟨hb1, bp1, hz1⟩ := boxes1 w 24 #[.int .i64 t.kind, .string t.name, .int .i64 t.num, .slice A0 t.args.length a0]
  go_enter Try.func4, Try.ntmps4
  go_wp2_with fail
  generalize w.alloc (.cells #[.int .i64 t.kind, .string t.name, .int .i64 t.num, .slice A0 t.args.length a0] 24) = w1 at *
  clear hz1
  have cb1 := hb1
  have sz1 := hb1.size
  have ha1 := ha0.up hb1
  clear ha0
  refine (szOt_any t _ 1048576 w1 ha1 (by omega) (by omega)).mono ?_
  rintro e w2 ⟨rfl, hb2⟩
  have cb2 := cb1.trans (hb2.mono cb1.size)
  have sz2 := hb2.size
  have ha2 := ha1.up hb2
  have bp2 := bp1.below hb2 bp1.lt
  clear ha1 bp1
  by_cases hneg : (1048576 : Int) - szOt t < 0
  · rw [show leftOf 1048576 (szOt t) = -1 from by unfold leftOf; rw [if_pos hneg]]
    go_wp2
    go_ret
    exact ⟨rfl, cb2⟩
  · have hsz : szOt t ≤ 1048576 := by omega
    have hq2 : ¬ leftOf 1048576 (szOt t) < 0 := by unfold leftOf; rw [if_neg hneg]; exact hneg
    have hl2 := leftOf_le2 1048576 (szOt t) (by omega)
    generalize leftOf 1048576 (szOt t) = lf at *
    have HT0 := Lib.hid (fun W (h : OtAt W W.heap.size (.agg #[.int .i64 t.kind, .string t.name, .int .i64 t.num, .slice A0 t.args.length a0]) t) => toOptic_any t _ W h hsz)
    have HE0 := Lib.hid (fun V V' W h h' => eqOptic_any t V V' W h h')
    have HS := Lib.hid (fun V W h => specIsPlain_any t V W h hsz)
    have HI := Lib.hid (fun X W h => implIsPlain_any t X W h hsz)
    generalize plainB t = x at *
    have hxx : (x != x) = false := by simp
    have cp0 : w2.cell? ⟨w.heap.size, 0, none⟩ = some (.int .i64 t.kind) := bp2.cell 0
    have cp1 : w2.cell? ⟨w.heap.size, 1, none⟩ = some (.string t.name) := bp2.cell 1
    have cp2 : w2.cell? ⟨w.heap.size, 2, none⟩ = some (.int .i64 t.num) := bp2.cell 2
    have cp3 : w2.cell? ⟨w.heap.size, 3, none⟩ = some (.slice A0 t.args.length a0) := bp2.cell 3
    go_wp2_with fail
    clear cp0 cp1 cp2 cp3
    refine (HT0.out w2 ha2).mono ?_
    rintro e w3 ⟨u1, rfl, hu3, hb3⟩
    have cb3 := cb2.trans (hb3.mono cb2.size)
    have sz3 := hb3.size
    have ha3 := ha2.up hb3
    have bp3 := bp2.below hb3 bp2.lt
    clear ha2 bp2
    have hU3 := hu3.here
    clear hu3
    go_wp2_with fail
    refine (HS.out u1 w3 hU3).mono ?_
    rintro e w4 ⟨rfl, hb4⟩
    have cb4 := cb3.trans (hb4.mono cb3.size)
    have sz4 := hb4.size
    have ha4 := ha3.up hb4
    have bp4 := bp3.below hb4 bp3.lt
    clear ha3 bp3
    clear hU3
    have cp0 : w4.cell? ⟨w.heap.size, 0, none⟩ = some (.int .i64 t.kind) := bp4.cell 0
    have cp1 : w4.cell? ⟨w.heap.size, 1, none⟩ = some (.string t.name) := bp4.cell 1
    have cp2 : w4.cell? ⟨w.heap.size, 2, none⟩ = some (.int .i64 t.num) := bp4.cell 2
    have cp3 : w4.cell? ⟨w.heap.size, 3, none⟩ = some (.slice A0 t.args.length a0) := bp4.cell 3
    go_wp2_with fail
    clear cp0 cp1 cp2 cp3
    refine (HT0.out w4 ha4).mono ?_
    rintro e w5 ⟨ux, rfl, hx5, hb5⟩
    have cb5 := cb4.trans (hb5.mono cb4.size)
    have sz5 := hb5.size
    have ha5 := ha4.up hb5
    have bp5 := bp4.below hb5 bp4.lt
    clear ha4 bp4
    obtain ⟨A2, a2, rfl, _⟩ := hx5.open
    have hxT5 := hx5.here
    have hxO5 := OwnO.of hx5
    clear hx5
    obtain ⟨hb6, bX6, hz6⟩ := boxes1 w5 29 #[.int .i64 t.kind, .string t.name, .int .i64 t.num, .slice A2 t.args.length a2]
    go_wp2_with fail
    generalize w5.alloc (.cells #[.int .i64 t.kind, .string t.name, .int .i64 t.num, .slice A2 t.args.length a2] 29) = w6 at *
    have zz6 : w5.heap.size < w6.heap.size := by omega
    clear hz6
    have cb6 := cb5.trans (hb6.mono cb5.size)
    have sz6 := hb6.size
    have ha6 := ha5.up hb6
    have bp6 := bp5.below hb6 bp5.lt
    have hxT6 := hxT5.up hb6
    have hxO6 := hxO5.up hb6
    clear ha5 bp5 hxT5 hxO5
    refine (HI.out _ w6 hxO6).mono ?_
    rintro e w7 ⟨rfl, hb7⟩
    have cb7 := cb6.trans (hb7.mono cb6.size)
    have sz7 := hb7.size
    have ha7 := ha6.up hb7
    have bp7 := bp6.below hb7 bp6.lt
    have hxT7 := hxT6.up hb7
    have hxO7 := hxO6.up hb7
    have bX7 := bX6.below hb7 bX6.lt
    clear ha6 bp6 hxT6 hxO6 bX6
    have cX0 : w7.cell? ⟨w5.heap.size, 0, none⟩ = some (.int .i64 t.kind) := bX7.cell 0
    have cX1 : w7.cell? ⟨w5.heap.size, 1, none⟩ = some (.string t.name) := bX7.cell 1
    have cX2 : w7.cell? ⟨w5.heap.size, 2, none⟩ = some (.int .i64 t.num) := bX7.cell 2
    have cX3 : w7.cell? ⟨w5.heap.size, 3, none⟩ = some (.slice A2 t.args.length a2) := bX7.cell 3
    have cp0 : w7.cell? ⟨w.heap.size, 0, none⟩ = some (.int .i64 t.kind) := bp7.cell 0
    have cp1 : w7.cell? ⟨w.heap.size, 1, none⟩ = some (.string t.name) := bp7.cell 1
    have cp2 : w7.cell? ⟨w.heap.size, 2, none⟩ = some (.int .i64 t.num) := bp7.cell 2
    have cp3 : w7.cell? ⟨w.heap.size, 3, none⟩ = some (.slice A0 t.args.length a0) := bp7.cell 3
    have hlX := bX7.lt
    have hlp := bp7.lt
    go_wp2_with fail
    go_region_held3 (fun x => x.cell? ⟨w5.heap.size, 0, none⟩ = some (.int .i64 t.kind) ∧ x.cell? ⟨w5.heap.size, 1, none⟩ = some (.string t.name) ∧ x.cell? ⟨w5.heap.size, 2, none⟩ = some (.int .i64 t.num) ∧ x.cell? ⟨w5.heap.size, 3, none⟩ = some (.slice A2 t.args.length a2) ∧ x.cell? ⟨w.heap.size, 0, none⟩ = some (.int .i64 t.kind) ∧ x.cell? ⟨w.heap.size, 1, none⟩ = some (.string t.name) ∧ x.cell? ⟨w.heap.size, 2, none⟩ = some (.int .i64 t.num) ∧ x.cell? ⟨w.heap.size, 3, none⟩ = some (.slice A0 t.args.length a0) ∧ Below w7.heap.size w7 x) ((first | exact ⟨cX0, cX1, cX2, cX3, cp0, cp1, cp2, cp3, (Below.refl _ _).drew⟩ | exact ⟨r0_0, r0_1, r0_2, r0_3, r0_4, r0_5, r0_6, r0_7, hR0⟩ | exact ⟨r1_0, r1_1, r1_2, r1_3, r1_4, r1_5, r1_6, r1_7, hb8⟩))
      (first | (go_at_call 7; refine (HT0.out _ (ha7.up (Below.refl w7.heap.size w7).drew)).mono ?_; rintro e wR0 ⟨v1, rfl, hv1, hN0⟩; have hR0 := (Below.refl w7.heap.size w7).drew.trans (hN0.mono (Below.refl w7.heap.size w7).drew.size); have r0_0 := (hR0.cell (p := ⟨w5.heap.size, 0, none⟩) hlX).trans cX0; have r0_1 := (hR0.cell (p := ⟨w5.heap.size, 1, none⟩) hlX).trans cX1; have r0_2 := (hR0.cell (p := ⟨w5.heap.size, 2, none⟩) hlX).trans cX2; have r0_3 := (hR0.cell (p := ⟨w5.heap.size, 3, none⟩) hlX).trans cX3; have r0_4 := (hR0.cell (p := ⟨w.heap.size, 0, none⟩) hlp).trans cp0; have r0_5 := (hR0.cell (p := ⟨w.heap.size, 1, none⟩) hlp).trans cp1; have r0_6 := (hR0.cell (p := ⟨w.heap.size, 2, none⟩) hlp).trans cp2; have r0_7 := (hR0.cell (p := ⟨w.heap.size, 3, none⟩) hlp).trans cp3) | (go_at_call 9; refine (HE0.out _ v1 _ (hxT7.up hR0) hv1.here).mono ?_; rintro e w8 ⟨rfl, hN1⟩; have hb8 := hR0.trans (hN1.mono hR0.size); have r1_0 := (hb8.cell (p := ⟨w5.heap.size, 0, none⟩) hlX).trans cX0; have r1_1 := (hb8.cell (p := ⟨w5.heap.size, 1, none⟩) hlX).trans cX1; have r1_2 := (hb8.cell (p := ⟨w5.heap.size, 2, none⟩) hlX).trans cX2; have r1_3 := (hb8.cell (p := ⟨w5.heap.size, 3, none⟩) hlX).trans cX3; have r1_4 := (hb8.cell (p := ⟨w.heap.size, 0, none⟩) hlp).trans cp0; have r1_5 := (hb8.cell (p := ⟨w.heap.size, 1, none⟩) hlp).trans cp1; have r1_6 := (hb8.cell (p := ⟨w.heap.size, 2, none⟩) hlp).trans cp2; have r1_7 := (hb8.cell (p := ⟨w.heap.size, 3, none⟩) hlp).trans cp3))
    clear cX0 cX1 cX2 cX3 cp0 cp1 cp2 cp3
    have cb8 := cb7.trans (hb8.mono cb7.size)
    have sz8 := hb8.size
    have ha8 := ha7.up hb8
    have bp8 := bp7.below hb8 bp7.lt
    have hxT8 := hxT7.up hb8
    have hxO8 := hxO7.up hb8
    have bX8 := bX7.below hb8 bX7.lt
    clear ha7 bp7 hxT7 hxO7 bX7
    clear hv1
    go_wp2
    go_ret
    exact ⟨rfl, cb8⟩

theorem own : ownKnob Try.prog.godebug = none := by kernel_rfl
theorem laidOut : laidOutB Try.prog = true := by kernel_rfl

set_option maxRecDepth 100000 in
theorem lifted (os : Os) (started : os.Started) (H : Type) (enc : TypeId × Value → H) :
    ReturnsInHanded {} Try.checked os 4 .any (Rows.fnExactIsPlainSpec.pre6 enc Try.prog Try.f4 Rows.fnExactIsPlainRow.domain false) (Rows.fnExactIsPlainSpec.post enc Try.prog Try.f4 false true false false) := by
  refine law_lifted (C := Try.checked) (bt := 4) own laidOut started (by kernel_rfl) Try.func4 rfl rfl Try.underlying4 (by kernel_rfl) ?_
    (ChangeSpec.witness6 (enc := enc) (C := Try.checked) false ⟨#[], #[.agg #[.int .i64 0, .string ⟨#[]⟩, .int .i64 0, .slice none 0 0]], []⟩ 8 (by kernel_rfl) (by kernel_rfl) (by kernel_rfl) (by kernel_rfl)) ?_
  · intro ds hd
    have : ds.length = 1 := hd
    match ds, this with
    | [d1], _ => rfl
  · intro W base args ds p hval0 hA0 hlt
    have hval : ∀ (j : Nat) t v, Try.f4.params[j]? = some t → args[j]? = some v → Value.okWide Try.prog W .any base t v := hval0
    have hA : DataW.TrodAll enc Try.prog W 0 (fun _ => true) true Try.f4.params.toList args.toList ds p := hA0
    rw [Try.params4] at hA hval
    obtain ⟨v0, d0, rfl, rfl, h0⟩ := trodAll_one hA
    obtain ⟨a0, ra0⟩ := open_optic_arg (hval 0 24 v0 rfl rfl) h0 (fun x hx => hlt x (by simp [hx]))
    exact walk a0 v0 W ra0

theorem over : Rows.FnExactIsPlainSaid :=
  OpenClaim.holds_of_wide 4 Try.f4 rfl rfl rfl rfl rfl rfl rfl ⟨rfl, rfl, rfl, rfl, rfl⟩ rfl rfl rfl rfl rfl (by kernel_rfl) Try.func4 (by kernel_rfl)
    (of_decide_eq_true (by kernel_rfl)) (by unfold Func.isWrapper; rw [if_neg (of_decide_eq_false (by kernel_rfl))]; exact ⟨rfl, rfl⟩)
    (fun os started H enc _ => lifted os started H enc)

theorem proved : Rows.FnExactIsPlainSaid := over

end Go.Proofs.Ythdfidhijmcbdaa.lawIsPlain
