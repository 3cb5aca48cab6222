/- FnExactIsTyped: for every type and every optic the law of IsTyped hands back true, and its arguments read as they did. No condition. -/
import Derived.Test.YthdfidhijmcbdaaGreatDoorRows
import Derived.Test.YthdfidhijmcbdaaGreatDoorLaw
import Derived.Test.YthdfidhijmcbdaaGreatDoorCards
import Derived.Test.YthdfidhijmcbdaaGreatDoorTie
import Derived.Test.YthdfidhijmcbdaaGreatDoorLawLaid
import Derived.Test.YthdfidhijmcbdaaGreatDoorOpenTy
import Derived.Test.YthdfidhijmcbdaaGreatDoorOpenOt
import Derived.Test.YthdfidhijmcbdaaGreatDoorSzTy
import Derived.Test.YthdfidhijmcbdaaGreatDoorSzOt
import Derived.Test.YthdfidhijmcbdaaGreatDoorGather
import Derived.Test.YthdfidhijmcbdaaGreatDoorOGather
import Derived.Test.YthdfidhijmcbdaaGreatDoorEqTy
import Derived.Test.YthdfidhijmcbdaaGreatDoorEqOt
import Derived.Test.YthdfidhijmcbdaaGreatDoorSpecOType
import Derived.Test.YthdfidhijmcbdaaGreatDoorLawIsTyped_2
import Derived.SevenTiedAt
import Derived.Deep.DeepCutAuto
import Derived.Deep.DrawnRows
import Derived.Deep.RegionHeld3

namespace Go.Proofs.YthdfidhijmcbdaaGreatDoor.lawIsTyped
open Go.ChangeShapes Go.WideShapes Go.ChangeAt Go.RowKit
open Go.ChangeMaps (open_string shut_string)

theorem leftOf_le2 (left : Int) (n : Nat) (h : 0 ≤ left) : leftOf left n ≤ left := by unfold leftOf; split <;> omega

set_option maxHeartbeats 4000000 in
set_option maxRecDepth 100000 in
theorem walk (t : Ty) (t' : Ot) (va vb : Value) (w : World) (ha0 : TyAt w w.heap.size va t) (hd0 : OtAt w w.heap.size vb t') {u : Value} (hU0 : UnfitAt w u) (hJ0 : JoinsAt w) :
    Calls Tryz.prog 5 #[va, vb] w (TrueBelow w) := by
  obtain ⟨L0, l0, A0, a0, rfl, _⟩ := ha0.open
  obtain ⟨A1, a1, rfl, _⟩ := hd0.open
  obtain ⟨hb1, bp1, bq1, hz1⟩ := boxes2 w 41 44 #[.int .i64 t.kind, .slice L0 t.labels.length l0, .slice A0 t.args.length a0] #[.int .i64 t'.kind, .string t'.name, .int .i64 t'.num, .slice A1 t'.args.length a1]
  go_enter Tryz.func5, Tryz.ntmps5
  go_wp2_with fail
  generalize (w.alloc (.cells #[.int .i64 t.kind, .slice L0 t.labels.length l0, .slice A0 t.args.length a0] 41)).alloc (.cells #[.int .i64 t'.kind, .string t'.name, .int .i64 t'.num, .slice A1 t'.args.length a1] 44) = w1 at *
  clear hz1
  have cb1 := hb1
  have sz1 := hb1.size
  have ha1 := ha0.up hb1
  have hd1 := hd0.up hb1
  have hU1 := hU0.below hb1
  have hJ1 := hJ0.below hb1
  clear ha0 hd0 hU0 hJ0
  refine (szTy_any t _ 1048576 w1 ha1 (by omega) (by omega)).mono ?_
  rintro e w2 ⟨rfl, hb2⟩
  have cb2 := cb1.trans (hb2.mono cb1.size)
  have sz2 := hb2.size
  have ha2 := ha1.up hb2
  have hd2 := hd1.up hb2
  have hU2 := hU1.below hb2
  have hJ2 := hJ1.below hb2
  have bp2 := bp1.below hb2 bp1.lt
  have bq2 := bq1.below hb2 bq1.lt
  clear ha1 hd1 hU1 hJ1 bp1 bq1
  by_cases hneg : (1048576 : Int) - szTy t < 0
  · rw [show leftOf 1048576 (szTy t) = -1 from by unfold leftOf; rw [if_pos hneg]]
    go_wp2
    go_ret
    exact ⟨rfl, cb2⟩
  · have hsz : szTy t ≤ 1048576 := by omega
    have hq2 : ¬ leftOf 1048576 (szTy t) < 0 := by unfold leftOf; rw [if_neg hneg]; exact hneg
    have hl2 := leftOf_le2 1048576 (szTy t) (by omega)
    generalize leftOf 1048576 (szTy t) = lf at *
    have cq0 : w2.cell? ⟨w.heap.size + 1, 0, none⟩ = some (.int .i64 t'.kind) := bq2.cell 0
    have cq1 : w2.cell? ⟨w.heap.size + 1, 1, none⟩ = some (.string t'.name) := bq2.cell 1
    have cq2 : w2.cell? ⟨w.heap.size + 1, 2, none⟩ = some (.int .i64 t'.num) := bq2.cell 2
    have cq3 : w2.cell? ⟨w.heap.size + 1, 3, none⟩ = some (.slice A1 t'.args.length a1) := bq2.cell 3
    go_wp2_with fail
    clear cq0 cq1 cq2 cq3
    refine (szOt_any t' _ lf w2 hd2 (by omega) (by omega)).mono ?_
    rintro e w3 ⟨rfl, hb3⟩
    have cb3 := cb2.trans (hb3.mono cb2.size)
    have sz3 := hb3.size
    have ha3 := ha2.up hb3
    have hd3 := hd2.up hb3
    have hU3 := hU2.below hb3
    have hJ3 := hJ2.below hb3
    have bp3 := bp2.below hb3 bp2.lt
    have bq3 := bq2.below hb3 bq2.lt
    clear ha2 hd2 hU2 hJ2 bp2 bq2
    by_cases hneg' : (lf : Int) - szOt t' < 0
    · rw [show leftOf lf (szOt t') = -1 from by unfold leftOf; rw [if_pos hneg']]
      go_wp2
      go_ret
      exact ⟨rfl, cb3⟩
    · have hsz' : szOt t' ≤ 1048576 := by omega
      have hq3 : ¬ leftOf lf (szOt t') < 0 := by unfold leftOf; rw [if_neg hneg']; exact hneg'
      have hl3 := leftOf_le2 lf (szOt t') (by omega)
      generalize leftOf lf (szOt t') = lf2 at *
      have HT0 := Lib.hid (fun W (h : TyAt W W.heap.size (.agg #[.int .i64 t.kind, .slice L0 t.labels.length l0, .slice A0 t.args.length a0]) t) => toType_any t _ W h hsz)
      have HE0 := Lib.hid (fun V V' W h h' => eqType_any t V V' W h h')
      have HT1 := Lib.hid (fun W (h : OtAt W W.heap.size (.agg #[.int .i64 t'.kind, .string t'.name, .int .i64 t'.num, .slice A1 t'.args.length a1]) t') => toOptic_any t' _ W h hsz')
      have HE1 := Lib.hid (fun V V' W h h' => eqOptic_any t' V V' W h h')
      have HS := Lib.hid (fun V V' W h h' => specIsTyped_any t t' V V' W h h' hsz hsz')
      have HI := Lib.hid (fun X X' W h h' hU hJ => implIsTyped_any (u := u) t t' X X' W hU hJ h h' hsz hsz')
      generalize (opticTypeB t t').isSome = x at *
      have hxx : (x != x) = false := by simp
      have cp0 : w3.cell? ⟨w.heap.size, 0, none⟩ = some (.int .i64 t.kind) := bp3.cell 0
      have cp1 : w3.cell? ⟨w.heap.size, 1, none⟩ = some (.slice L0 t.labels.length l0) := bp3.cell 1
      have cp2 : w3.cell? ⟨w.heap.size, 2, none⟩ = some (.slice A0 t.args.length a0) := bp3.cell 2
      have cq0 : w3.cell? ⟨w.heap.size + 1, 0, none⟩ = some (.int .i64 t'.kind) := bq3.cell 0
      have cq1 : w3.cell? ⟨w.heap.size + 1, 1, none⟩ = some (.string t'.name) := bq3.cell 1
      have cq2 : w3.cell? ⟨w.heap.size + 1, 2, none⟩ = some (.int .i64 t'.num) := bq3.cell 2
      have cq3 : w3.cell? ⟨w.heap.size + 1, 3, none⟩ = some (.slice A1 t'.args.length a1) := bq3.cell 3
      have hlp := bp3.lt
      have hlq := bq3.lt
      have hD := (Below.refl w3.heap.size w3).drew
      go_upto_region 8 with fail
      go_cut [6] (fun r0 wx => r0 = .bool x ∧ Below w3.heap.size w3 wx)
      case first =>
        have t_0 : w3.drew.cell? ⟨w.heap.size, 0, none⟩ = some (.int .i64 t.kind) := cp0
        have t_1 : w3.drew.cell? ⟨w.heap.size, 1, none⟩ = some (.slice L0 t.labels.length l0) := cp1
        have t_2 : w3.drew.cell? ⟨w.heap.size, 2, none⟩ = some (.slice A0 t.args.length a0) := cp2
        have t_3 : w3.drew.cell? ⟨w.heap.size + 1, 0, none⟩ = some (.int .i64 t'.kind) := cq0
        have t_4 : w3.drew.cell? ⟨w.heap.size + 1, 1, none⟩ = some (.string t'.name) := cq1
        have t_5 : w3.drew.cell? ⟨w.heap.size + 1, 2, none⟩ = some (.int .i64 t'.num) := cq2
        have t_6 : w3.drew.cell? ⟨w.heap.size + 1, 3, none⟩ = some (.slice A1 t'.args.length a1) := cq3
        go_region_held3 (fun x => x.cell? ⟨w.heap.size, 0, none⟩ = some (.int .i64 t.kind) ∧ x.cell? ⟨w.heap.size, 1, none⟩ = some (.slice L0 t.labels.length l0) ∧ x.cell? ⟨w.heap.size, 2, none⟩ = some (.slice A0 t.args.length a0) ∧ x.cell? ⟨w.heap.size + 1, 0, none⟩ = some (.int .i64 t'.kind) ∧ x.cell? ⟨w.heap.size + 1, 1, none⟩ = some (.string t'.name) ∧ x.cell? ⟨w.heap.size + 1, 2, none⟩ = some (.int .i64 t'.num) ∧ x.cell? ⟨w.heap.size + 1, 3, none⟩ = some (.slice A1 t'.args.length a1) ∧ Below w3.heap.size w3 x) ((first | (with_reducible exact ⟨t_0, t_1, t_2, t_3, t_4, t_5, t_6, hD⟩) | (with_reducible exact ⟨s0_0_0, s0_0_1, s0_0_2, s0_0_3, s0_0_4, s0_0_5, s0_0_6, hP0_0⟩) | (with_reducible exact ⟨s0_1_0, s0_1_1, s0_1_2, s0_1_3, s0_1_4, s0_1_5, s0_1_6, hP0_1⟩) | (with_reducible exact ⟨s0_2_0, s0_2_1, s0_2_2, s0_2_3, s0_2_4, s0_2_5, s0_2_6, hP0_2⟩) | (with_reducible exact ⟨s1_0_0, s1_0_1, s1_0_2, s1_0_3, s1_0_4, s1_0_5, s1_0_6, hP1_0⟩) | (with_reducible exact ⟨s1_1_0, s1_1_1, s1_1_2, s1_1_3, s1_1_4, s1_1_5, s1_1_6, hP1_1⟩) | (with_reducible exact ⟨s1_2_0, s1_2_1, s1_2_2, s1_2_3, s1_2_4, s1_2_5, s1_2_6, hP1_2⟩)))
          (first | (go_at_call 20; (with_reducible refine (HT0.out _ (ha3.up hD)).mono ?_); rintro e wP0_0 ⟨v1, rfl, hv1, hN0_0⟩; have hP0_0 := hD.trans (hN0_0.mono hD.size); have s0_0_0 := (hP0_0.cell (p := ⟨w.heap.size, 0, none⟩) hlp).trans cp0; have s0_0_1 := (hP0_0.cell (p := ⟨w.heap.size, 1, none⟩) hlp).trans cp1; have s0_0_2 := (hP0_0.cell (p := ⟨w.heap.size, 2, none⟩) hlp).trans cp2; have s0_0_3 := (hP0_0.cell (p := ⟨w.heap.size + 1, 0, none⟩) hlq).trans cq0; have s0_0_4 := (hP0_0.cell (p := ⟨w.heap.size + 1, 1, none⟩) hlq).trans cq1; have s0_0_5 := (hP0_0.cell (p := ⟨w.heap.size + 1, 2, none⟩) hlq).trans cq2; have s0_0_6 := (hP0_0.cell (p := ⟨w.heap.size + 1, 3, none⟩) hlq).trans cq3) | (go_at_call 21; (with_reducible refine (HT1.out _ (hd3.up hP0_0)).mono ?_); rintro e wP0_1 ⟨v2, rfl, hv2, hN0_1⟩; have hP0_1 := hP0_0.trans (hN0_1.mono hP0_0.size); have s0_1_0 := (hP0_1.cell (p := ⟨w.heap.size, 0, none⟩) hlp).trans cp0; have s0_1_1 := (hP0_1.cell (p := ⟨w.heap.size, 1, none⟩) hlp).trans cp1; have s0_1_2 := (hP0_1.cell (p := ⟨w.heap.size, 2, none⟩) hlp).trans cp2; have s0_1_3 := (hP0_1.cell (p := ⟨w.heap.size + 1, 0, none⟩) hlq).trans cq0; have s0_1_4 := (hP0_1.cell (p := ⟨w.heap.size + 1, 1, none⟩) hlq).trans cq1; have s0_1_5 := (hP0_1.cell (p := ⟨w.heap.size + 1, 2, none⟩) hlq).trans cq2; have s0_1_6 := (hP0_1.cell (p := ⟨w.heap.size + 1, 3, none⟩) hlq).trans cq3) | (go_at_call 27; (with_reducible refine (HS.out v1 v2 _ (hv1.here.up hN0_1) hv2.here).mono ?_); rintro e wP0_2 ⟨rfl, hN0_2⟩; have hP0_2 := hP0_1.trans (hN0_2.mono hP0_1.size); have s0_2_0 := (hP0_2.cell (p := ⟨w.heap.size, 0, none⟩) hlp).trans cp0; have s0_2_1 := (hP0_2.cell (p := ⟨w.heap.size, 1, none⟩) hlp).trans cp1; have s0_2_2 := (hP0_2.cell (p := ⟨w.heap.size, 2, none⟩) hlp).trans cp2; have s0_2_3 := (hP0_2.cell (p := ⟨w.heap.size + 1, 0, none⟩) hlq).trans cq0; have s0_2_4 := (hP0_2.cell (p := ⟨w.heap.size + 1, 1, none⟩) hlq).trans cq1; have s0_2_5 := (hP0_2.cell (p := ⟨w.heap.size + 1, 2, none⟩) hlq).trans cq2; have s0_2_6 := (hP0_2.cell (p := ⟨w.heap.size + 1, 3, none⟩) hlq).trans cq3) | (go_at_call 21; (with_reducible refine (HT1.out _ (hd3.up hD)).mono ?_); rintro e wP1_0 ⟨v2, rfl, hv2, hN1_0⟩; have hP1_0 := hD.trans (hN1_0.mono hD.size); have s1_0_0 := (hP1_0.cell (p := ⟨w.heap.size, 0, none⟩) hlp).trans cp0; have s1_0_1 := (hP1_0.cell (p := ⟨w.heap.size, 1, none⟩) hlp).trans cp1; have s1_0_2 := (hP1_0.cell (p := ⟨w.heap.size, 2, none⟩) hlp).trans cp2; have s1_0_3 := (hP1_0.cell (p := ⟨w.heap.size + 1, 0, none⟩) hlq).trans cq0; have s1_0_4 := (hP1_0.cell (p := ⟨w.heap.size + 1, 1, none⟩) hlq).trans cq1; have s1_0_5 := (hP1_0.cell (p := ⟨w.heap.size + 1, 2, none⟩) hlq).trans cq2; have s1_0_6 := (hP1_0.cell (p := ⟨w.heap.size + 1, 3, none⟩) hlq).trans cq3) | (go_at_call 20; (with_reducible refine (HT0.out _ (ha3.up hP1_0)).mono ?_); rintro e wP1_1 ⟨v1, rfl, hv1, hN1_1⟩; have hP1_1 := hP1_0.trans (hN1_1.mono hP1_0.size); have s1_1_0 := (hP1_1.cell (p := ⟨w.heap.size, 0, none⟩) hlp).trans cp0; have s1_1_1 := (hP1_1.cell (p := ⟨w.heap.size, 1, none⟩) hlp).trans cp1; have s1_1_2 := (hP1_1.cell (p := ⟨w.heap.size, 2, none⟩) hlp).trans cp2; have s1_1_3 := (hP1_1.cell (p := ⟨w.heap.size + 1, 0, none⟩) hlq).trans cq0; have s1_1_4 := (hP1_1.cell (p := ⟨w.heap.size + 1, 1, none⟩) hlq).trans cq1; have s1_1_5 := (hP1_1.cell (p := ⟨w.heap.size + 1, 2, none⟩) hlq).trans cq2; have s1_1_6 := (hP1_1.cell (p := ⟨w.heap.size + 1, 3, none⟩) hlq).trans cq3) | (go_at_call 27; (with_reducible refine (HS.out v1 v2 _ hv1.here (hv2.here.up hN1_1)).mono ?_); rintro e wP1_2 ⟨rfl, hN1_2⟩; have hP1_2 := hP1_1.trans (hN1_2.mono hP1_1.size); have s1_2_0 := (hP1_2.cell (p := ⟨w.heap.size, 0, none⟩) hlp).trans cp0; have s1_2_1 := (hP1_2.cell (p := ⟨w.heap.size, 1, none⟩) hlp).trans cp1; have s1_2_2 := (hP1_2.cell (p := ⟨w.heap.size, 2, none⟩) hlp).trans cp2; have s1_2_3 := (hP1_2.cell (p := ⟨w.heap.size + 1, 0, none⟩) hlq).trans cq0; have s1_2_4 := (hP1_2.cell (p := ⟨w.heap.size + 1, 1, none⟩) hlq).trans cq1; have s1_2_5 := (hP1_2.cell (p := ⟨w.heap.size + 1, 2, none⟩) hlq).trans cq2; have s1_2_6 := (hP1_2.cell (p := ⟨w.heap.size + 1, 3, none⟩) hlq).trans cq3))
        all_goals go_wp2
        all_goals go_meet
        all_goals first | exact ⟨rfl, hP0_2⟩ | exact ⟨rfl, hP1_2⟩
      case rest =>
        obtain ⟨rfl, hb4⟩ := hcut
        have hw4 : wc = wc := rfl
        clear hw4
        clear hD
        generalize wc = w4 at *
        clear cp0 cp1 cp2 cq0 cq1 cq2 cq3
        have cb4 := cb3.trans (hb4.mono cb3.size)
        have sz4 := hb4.size
        have ha4 := ha3.up hb4
        have hd4 := hd3.up hb4
        have hU4 := hU3.below hb4
        have hJ4 := hJ3.below hb4
        have bp4 := bp3.below hb4 bp3.lt
        have bq4 := bq3.below hb4 bq3.lt
        clear ha3 hd3 hU3 hJ3 bp3 bq3
        have cp0 : w4.cell? ⟨w.heap.size, 0, none⟩ = some (.int .i64 t.kind) := bp4.cell 0
        have cp1 : w4.cell? ⟨w.heap.size, 1, none⟩ = some (.slice L0 t.labels.length l0) := bp4.cell 1
        have cp2 : w4.cell? ⟨w.heap.size, 2, none⟩ = some (.slice A0 t.args.length a0) := bp4.cell 2
        go_wp2_with fail
        clear cp0 cp1 cp2
        refine (HT0.out w4 ha4).mono ?_
        rintro e w5 ⟨ux, rfl, hx5, hb5⟩
        have cb5 := cb4.trans (hb5.mono cb4.size)
        have sz5 := hb5.size
        have ha5 := ha4.up hb5
        have hd5 := hd4.up hb5
        have hU5 := hU4.below hb5
        have hJ5 := hJ4.below hb5
        have bp5 := bp4.below hb5 bp4.lt
        have bq5 := bq4.below hb5 bq4.lt
        clear ha4 hd4 hU4 hJ4 bp4 bq4
        obtain ⟨L2, l2, A2, a2, _, rfl, _⟩ := hx5.open
        have hxT5 := hx5.here
        have hxO5 := OwnT.of hx5
        clear hx5
        obtain ⟨hb6, bX6, hz6⟩ := boxes1 w5 27 #[.int .i64 t.kind, .slice L2 t.labels.length l2, .slice A2 t.args.length a2]
        have dq := bq5.below hb6 bq5.lt
        have cq0 : (w5.alloc (.cells #[.int .i64 t.kind, .slice L2 t.labels.length l2, .slice A2 t.args.length a2] 27)).cell? ⟨w.heap.size + 1, 0, none⟩ = some (.int .i64 t'.kind) := dq.cell 0
        have cq1 : (w5.alloc (.cells #[.int .i64 t.kind, .slice L2 t.labels.length l2, .slice A2 t.args.length a2] 27)).cell? ⟨w.heap.size + 1, 1, none⟩ = some (.string t'.name) := dq.cell 1
        have cq2 : (w5.alloc (.cells #[.int .i64 t.kind, .slice L2 t.labels.length l2, .slice A2 t.args.length a2] 27)).cell? ⟨w.heap.size + 1, 2, none⟩ = some (.int .i64 t'.num) := dq.cell 2
        have cq3 : (w5.alloc (.cells #[.int .i64 t.kind, .slice L2 t.labels.length l2, .slice A2 t.args.length a2] 27)).cell? ⟨w.heap.size + 1, 3, none⟩ = some (.slice A1 t'.args.length a1) := dq.cell 3
        go_wp2_with fail
        clear dq cq0 cq1 cq2 cq3
        generalize w5.alloc (.cells #[.int .i64 t.kind, .slice L2 t.labels.length l2, .slice A2 t.args.length a2] 27) = w6 at *
        have zz6 : w5.heap.size < w6.heap.size := by omega
        clear hz6
        have cb6 := cb5.trans (hb6.mono cb5.size)
        have sz6 := hb6.size
        have ha6 := ha5.up hb6
        have hd6 := hd5.up hb6
        have hU6 := hU5.below hb6
        have hJ6 := hJ5.below hb6
        have bp6 := bp5.below hb6 bp5.lt
        have bq6 := bq5.below hb6 bq5.lt
        have hxT6 := hxT5.up hb6
        have hxO6 := hxO5.up hb6
        clear ha5 hd5 hU5 hJ5 bp5 bq5 hxT5 hxO5
        refine (HT1.out w6 hd6).mono ?_
        rintro e w7 ⟨uy, rfl, hy7, hb7⟩
        have cb7 := cb6.trans (hb7.mono cb6.size)
        have sz7 := hb7.size
        have ha7 := ha6.up hb7
        have hd7 := hd6.up hb7
        have hU7 := hU6.below hb7
        have hJ7 := hJ6.below hb7
        have bp7 := bp6.below hb7 bp6.lt
        have bq7 := bq6.below hb7 bq6.lt
        have hxT7 := hxT6.up hb7
        have hxO7 := hxO6.up hb7
        have bX7 := bX6.below hb7 bX6.lt
        clear ha6 hd6 hU6 hJ6 bp6 bq6 hxT6 hxO6 bX6
        obtain ⟨A3, a3, rfl, _⟩ := hy7.open
        have hyT7 := hy7.here
        have hyO7 := OwnO.of hy7
        clear hy7
        obtain ⟨hb8, bY8, hz8⟩ := boxes1 w7 30 #[.int .i64 t'.kind, .string t'.name, .int .i64 t'.num, .slice A3 t'.args.length a3]
        have dX := bX7.below hb8 bX7.lt
        have cX0 : (w7.alloc (.cells #[.int .i64 t'.kind, .string t'.name, .int .i64 t'.num, .slice A3 t'.args.length a3] 30)).cell? ⟨w5.heap.size, 0, none⟩ = some (.int .i64 t.kind) := dX.cell 0
        have cX1 : (w7.alloc (.cells #[.int .i64 t'.kind, .string t'.name, .int .i64 t'.num, .slice A3 t'.args.length a3] 30)).cell? ⟨w5.heap.size, 1, none⟩ = some (.slice L2 t.labels.length l2) := dX.cell 1
        have cX2 : (w7.alloc (.cells #[.int .i64 t'.kind, .string t'.name, .int .i64 t'.num, .slice A3 t'.args.length a3] 30)).cell? ⟨w5.heap.size, 2, none⟩ = some (.slice A2 t.args.length a2) := dX.cell 2
        go_wp2_with fail
        clear dX cX0 cX1 cX2
        generalize w7.alloc (.cells #[.int .i64 t'.kind, .string t'.name, .int .i64 t'.num, .slice A3 t'.args.length a3] 30) = w8 at *
        have zz8 : w7.heap.size < w8.heap.size := by omega
        clear hz8
        have cb8 := cb7.trans (hb8.mono cb7.size)
        have sz8 := hb8.size
        have ha8 := ha7.up hb8
        have hd8 := hd7.up hb8
        have hU8 := hU7.below hb8
        have hJ8 := hJ7.below hb8
        have bp8 := bp7.below hb8 bp7.lt
        have bq8 := bq7.below hb8 bq7.lt
        have hxT8 := hxT7.up hb8
        have hxO8 := hxO7.up hb8
        have bX8 := bX7.below hb8 bX7.lt
        have hyT8 := hyT7.up hb8
        have hyO8 := hyO7.up hb8
        clear ha7 hd7 hU7 hJ7 bp7 bq7 hxT7 hxO7 bX7 hyT7 hyO7
        refine (HI.out _ _ w8 hxO8 hyO8 hU8 hJ8).mono ?_
        rintro e w9 ⟨rfl, hb9⟩
        have cb9 := cb8.trans (hb9.mono cb8.size)
        have sz9 := hb9.size
        have ha9 := ha8.up hb9
        have hd9 := hd8.up hb9
        have hU9 := hU8.below hb9
        have hJ9 := hJ8.below hb9
        have bp9 := bp8.below hb9 bp8.lt
        have bq9 := bq8.below hb9 bq8.lt
        have hxT9 := hxT8.up hb9
        have hxO9 := hxO8.up hb9
        have bX9 := bX8.below hb9 bX8.lt
        have hyT9 := hyT8.up hb9
        have hyO9 := hyO8.up hb9
        have bY9 := bY8.below hb9 bY8.lt
        clear ha8 hd8 hU8 hJ8 bp8 bq8 hxT8 hxO8 bX8 hyT8 hyO8 bY8
        have cX0 : w9.cell? ⟨w5.heap.size, 0, none⟩ = some (.int .i64 t.kind) := bX9.cell 0
        have cX1 : w9.cell? ⟨w5.heap.size, 1, none⟩ = some (.slice L2 t.labels.length l2) := bX9.cell 1
        have cX2 : w9.cell? ⟨w5.heap.size, 2, none⟩ = some (.slice A2 t.args.length a2) := bX9.cell 2
        have cp0 : w9.cell? ⟨w.heap.size, 0, none⟩ = some (.int .i64 t.kind) := bp9.cell 0
        have cp1 : w9.cell? ⟨w.heap.size, 1, none⟩ = some (.slice L0 t.labels.length l0) := bp9.cell 1
        have cp2 : w9.cell? ⟨w.heap.size, 2, none⟩ = some (.slice A0 t.args.length a0) := bp9.cell 2
        have hlX := bX9.lt
        have hlp := bp9.lt
        go_wp2_with fail
        go_region_held3 (fun x => x.cell? ⟨w5.heap.size, 0, none⟩ = some (.int .i64 t.kind) ∧ x.cell? ⟨w5.heap.size, 1, none⟩ = some (.slice L2 t.labels.length l2) ∧ x.cell? ⟨w5.heap.size, 2, none⟩ = some (.slice A2 t.args.length a2) ∧ x.cell? ⟨w.heap.size, 0, none⟩ = some (.int .i64 t.kind) ∧ x.cell? ⟨w.heap.size, 1, none⟩ = some (.slice L0 t.labels.length l0) ∧ x.cell? ⟨w.heap.size, 2, none⟩ = some (.slice A0 t.args.length a0) ∧ Below w9.heap.size w9 x) ((first | exact ⟨cX0, cX1, cX2, cp0, cp1, cp2, (Below.refl _ _).drew⟩ | exact ⟨r0_0, r0_1, r0_2, r0_3, r0_4, r0_5, hR0⟩ | exact ⟨r1_0, r1_1, r1_2, r1_3, r1_4, r1_5, hb10⟩))
          (first | (go_at_call 20; refine (HT0.out _ (ha9.up (Below.refl w9.heap.size w9).drew)).mono ?_; rintro e wR0 ⟨v1, rfl, hv1, hN0⟩; have hR0 := (Below.refl w9.heap.size w9).drew.trans (hN0.mono (Below.refl w9.heap.size w9).drew.size); have r0_0 := (hR0.cell (p := ⟨w5.heap.size, 0, none⟩) hlX).trans cX0; have r0_1 := (hR0.cell (p := ⟨w5.heap.size, 1, none⟩) hlX).trans cX1; have r0_2 := (hR0.cell (p := ⟨w5.heap.size, 2, none⟩) hlX).trans cX2; have r0_3 := (hR0.cell (p := ⟨w.heap.size, 0, none⟩) hlp).trans cp0; have r0_4 := (hR0.cell (p := ⟨w.heap.size, 1, none⟩) hlp).trans cp1; have r0_5 := (hR0.cell (p := ⟨w.heap.size, 2, none⟩) hlp).trans cp2) | (go_at_call 22; refine (HE0.out _ v1 _ (hxT9.up hR0) hv1.here).mono ?_; rintro e w10 ⟨rfl, hN1⟩; have hb10 := hR0.trans (hN1.mono hR0.size); have r1_0 := (hb10.cell (p := ⟨w5.heap.size, 0, none⟩) hlX).trans cX0; have r1_1 := (hb10.cell (p := ⟨w5.heap.size, 1, none⟩) hlX).trans cX1; have r1_2 := (hb10.cell (p := ⟨w5.heap.size, 2, none⟩) hlX).trans cX2; have r1_3 := (hb10.cell (p := ⟨w.heap.size, 0, none⟩) hlp).trans cp0; have r1_4 := (hb10.cell (p := ⟨w.heap.size, 1, none⟩) hlp).trans cp1; have r1_5 := (hb10.cell (p := ⟨w.heap.size, 2, none⟩) hlp).trans cp2))
        clear cX0 cX1 cX2 cp0 cp1 cp2
        have cb10 := cb9.trans (hb10.mono cb9.size)
        have sz10 := hb10.size
        have ha10 := ha9.up hb10
        have hd10 := hd9.up hb10
        have hU10 := hU9.below hb10
        have hJ10 := hJ9.below hb10
        have bp10 := bp9.below hb10 bp9.lt
        have bq10 := bq9.below hb10 bq9.lt
        have hxT10 := hxT9.up hb10
        have hxO10 := hxO9.up hb10
        have bX10 := bX9.below hb10 bX9.lt
        have hyT10 := hyT9.up hb10
        have hyO10 := hyO9.up hb10
        have bY10 := bY9.below hb10 bY9.lt
        clear ha9 hd9 hU9 hJ9 bp9 bq9 hxT9 hxO9 bX9 hyT9 hyO9 bY9
        clear hv1
        have cY0 : w10.cell? ⟨w7.heap.size, 0, none⟩ = some (.int .i64 t'.kind) := bY10.cell 0
        have cY1 : w10.cell? ⟨w7.heap.size, 1, none⟩ = some (.string t'.name) := bY10.cell 1
        have cY2 : w10.cell? ⟨w7.heap.size, 2, none⟩ = some (.int .i64 t'.num) := bY10.cell 2
        have cY3 : w10.cell? ⟨w7.heap.size, 3, none⟩ = some (.slice A3 t'.args.length a3) := bY10.cell 3
        have cq0 : w10.cell? ⟨w.heap.size + 1, 0, none⟩ = some (.int .i64 t'.kind) := bq10.cell 0
        have cq1 : w10.cell? ⟨w.heap.size + 1, 1, none⟩ = some (.string t'.name) := bq10.cell 1
        have cq2 : w10.cell? ⟨w.heap.size + 1, 2, none⟩ = some (.int .i64 t'.num) := bq10.cell 2
        have cq3 : w10.cell? ⟨w.heap.size + 1, 3, none⟩ = some (.slice A1 t'.args.length a1) := bq10.cell 3
        have hlY := bY10.lt
        have hlq := bq10.lt
        go_wp2_with fail
        go_region_held3 (fun x => x.cell? ⟨w7.heap.size, 0, none⟩ = some (.int .i64 t'.kind) ∧ x.cell? ⟨w7.heap.size, 1, none⟩ = some (.string t'.name) ∧ x.cell? ⟨w7.heap.size, 2, none⟩ = some (.int .i64 t'.num) ∧ x.cell? ⟨w7.heap.size, 3, none⟩ = some (.slice A3 t'.args.length a3) ∧ x.cell? ⟨w.heap.size + 1, 0, none⟩ = some (.int .i64 t'.kind) ∧ x.cell? ⟨w.heap.size + 1, 1, none⟩ = some (.string t'.name) ∧ x.cell? ⟨w.heap.size + 1, 2, none⟩ = some (.int .i64 t'.num) ∧ x.cell? ⟨w.heap.size + 1, 3, none⟩ = some (.slice A1 t'.args.length a1) ∧ Below w10.heap.size w10 x) ((first | exact ⟨cY0, cY1, cY2, cY3, cq0, cq1, cq2, cq3, (Below.refl _ _).drew⟩ | exact ⟨r0_0, r0_1, r0_2, r0_3, r0_4, r0_5, r0_6, r0_7, hR0⟩ | exact ⟨r1_0, r1_1, r1_2, r1_3, r1_4, r1_5, r1_6, r1_7, hb11⟩))
          (first | (go_at_call 21; refine (HT1.out _ (hd10.up (Below.refl w10.heap.size w10).drew)).mono ?_; rintro e wR0 ⟨v1, rfl, hv1, hN0⟩; have hR0 := (Below.refl w10.heap.size w10).drew.trans (hN0.mono (Below.refl w10.heap.size w10).drew.size); have r0_0 := (hR0.cell (p := ⟨w7.heap.size, 0, none⟩) hlY).trans cY0; have r0_1 := (hR0.cell (p := ⟨w7.heap.size, 1, none⟩) hlY).trans cY1; have r0_2 := (hR0.cell (p := ⟨w7.heap.size, 2, none⟩) hlY).trans cY2; have r0_3 := (hR0.cell (p := ⟨w7.heap.size, 3, none⟩) hlY).trans cY3; have r0_4 := (hR0.cell (p := ⟨w.heap.size + 1, 0, none⟩) hlq).trans cq0; have r0_5 := (hR0.cell (p := ⟨w.heap.size + 1, 1, none⟩) hlq).trans cq1; have r0_6 := (hR0.cell (p := ⟨w.heap.size + 1, 2, none⟩) hlq).trans cq2; have r0_7 := (hR0.cell (p := ⟨w.heap.size + 1, 3, none⟩) hlq).trans cq3) | (go_at_call 23; refine (HE1.out _ v1 _ (hyT10.up hR0) hv1.here).mono ?_; rintro e w11 ⟨rfl, hN1⟩; have hb11 := hR0.trans (hN1.mono hR0.size); have r1_0 := (hb11.cell (p := ⟨w7.heap.size, 0, none⟩) hlY).trans cY0; have r1_1 := (hb11.cell (p := ⟨w7.heap.size, 1, none⟩) hlY).trans cY1; have r1_2 := (hb11.cell (p := ⟨w7.heap.size, 2, none⟩) hlY).trans cY2; have r1_3 := (hb11.cell (p := ⟨w7.heap.size, 3, none⟩) hlY).trans cY3; have r1_4 := (hb11.cell (p := ⟨w.heap.size + 1, 0, none⟩) hlq).trans cq0; have r1_5 := (hb11.cell (p := ⟨w.heap.size + 1, 1, none⟩) hlq).trans cq1; have r1_6 := (hb11.cell (p := ⟨w.heap.size + 1, 2, none⟩) hlq).trans cq2; have r1_7 := (hb11.cell (p := ⟨w.heap.size + 1, 3, none⟩) hlq).trans cq3))
        clear cY0 cY1 cY2 cY3 cq0 cq1 cq2 cq3
        have cb11 := cb10.trans (hb11.mono cb10.size)
        have sz11 := hb11.size
        have ha11 := ha10.up hb11
        have hd11 := hd10.up hb11
        have hU11 := hU10.below hb11
        have hJ11 := hJ10.below hb11
        have bp11 := bp10.below hb11 bp10.lt
        have bq11 := bq10.below hb11 bq10.lt
        have hxT11 := hxT10.up hb11
        have hxO11 := hxO10.up hb11
        have bX11 := bX10.below hb11 bX10.lt
        have hyT11 := hyT10.up hb11
        have hyO11 := hyO10.up hb11
        have bY11 := bY10.below hb11 bY10.lt
        clear ha10 hd10 hU10 hJ10 bp10 bq10 hxT10 hxO10 bX10 hyT10 hyO10 bY10
        clear hv1
        go_wp2
        go_ret
        exact ⟨rfl, cb11⟩

theorem own : ownKnob Tryz.prog.godebug = none := by kernel_rfl
theorem laidOut : laidOutB Tryz.prog = true := by kernel_rfl

/-- What the row lists. -/
def laid : List (String × DataW Unit) := Rows.fnExactIsTypedRow.laid

set_option maxRecDepth 100000 in
theorem lifted (os : Os) (started : os.Started) (H : Type) (enc : TypeId × Value → H) :
    ReturnsInHanded {} Tryz.checked os 5 .any (fun w args => (Rows.fnExactIsTypedSpec.pre enc Tryz.prog Tryz.f5 [] false w args ∧ laidMetH Tryz.prog laid w) ∧ sizedMet enc Tryz.prog Tryz.f5 (OpenSpec.ofChange Rows.fnExactIsTypedSpec) false w args)
      (Rows.fnExactIsTypedSpec.post enc Tryz.prog Tryz.f5 false true false false) := by
  refine law_lifted_vars (C := Tryz.checked) (bt := 4) own laidOut started (by kernel_rfl) Tryz.func5 (by kernel_rfl) rfl Tryz.underlying4 (by kernel_rfl) ?_
    (ChangeSpec.witness_shaped (enc := enc) (C := Tryz.checked) (os := os) (X := fun w _ => laidMetH Tryz.prog laid w) false (World.laidAll Tryz.prog os laid) #[.agg #[.int .i64 0, .slice none 0 0, .slice none 0 0], .agg #[.int .i64 0, .string ⟨#[]⟩, .int .i64 0, .slice none 0 0]] 8 (World.laidAll_os _ _ _) (World.shaped_of_ZipB (by kernel_rfl) (by kernel_rfl)) (by kernel_rfl) (by kernel_rfl) (by kernel_rfl)
      (by rw [MakeChecks.laidMetH_plain _ _ _ (by kernel_rfl)]; exact laidMet_laidAll _ (by kernel_rfl) (by kernel_rfl))) ?_
  · intro ds gs hd hg
    have h1 : ds.length = 2 := hd
    have h2 : gs.length = 2 := hg
    match ds, gs, h1, h2 with
    | [d1, d2], [g1, g2], _, _ => rfl
  · intro W base args ds p hval0 hA0 hlt hL hsh
    have hval : ∀ (j : Nat) t v, Tryz.f5.params[j]? = some t → args[j]? = some v → Value.okWide Tryz.prog W .any base t v := hval0
    have hA : DataW.TrodAll enc Tryz.prog W 0 (fun _ => true) true Tryz.f5.params.toList args.toList ds p := hA0
    rw [Tryz.params5] at hA hval
    obtain ⟨v0, v1, d0, d1, p0, p1, rfl, rfl, rfl, h0, h1⟩ := trodAll_two hA
    obtain ⟨a0, ra0⟩ := open_type_arg (hval 0 41 v0 rfl rfl) h0 (fun x hx => hlt x (by simp [hx]))
    obtain ⟨a1, ra1⟩ := open_optic_arg (hval 1 44 v1 rfl rfl) h1 (fun x hx => hlt x (by simp [hx]))
    rw [MakeChecks.laidMetH_plain _ _ _ (by kernel_rfl)] at hL
    obtain ⟨_, hUU⟩ := unfitAt_of (r := []) (laidMet.tail (x := ("loop.example/g00592/impl.kindJoins", Rows.laid_loop_example_g00592_impl_kindJoins)) hL)
    exact walk a0 a1 v0 v1 W ra0 ra1 hUU (joinsAt_of (L := laid) (by unfold laid; exact List.mem_cons_self) hL)

theorem over : Rows.FnExactIsTypedSaid :=
  OpenClaim.holds_of_wide 5 Tryz.f5 rfl rfl rfl rfl rfl rfl rfl ⟨rfl, rfl, rfl, rfl, rfl⟩ rfl rfl rfl rfl rfl (by kernel_rfl) Tryz.func5 (by kernel_rfl)
    (of_decide_eq_true (by kernel_rfl)) (by unfold Func.isWrapper; rw [if_neg (of_decide_eq_false (by kernel_rfl))]; exact ⟨rfl, rfl⟩)
    (fun os started H enc _ => lifted os started H enc)

theorem proved : Rows.FnExactIsTypedCardSaid :=
  Claim7.holds_tied_plain_at .later [] Rows.fnExactIsTypedCard.laidKinds true Rows.fnExactIsTypedCard.stood.harness Rows.fnExactIsTypedCard.stood.looks
    over (fun _ h => by cases h) (by kernel_rfl) (fun _ h => by cases h) fnExactIsTyped_row_tie rfl ⟨rfl, rfl⟩ (by kernel_rfl) rfl
    (fun f fn hf hfn => by
      obtain rfl : f = 5 := Option.some.inj ((show Tryz.prog.funcNamed "loop.example/g00592/laws.FnExactIsTyped" = some 5 by kernel_rfl).symm.trans hf) |>.symm
      obtain rfl : fn = Tryz.f5 := (Option.some.inj (Tryz.func5.symm.trans hfn)).symm
      exact ⟨by kernel_rfl, fun j t ht => by
        rw [Tryz.params5] at ht
        have hm := Array.mem_of_getElem? ht
        have hall : (#[41, 44].toList.all fun u => !Tryz.prog.wantsStandIn u) = true := by kernel_rfl
        exact (show Tryz.prog.wantsStandIn t = false by simpa using List.all_eq_true.1 hall t (by simpa using hm))⟩)
    (by kernel_rfl)

end Go.Proofs.YthdfidhijmcbdaaGreatDoor.lawIsTyped
