/- FnExactOpticType: for every type and every optic the law of OpticType hands back true, and its arguments read as they did. No condition. -/
import Derived.Test.YthdfidhijmcbdaaGreatDoorRows
import Derived.Test.YthdfidhijmcbdaaGreatDoorLaw
import Derived.Test.YthdfidhijmcbdaaGreatDoorCards
import Derived.Test.YthdfidhijmcbdaaGreatDoorTie
import Derived.Test.YthdfidhijmcbdaaGreatDoorLawLaid
import Derived.Test.YthdfidhijmcbdaaGreatDoorOpenTy
import Derived.Test.YthdfidhijmcbdaaGreatDoorOpenOt
import Derived.Test.YthdfidhijmcbdaaGreatDoorSzTy
import Derived.Test.YthdfidhijmcbdaaGreatDoorSzOt
import Derived.Test.YthdfidhijmcbdaaGreatDoorGather
import Derived.Test.YthdfidhijmcbdaaGreatDoorOGather
import Derived.Test.YthdfidhijmcbdaaGreatDoorEqTy
import Derived.Test.YthdfidhijmcbdaaGreatDoorEqOt
import Derived.Test.YthdfidhijmcbdaaGreatDoorMarkTy
import Derived.Test.YthdfidhijmcbdaaGreatDoorHeldTy
import Derived.Test.YthdfidhijmcbdaaGreatDoorMarkOt
import Derived.Test.YthdfidhijmcbdaaGreatDoorHeldOt
import Derived.Test.YthdfidhijmcbdaaGreatDoorSpecOType
import Derived.Test.YthdfidhijmcbdaaGreatDoorLawOpticType_2
import Derived.Test.YthdfidhijmcbdaaGreatDoorLawOpticType_3
import Derived.SevenTiedAt
import Derived.Deep.DeepCutAuto
import Derived.Deep.CutRange
import Derived.Deep.DrawnRows
import Derived.Deep.RegionHeld3

namespace Go.Proofs.YthdfidhijmcbdaaGreatDoor.lawOpticType
open Go.ChangeShapes Go.WideShapes Go.ChangeAt Go.RowKit
open Go.ChangeMaps (open_string shut_string)

theorem leftOf_le2 (left : Int) (n : Nat) (h : 0 ≤ left) : leftOf left n ≤ left := by unfold leftOf; split <;> omega

theorem sz_tyOT (s : Ty) (o : Ot) : szTy (tyO (opticTypeB s o)) ≤ 660 := by
  unfold opticTypeB
  split
  · exact sz_tyO o s
  · simp [tyO, zeroTy, szTy_eq, Ty.labels, Ty.args, sumSizes, szTys]

set_option maxHeartbeats 4000000 in
set_option maxRecDepth 100000 in
theorem walk (t : Ty) (t' : Ot) (va vb : Value) (w : World) {u : Value} (ha0 : TyAt w w.heap.size va t) (hd0 : OtAt w w.heap.size vb t') (hU0 : UnfitAt w u) (hJ0 : JoinsAt w) :
    Calls Tryz.prog 4 #[va, vb] w (TrueBelow w) := by
  obtain ⟨L0, l0, A0, a0, rfl, _⟩ := ha0.open
  obtain ⟨A1, a1, rfl, _⟩ := hd0.open
  obtain ⟨hb1, bp1, bq1, hz1⟩ := boxes2 w 41 44 #[.int .i64 t.kind, .slice L0 t.labels.length l0, .slice A0 t.args.length a0] #[.int .i64 t'.kind, .string t'.name, .int .i64 t'.num, .slice A1 t'.args.length a1]
  go_enter Tryz.func4, Tryz.ntmps4
  go_wp2_with fail
  generalize (w.alloc (.cells #[.int .i64 t.kind, .slice L0 t.labels.length l0, .slice A0 t.args.length a0] 41)).alloc (.cells #[.int .i64 t'.kind, .string t'.name, .int .i64 t'.num, .slice A1 t'.args.length a1] 44) = w1 at *
  have zz1 : w.heap.size + 1 < w1.heap.size := by omega
  clear hz1
  have cb1 := hb1
  have sz1 := hb1.size
  refine (szTy_any t _ 1048576 w1 ((ha0.lift cb1).more cb1.size) (by omega) (by omega)).mono ?_
  rintro e w2 ⟨rfl, hb2⟩
  have cb2 := cb1.trans (hb2.mono cb1.size)
  have sz2 := hb2.size
  have bp2 := bp1.below hb2 bp1.lt
  have bq2 := bq1.below hb2 bq1.lt
  clear bp1 bq1
  by_cases hneg : (1048576 : Int) - szTy t < 0
  · rw [show leftOf 1048576 (szTy t) = -1 from by unfold leftOf; rw [if_pos hneg]]
    go_wp2
    go_ret
    exact ⟨rfl, cb2⟩
  · have hsz : szTy t ≤ 1048576 := by omega
    have hq2 : ¬ leftOf 1048576 (szTy t) < 0 := by unfold leftOf; rw [if_neg hneg]; exact hneg
    have hl2 := leftOf_le2 1048576 (szTy t) (by omega)
    generalize leftOf 1048576 (szTy t) = lf at *
    have cq0 : w2.cell? ⟨w.heap.size + 1, 0, none⟩ = some (.int .i64 t'.kind) := bq2.cell 0
    have cq1 : w2.cell? ⟨w.heap.size + 1, 1, none⟩ = some (.string t'.name) := bq2.cell 1
    have cq2 : w2.cell? ⟨w.heap.size + 1, 2, none⟩ = some (.int .i64 t'.num) := bq2.cell 2
    have cq3 : w2.cell? ⟨w.heap.size + 1, 3, none⟩ = some (.slice A1 t'.args.length a1) := bq2.cell 3
    go_wp2_with fail
    clear cq0 cq1 cq2 cq3
    refine (szOt_any t' _ lf w2 ((hd0.lift cb2).more cb2.size) (by omega) (by omega)).mono ?_
    rintro e w3 ⟨rfl, hb3⟩
    have cb3 := cb2.trans (hb3.mono cb2.size)
    have sz3 := hb3.size
    have bp3 := bp2.below hb3 bp2.lt
    have bq3 := bq2.below hb3 bq2.lt
    clear bp2 bq2
    by_cases hneg' : (lf : Int) - szOt t' < 0
    · rw [show leftOf lf (szOt t') = -1 from by unfold leftOf; rw [if_pos hneg']]
      go_wp2
      go_ret
      exact ⟨rfl, cb3⟩
    · have hsz' : szOt t' ≤ 1048576 := by omega
      have hq3 : ¬ leftOf lf (szOt t') < 0 := by unfold leftOf; rw [if_neg hneg']; exact hneg'
      have hl3 := leftOf_le2 lf (szOt t') (by omega)
      generalize leftOf lf (szOt t') = lf2 at *
      have HT := Lib.hid (fun W (h : TyAt W W.heap.size (.agg #[.int .i64 t.kind, .slice L0 t.labels.length l0, .slice A0 t.args.length a0]) t) => toType_any t _ W h hsz)
      have HO := Lib.hid (fun W (h : OtAt W W.heap.size (.agg #[.int .i64 t'.kind, .string t'.name, .int .i64 t'.num, .slice A1 t'.args.length a1]) t') => toOptic_any t' _ W h hsz')
      have HEt := Lib.hid (fun V V' W h h' => eqType_any t V V' W h h')
      have HEo := Lib.hid (fun V V' W h h' => eqOptic_any t' V V' W h h')
      have HS := Lib.hid (fun V V' W h h' => specOpticType_any t t' V V' W h h' hsz hsz')
      have HI := Lib.hid (fun X X' W h h' hU hJ => implOpticType_any (u := u) t t' X X' W hU hJ h h' hsz hsz')
      have hrs : szTy (tyO (opticTypeB t t')) ≤ 660 := sz_tyOT t t'
      generalize tyO (opticTypeB t t') = r at *
      generalize kdO (opticTypeB t t') = kd at *
      generalize (opticTypeB t t').isSome = ok at *
      have hcr := cnt_le_sz r
      have hct := cnt_le_sz t
      have hco := cnt_le_szO t'
      have HEr := Lib.hid (fun V V' W h h' => eqType_any r V V' W h h')
      have hkk : (kd != kd) = false := by simp
      have hoo : (ok != ok) = false := by simp
      have ha3 := ((ha0.lift cb3).more cb3.size)
      have hd3 := ((hd0.lift cb3).more cb3.size)
      have hU3 := hU0.below cb3
      have hJ3 := hJ0.below cb3
      have cp0 : w3.cell? ⟨w.heap.size, 0, none⟩ = some (.int .i64 t.kind) := bp3.cell 0
      have cp1 : w3.cell? ⟨w.heap.size, 1, none⟩ = some (.slice L0 t.labels.length l0) := bp3.cell 1
      have cp2 : w3.cell? ⟨w.heap.size, 2, none⟩ = some (.slice A0 t.args.length a0) := bp3.cell 2
      have cq0 : w3.cell? ⟨w.heap.size + 1, 0, none⟩ = some (.int .i64 t'.kind) := bq3.cell 0
      have cq1 : w3.cell? ⟨w.heap.size + 1, 1, none⟩ = some (.string t'.name) := bq3.cell 1
      have cq2 : w3.cell? ⟨w.heap.size + 1, 2, none⟩ = some (.int .i64 t'.num) := bq3.cell 2
      have cq3 : w3.cell? ⟨w.heap.size + 1, 3, none⟩ = some (.slice A1 t'.args.length a1) := bq3.cell 3
      have hlp := bp3.lt
      have hlq := bq3.lt
      have KS := Lib.hid (fun (x : World) (hx : Below w3.heap.size w3 x) => (show x.cell? ⟨w.heap.size, 0, none⟩ = some (.int .i64 t.kind) ∧ x.cell? ⟨w.heap.size, 1, none⟩ = some (.slice L0 t.labels.length l0) ∧ x.cell? ⟨w.heap.size, 2, none⟩ = some (.slice A0 t.args.length a0) ∧ x.cell? ⟨w.heap.size + 1, 0, none⟩ = some (.int .i64 t'.kind) ∧ x.cell? ⟨w.heap.size + 1, 1, none⟩ = some (.string t'.name) ∧ x.cell? ⟨w.heap.size + 1, 2, none⟩ = some (.int .i64 t'.num) ∧ x.cell? ⟨w.heap.size + 1, 3, none⟩ = some (.slice A1 t'.args.length a1) from ⟨(hx.cell (p := ⟨w.heap.size, 0, none⟩) hlp).trans cp0, (hx.cell (p := ⟨w.heap.size, 1, none⟩) hlp).trans cp1, (hx.cell (p := ⟨w.heap.size, 2, none⟩) hlp).trans cp2, (hx.cell (p := ⟨w.heap.size + 1, 0, none⟩) hlq).trans cq0, (hx.cell (p := ⟨w.heap.size + 1, 1, none⟩) hlq).trans cq1, (hx.cell (p := ⟨w.heap.size + 1, 2, none⟩) hlq).trans cq2, (hx.cell (p := ⟨w.heap.size + 1, 3, none⟩) hlq).trans cq3⟩))
      have hD := (Below.refl w3.heap.size w3).drew
      have hDA := ((Below.refl w3.heap.size w3).alloc (Nat.le_refl _) (.cells #[.int .i64 0, .slice none 0 0, .slice none 0 0] 27)).drew
      have zDA : Whole1 (w3.alloc (.cells #[.int .i64 0, .slice none 0 0, .slice none 0 0] 27)).drew w3.heap.size 27 #[.int .i64 0, .slice none 0 0, .slice none 0 0] := Whole1.new w3 27 #[.int .i64 0, .slice none 0 0, .slice none 0 0]
      have t_0 : w3.drew.cell? ⟨w.heap.size, 0, none⟩ = some (.int .i64 t.kind) := cp0
      have t_1 : w3.drew.cell? ⟨w.heap.size, 1, none⟩ = some (.slice L0 t.labels.length l0) := cp1
      have t_2 : w3.drew.cell? ⟨w.heap.size, 2, none⟩ = some (.slice A0 t.args.length a0) := cp2
      have t_3 : w3.drew.cell? ⟨w.heap.size + 1, 0, none⟩ = some (.int .i64 t'.kind) := cq0
      have t_4 : w3.drew.cell? ⟨w.heap.size + 1, 1, none⟩ = some (.string t'.name) := cq1
      have t_5 : w3.drew.cell? ⟨w.heap.size + 1, 2, none⟩ = some (.int .i64 t'.num) := cq2
      have t_6 : w3.drew.cell? ⟨w.heap.size + 1, 3, none⟩ = some (.slice A1 t'.args.length a1) := cq3
      clear cp0 cp1 cp2 cq0 cq1 cq2 cq3
      go_upto_region 8 with fail
      go_cut [6, 7, 8] from 30 to 39 (fun p k o wx => ∃ z T1 U1 T2 U2, p = .pointer (some ⟨z, 0, none⟩) ∧ k = .int .i64 kd ∧ o = .bool ok ∧ Got w3 wx z T1 T2 U1 U2 r)
      case first =>
        go_region_held3 (fun x : World => x.cell? ⟨w.heap.size, 0, none⟩ = some (.int .i64 t.kind) ∧ x.cell? ⟨w.heap.size, 1, none⟩ = some (.slice L0 t.labels.length l0) ∧ x.cell? ⟨w.heap.size, 2, none⟩ = some (.slice A0 t.args.length a0) ∧ x.cell? ⟨w.heap.size + 1, 0, none⟩ = some (.int .i64 t'.kind) ∧ x.cell? ⟨w.heap.size + 1, 1, none⟩ = some (.string t'.name) ∧ x.cell? ⟨w.heap.size + 1, 2, none⟩ = some (.int .i64 t'.num) ∧ x.cell? ⟨w.heap.size + 1, 3, none⟩ = some (.slice A1 t'.args.length a1)) ((first | (with_reducible exact KS.out _ hD) | (with_reducible exact KS.out _ hDA) | (with_reducible exact KS.out _ hBTA) | (with_reducible exact KS.out _ hBT) | (with_reducible exact KS.out _ hBTOA) | (with_reducible exact KS.out _ hBTO) | (with_reducible exact KS.out _ hBR) | (with_reducible exact KS.out _ hBTOP) | (with_reducible exact KS.out _ hBS) | (with_reducible exact KS.out _ hBTOAP) | (with_reducible exact KS.out _ hBTAO) | (with_reducible exact KS.out _ hBTAOP) | (with_reducible exact KS.out _ hBOA) | (with_reducible exact KS.out _ hBO) | (with_reducible exact KS.out _ hBOTA) | (with_reducible exact KS.out _ hBOT) | (with_reducible exact KS.out _ hBOTP) | (with_reducible exact KS.out _ hBOTAP) | (with_reducible exact KS.out _ hBOAT) | (with_reducible exact KS.out _ hBOATP) | (with_reducible exact KS.out _ hBAT) | (with_reducible exact KS.out _ hBATO) | (with_reducible exact KS.out _ hBATOP) | (with_reducible exact KS.out _ hBAO) | (with_reducible exact KS.out _ hBAOT) | (with_reducible exact KS.out _ hBAOTP) | go_keep))
          (first | (go_at_call 20; (with_reducible refine (HT.out _ (ha3.up hD)).mono ?_); rintro e wT ⟨vTT, rfl, hTT, hNT⟩; have hBT := hD.trans (hNT.mono hD.size); have hTIT := OwnT.of hTT; have hBTA := hBT.trans (((Below.refl wT.heap.size wT).alloc (Nat.le_refl _) (.cells #[.int .i64 0, .slice none 0 0, .slice none 0 0] 27)).mono hBT.size); have zTA : Whole1 (wT.alloc (.cells #[.int .i64 0, .slice none 0 0, .slice none 0 0] 27)) wT.heap.size 27 #[.int .i64 0, .slice none 0 0, .slice none 0 0] := Whole1.new wT 27 #[.int .i64 0, .slice none 0 0, .slice none 0 0]; have hTITA := hTIT.up ((Below.refl wT.heap.size wT).alloc (Nat.le_refl _) (.cells #[.int .i64 0, .slice none 0 0, .slice none 0 0] 27))) | (go_at_call 21; (with_reducible refine (HO.out _ (hd3.up hBT)).mono ?_); rintro e wTO ⟨vOTO, rfl, hOTO, hNTO⟩; have hBTO := hBT.trans (hNTO.mono hBT.size); have hOITO := OwnO.of hOTO; have hTITO := hTIT.up hNTO; have hBTOA := hBTO.trans (((Below.refl wTO.heap.size wTO).alloc (Nat.le_refl _) (.cells #[.int .i64 0, .slice none 0 0, .slice none 0 0] 27)).mono hBTO.size); have zTOA : Whole1 (wTO.alloc (.cells #[.int .i64 0, .slice none 0 0, .slice none 0 0] 27)) wTO.heap.size 27 #[.int .i64 0, .slice none 0 0, .slice none 0 0] := Whole1.new wTO 27 #[.int .i64 0, .slice none 0 0, .slice none 0 0]; have hTITOA := hTITO.up ((Below.refl wTO.heap.size wTO).alloc (Nat.le_refl _) (.cells #[.int .i64 0, .slice none 0 0, .slice none 0 0] 27)); have hOITOA := hOITO.up ((Below.refl wTO.heap.size wTO).alloc (Nat.le_refl _) (.cells #[.int .i64 0, .slice none 0 0, .slice none 0 0] 27))) | (go_at_call 9; (with_reducible refine (HS.out _ _ _ (hTITO).here (hOITO).here).mono ?_); rintro e wTOP ⟨vPTOP, rfl, hPTOP, hNTOP⟩; have hBTOP := hBTO.trans (hNTOP.mono hBTO.size); have HP := Lib.hid hPTOP; obtain ⟨T1, U1, T2, U2, _, rfl, _⟩ := hPTOP.open; have hBS := hBTOP.trans (((Below.refl wTOP.heap.size wTOP).alloc (Nat.le_refl _) (.cells #[.int .i64 0, .slice none 0 0, .slice none 0 0] 27)).mono hBTOP.size); have hBR := hBTOP.trans (((Below.refl wTOP.heap.size wTOP).alloc (Nat.le_refl _) (.cells #[.int .i64 r.kind, .slice T1 r.labels.length U1, .slice T2 r.args.length U2] 27)).mono hBTOP.size); have HACC := Lib.hid hBTOP; clear hPTOP) | (go_at_call 9; (with_reducible refine (HS.out _ _ _ (hTITOA).here (hOITOA).here).mono ?_); rintro e wTOAP ⟨vPTOAP, rfl, hPTOAP, hNTOAP⟩; have hBTOAP := hBTOA.trans (hNTOAP.mono hBTOA.size); have zTOAP := zTOA.below hNTOAP zTOA.lt; have HP := Lib.hid hPTOAP; obtain ⟨T1, U1, T2, U2, _, rfl, _⟩ := hPTOAP.open; have zc0 : wTOAP.cell? ⟨wTO.heap.size, 0, none⟩ = some (.int .i64 0) := zTOAP.cell 0; have zf0 : wTOAP.frozen? ⟨wTO.heap.size, 0, none⟩ = false := zTOAP.free 0; have zc1 : wTOAP.cell? ⟨wTO.heap.size, 1, none⟩ = some (.slice none 0 0) := zTOAP.cell 1; have zf1 : wTOAP.frozen? ⟨wTO.heap.size, 1, none⟩ = false := zTOAP.free 1; have zc2 : wTOAP.cell? ⟨wTO.heap.size, 2, none⟩ = some (.slice none 0 0) := zTOAP.cell 2; have zf2 : wTOAP.frozen? ⟨wTO.heap.size, 2, none⟩ = false := zTOAP.free 2; have hge : w3.heap.size ≤ wTO.heap.size := hBTO.size; have hBS := ((hBTOAP.setCell (p := ⟨wTO.heap.size, 0, none⟩) hge (.int .i64 r.kind)).setCell (p := ⟨wTO.heap.size, 1, none⟩) hge (.slice T1 r.labels.length U1)).setCell (p := ⟨wTO.heap.size, 2, none⟩) hge (.slice T2 r.args.length U2); have hzl := zTOA.lt; have HZ := Lib.hid zTOAP; have HACC := Lib.hid hBTOAP; clear hPTOAP) | (go_at_call 21; (with_reducible refine (HO.out _ (hd3.up hBTA)).mono ?_); rintro e wTAO ⟨vOTAO, rfl, hOTAO, hNTAO⟩; have hBTAO := hBTA.trans (hNTAO.mono hBTA.size); have zTAO := zTA.below hNTAO zTA.lt; have hOITAO := OwnO.of hOTAO; have hTITAO := hTITA.up hNTAO) | (go_at_call 9; (with_reducible refine (HS.out _ _ _ (hTITAO).here (hOITAO).here).mono ?_); rintro e wTAOP ⟨vPTAOP, rfl, hPTAOP, hNTAOP⟩; have hBTAOP := hBTAO.trans (hNTAOP.mono hBTAO.size); have zTAOP := zTAO.below hNTAOP zTAO.lt; have HP := Lib.hid hPTAOP; obtain ⟨T1, U1, T2, U2, _, rfl, _⟩ := hPTAOP.open; have zc0 : wTAOP.cell? ⟨wT.heap.size, 0, none⟩ = some (.int .i64 0) := zTAOP.cell 0; have zf0 : wTAOP.frozen? ⟨wT.heap.size, 0, none⟩ = false := zTAOP.free 0; have zc1 : wTAOP.cell? ⟨wT.heap.size, 1, none⟩ = some (.slice none 0 0) := zTAOP.cell 1; have zf1 : wTAOP.frozen? ⟨wT.heap.size, 1, none⟩ = false := zTAOP.free 1; have zc2 : wTAOP.cell? ⟨wT.heap.size, 2, none⟩ = some (.slice none 0 0) := zTAOP.cell 2; have zf2 : wTAOP.frozen? ⟨wT.heap.size, 2, none⟩ = false := zTAOP.free 2; have hge : w3.heap.size ≤ wT.heap.size := hBT.size; have hBS := ((hBTAOP.setCell (p := ⟨wT.heap.size, 0, none⟩) hge (.int .i64 r.kind)).setCell (p := ⟨wT.heap.size, 1, none⟩) hge (.slice T1 r.labels.length U1)).setCell (p := ⟨wT.heap.size, 2, none⟩) hge (.slice T2 r.args.length U2); have hzl := zTAO.lt; have HZ := Lib.hid zTAOP; have HACC := Lib.hid hBTAOP; clear hPTAOP) | (go_at_call 21; (with_reducible refine (HO.out _ (hd3.up hD)).mono ?_); rintro e wO ⟨vOO, rfl, hOO, hNO⟩; have hBO := hD.trans (hNO.mono hD.size); have hOIO := OwnO.of hOO; have hBOA := hBO.trans (((Below.refl wO.heap.size wO).alloc (Nat.le_refl _) (.cells #[.int .i64 0, .slice none 0 0, .slice none 0 0] 27)).mono hBO.size); have zOA : Whole1 (wO.alloc (.cells #[.int .i64 0, .slice none 0 0, .slice none 0 0] 27)) wO.heap.size 27 #[.int .i64 0, .slice none 0 0, .slice none 0 0] := Whole1.new wO 27 #[.int .i64 0, .slice none 0 0, .slice none 0 0]; have hOIOA := hOIO.up ((Below.refl wO.heap.size wO).alloc (Nat.le_refl _) (.cells #[.int .i64 0, .slice none 0 0, .slice none 0 0] 27))) | (go_at_call 20; (with_reducible refine (HT.out _ (ha3.up hBO)).mono ?_); rintro e wOT ⟨vTOT, rfl, hTOT, hNOT⟩; have hBOT := hBO.trans (hNOT.mono hBO.size); have hTIOT := OwnT.of hTOT; have hOIOT := hOIO.up hNOT; have hBOTA := hBOT.trans (((Below.refl wOT.heap.size wOT).alloc (Nat.le_refl _) (.cells #[.int .i64 0, .slice none 0 0, .slice none 0 0] 27)).mono hBOT.size); have zOTA : Whole1 (wOT.alloc (.cells #[.int .i64 0, .slice none 0 0, .slice none 0 0] 27)) wOT.heap.size 27 #[.int .i64 0, .slice none 0 0, .slice none 0 0] := Whole1.new wOT 27 #[.int .i64 0, .slice none 0 0, .slice none 0 0]; have hTIOTA := hTIOT.up ((Below.refl wOT.heap.size wOT).alloc (Nat.le_refl _) (.cells #[.int .i64 0, .slice none 0 0, .slice none 0 0] 27)); have hOIOTA := hOIOT.up ((Below.refl wOT.heap.size wOT).alloc (Nat.le_refl _) (.cells #[.int .i64 0, .slice none 0 0, .slice none 0 0] 27))) | (go_at_call 9; (with_reducible refine (HS.out _ _ _ (hTIOT).here (hOIOT).here).mono ?_); rintro e wOTP ⟨vPOTP, rfl, hPOTP, hNOTP⟩; have hBOTP := hBOT.trans (hNOTP.mono hBOT.size); have HP := Lib.hid hPOTP; obtain ⟨T1, U1, T2, U2, _, rfl, _⟩ := hPOTP.open; have hBS := hBOTP.trans (((Below.refl wOTP.heap.size wOTP).alloc (Nat.le_refl _) (.cells #[.int .i64 0, .slice none 0 0, .slice none 0 0] 27)).mono hBOTP.size); have hBR := hBOTP.trans (((Below.refl wOTP.heap.size wOTP).alloc (Nat.le_refl _) (.cells #[.int .i64 r.kind, .slice T1 r.labels.length U1, .slice T2 r.args.length U2] 27)).mono hBOTP.size); have HACC := Lib.hid hBOTP; clear hPOTP) | (go_at_call 9; (with_reducible refine (HS.out _ _ _ (hTIOTA).here (hOIOTA).here).mono ?_); rintro e wOTAP ⟨vPOTAP, rfl, hPOTAP, hNOTAP⟩; have hBOTAP := hBOTA.trans (hNOTAP.mono hBOTA.size); have zOTAP := zOTA.below hNOTAP zOTA.lt; have HP := Lib.hid hPOTAP; obtain ⟨T1, U1, T2, U2, _, rfl, _⟩ := hPOTAP.open; have zc0 : wOTAP.cell? ⟨wOT.heap.size, 0, none⟩ = some (.int .i64 0) := zOTAP.cell 0; have zf0 : wOTAP.frozen? ⟨wOT.heap.size, 0, none⟩ = false := zOTAP.free 0; have zc1 : wOTAP.cell? ⟨wOT.heap.size, 1, none⟩ = some (.slice none 0 0) := zOTAP.cell 1; have zf1 : wOTAP.frozen? ⟨wOT.heap.size, 1, none⟩ = false := zOTAP.free 1; have zc2 : wOTAP.cell? ⟨wOT.heap.size, 2, none⟩ = some (.slice none 0 0) := zOTAP.cell 2; have zf2 : wOTAP.frozen? ⟨wOT.heap.size, 2, none⟩ = false := zOTAP.free 2; have hge : w3.heap.size ≤ wOT.heap.size := hBOT.size; have hBS := ((hBOTAP.setCell (p := ⟨wOT.heap.size, 0, none⟩) hge (.int .i64 r.kind)).setCell (p := ⟨wOT.heap.size, 1, none⟩) hge (.slice T1 r.labels.length U1)).setCell (p := ⟨wOT.heap.size, 2, none⟩) hge (.slice T2 r.args.length U2); have hzl := zOTA.lt; have HZ := Lib.hid zOTAP; have HACC := Lib.hid hBOTAP; clear hPOTAP) | (go_at_call 20; (with_reducible refine (HT.out _ (ha3.up hBOA)).mono ?_); rintro e wOAT ⟨vTOAT, rfl, hTOAT, hNOAT⟩; have hBOAT := hBOA.trans (hNOAT.mono hBOA.size); have zOAT := zOA.below hNOAT zOA.lt; have hTIOAT := OwnT.of hTOAT; have hOIOAT := hOIOA.up hNOAT) | (go_at_call 9; (with_reducible refine (HS.out _ _ _ (hTIOAT).here (hOIOAT).here).mono ?_); rintro e wOATP ⟨vPOATP, rfl, hPOATP, hNOATP⟩; have hBOATP := hBOAT.trans (hNOATP.mono hBOAT.size); have zOATP := zOAT.below hNOATP zOAT.lt; have HP := Lib.hid hPOATP; obtain ⟨T1, U1, T2, U2, _, rfl, _⟩ := hPOATP.open; have zc0 : wOATP.cell? ⟨wO.heap.size, 0, none⟩ = some (.int .i64 0) := zOATP.cell 0; have zf0 : wOATP.frozen? ⟨wO.heap.size, 0, none⟩ = false := zOATP.free 0; have zc1 : wOATP.cell? ⟨wO.heap.size, 1, none⟩ = some (.slice none 0 0) := zOATP.cell 1; have zf1 : wOATP.frozen? ⟨wO.heap.size, 1, none⟩ = false := zOATP.free 1; have zc2 : wOATP.cell? ⟨wO.heap.size, 2, none⟩ = some (.slice none 0 0) := zOATP.cell 2; have zf2 : wOATP.frozen? ⟨wO.heap.size, 2, none⟩ = false := zOATP.free 2; have hge : w3.heap.size ≤ wO.heap.size := hBO.size; have hBS := ((hBOATP.setCell (p := ⟨wO.heap.size, 0, none⟩) hge (.int .i64 r.kind)).setCell (p := ⟨wO.heap.size, 1, none⟩) hge (.slice T1 r.labels.length U1)).setCell (p := ⟨wO.heap.size, 2, none⟩) hge (.slice T2 r.args.length U2); have hzl := zOAT.lt; have HZ := Lib.hid zOATP; have HACC := Lib.hid hBOATP; clear hPOATP) | (go_at_call 20; (with_reducible refine (HT.out _ (ha3.up hDA)).mono ?_); rintro e wAT ⟨vTAT, rfl, hTAT, hNAT⟩; have hBAT := hDA.trans (hNAT.mono hDA.size); have zAT := zDA.below hNAT zDA.lt; have hTIAT := OwnT.of hTAT) | (go_at_call 21; (with_reducible refine (HO.out _ (hd3.up hBAT)).mono ?_); rintro e wATO ⟨vOATO, rfl, hOATO, hNATO⟩; have hBATO := hBAT.trans (hNATO.mono hBAT.size); have zATO := zAT.below hNATO zAT.lt; have hOIATO := OwnO.of hOATO; have hTIATO := hTIAT.up hNATO) | (go_at_call 9; (with_reducible refine (HS.out _ _ _ (hTIATO).here (hOIATO).here).mono ?_); rintro e wATOP ⟨vPATOP, rfl, hPATOP, hNATOP⟩; have hBATOP := hBATO.trans (hNATOP.mono hBATO.size); have zATOP := zATO.below hNATOP zATO.lt; have HP := Lib.hid hPATOP; obtain ⟨T1, U1, T2, U2, _, rfl, _⟩ := hPATOP.open; have zc0 : wATOP.cell? ⟨w3.heap.size, 0, none⟩ = some (.int .i64 0) := zATOP.cell 0; have zf0 : wATOP.frozen? ⟨w3.heap.size, 0, none⟩ = false := zATOP.free 0; have zc1 : wATOP.cell? ⟨w3.heap.size, 1, none⟩ = some (.slice none 0 0) := zATOP.cell 1; have zf1 : wATOP.frozen? ⟨w3.heap.size, 1, none⟩ = false := zATOP.free 1; have zc2 : wATOP.cell? ⟨w3.heap.size, 2, none⟩ = some (.slice none 0 0) := zATOP.cell 2; have zf2 : wATOP.frozen? ⟨w3.heap.size, 2, none⟩ = false := zATOP.free 2; have hge : w3.heap.size ≤ w3.heap.size := Nat.le_refl _; have hBS := ((hBATOP.setCell (p := ⟨w3.heap.size, 0, none⟩) hge (.int .i64 r.kind)).setCell (p := ⟨w3.heap.size, 1, none⟩) hge (.slice T1 r.labels.length U1)).setCell (p := ⟨w3.heap.size, 2, none⟩) hge (.slice T2 r.args.length U2); have hzl := zATO.lt; have HZ := Lib.hid zATOP; have HACC := Lib.hid hBATOP; clear hPATOP) | (go_at_call 21; (with_reducible refine (HO.out _ (hd3.up hDA)).mono ?_); rintro e wAO ⟨vOAO, rfl, hOAO, hNAO⟩; have hBAO := hDA.trans (hNAO.mono hDA.size); have zAO := zDA.below hNAO zDA.lt; have hOIAO := OwnO.of hOAO) | (go_at_call 20; (with_reducible refine (HT.out _ (ha3.up hBAO)).mono ?_); rintro e wAOT ⟨vTAOT, rfl, hTAOT, hNAOT⟩; have hBAOT := hBAO.trans (hNAOT.mono hBAO.size); have zAOT := zAO.below hNAOT zAO.lt; have hTIAOT := OwnT.of hTAOT; have hOIAOT := hOIAO.up hNAOT) | (go_at_call 9; (with_reducible refine (HS.out _ _ _ (hTIAOT).here (hOIAOT).here).mono ?_); rintro e wAOTP ⟨vPAOTP, rfl, hPAOTP, hNAOTP⟩; have hBAOTP := hBAOT.trans (hNAOTP.mono hBAOT.size); have zAOTP := zAOT.below hNAOTP zAOT.lt; have HP := Lib.hid hPAOTP; obtain ⟨T1, U1, T2, U2, _, rfl, _⟩ := hPAOTP.open; have zc0 : wAOTP.cell? ⟨w3.heap.size, 0, none⟩ = some (.int .i64 0) := zAOTP.cell 0; have zf0 : wAOTP.frozen? ⟨w3.heap.size, 0, none⟩ = false := zAOTP.free 0; have zc1 : wAOTP.cell? ⟨w3.heap.size, 1, none⟩ = some (.slice none 0 0) := zAOTP.cell 1; have zf1 : wAOTP.frozen? ⟨w3.heap.size, 1, none⟩ = false := zAOTP.free 1; have zc2 : wAOTP.cell? ⟨w3.heap.size, 2, none⟩ = some (.slice none 0 0) := zAOTP.cell 2; have zf2 : wAOTP.frozen? ⟨w3.heap.size, 2, none⟩ = false := zAOTP.free 2; have hge : w3.heap.size ≤ w3.heap.size := Nat.le_refl _; have hBS := ((hBAOTP.setCell (p := ⟨w3.heap.size, 0, none⟩) hge (.int .i64 r.kind)).setCell (p := ⟨w3.heap.size, 1, none⟩) hge (.slice T1 r.labels.length U1)).setCell (p := ⟨w3.heap.size, 2, none⟩) hge (.slice T2 r.args.length U2); have hzl := zAOT.lt; have HZ := Lib.hid zAOTP; have HACC := Lib.hid hBAOTP; clear hPAOTP))
        all_goals go_wp2
        all_goals go_meet
        all_goals first | exact ⟨_, T1, U1, T2, U2, rfl, rfl, rfl, Got.late HP.out hBTO.size HACC.out⟩ | exact ⟨_, T1, U1, T2, U2, rfl, rfl, rfl, Got.early HP.out hzl hge HZ.out rfl HACC.out⟩ | exact ⟨_, T1, U1, T2, U2, rfl, rfl, rfl, Got.late HP.out hBOT.size HACC.out⟩
      case rest =>
        obtain ⟨zW, TW1, UW1, TW2, UW2, rfl, rfl, rfl, hG⟩ := hcut
        have hw4 : wc = wc := rfl
        clear hw4
        clear hD hDA zDA KS t_0 t_1 t_2 t_3 t_4 t_5 t_6
        have hb4 := hG.below
        have bW4 := hG.box
        have hW_in := hG.tree
        have hW_ge := hG.apart
        have hW_lt := hG.box.lt
        clear hG
        generalize wc = w4 at *
        have cb4 := cb3.trans (hb4.mono cb3.size)
        have sz4 := hb4.size
        have bp4 := bp3.below hb4 bp3.lt
        have bq4 := bq3.below hb4 bq3.lt
        clear bp3 bq3
        clear ha3 hd3 hU3 hJ3
        have hwT := hW_in.here
        have kW4 : Below w4.heap.size w4 w4 := Below.refl _ _
        clear hW_in
        have cp0 : w4.cell? ⟨w.heap.size, 0, none⟩ = some (.int .i64 t.kind) := bp4.cell 0
        have cp1 : w4.cell? ⟨w.heap.size, 1, none⟩ = some (.slice L0 t.labels.length l0) := bp4.cell 1
        have cp2 : w4.cell? ⟨w.heap.size, 2, none⟩ = some (.slice A0 t.args.length a0) := bp4.cell 2
        go_wp2_with fail
        clear cp0 cp1 cp2
        refine (HT.out w4 ((ha0.lift cb4).more cb4.size)).mono ?_
        rintro e w5 ⟨u3, rfl, xI5, hb5⟩
        have cb5 := cb4.trans (hb5.mono cb4.size)
        have sz5 := hb5.size
        have bp5 := bp4.below hb5 bp4.lt
        have bq5 := bq4.below hb5 bq4.lt
        have bW5 := bW4.below hb5 bW4.lt
        have kW5 := kW4.trans (hb5.mono kW4.size)
        clear bp4 bq4 bW4 kW4
        obtain ⟨L3, l3, A3, a3, _, rfl, _⟩ := xI5.open
        have xO5 := OwnT.of xI5
        obtain ⟨hb6, bX6, hz6⟩ := boxes1 w5 27 #[.int .i64 t.kind, .slice L3 t.labels.length l3, .slice A3 t.args.length a3]
        have dq := bq5.below hb6 bq5.lt
        have cq0 : (w5.alloc (.cells #[.int .i64 t.kind, .slice L3 t.labels.length l3, .slice A3 t.args.length a3] 27)).cell? ⟨w.heap.size + 1, 0, none⟩ = some (.int .i64 t'.kind) := dq.cell 0
        have cq1 : (w5.alloc (.cells #[.int .i64 t.kind, .slice L3 t.labels.length l3, .slice A3 t.args.length a3] 27)).cell? ⟨w.heap.size + 1, 1, none⟩ = some (.string t'.name) := dq.cell 1
        have cq2 : (w5.alloc (.cells #[.int .i64 t.kind, .slice L3 t.labels.length l3, .slice A3 t.args.length a3] 27)).cell? ⟨w.heap.size + 1, 2, none⟩ = some (.int .i64 t'.num) := dq.cell 2
        have cq3 : (w5.alloc (.cells #[.int .i64 t.kind, .slice L3 t.labels.length l3, .slice A3 t.args.length a3] 27)).cell? ⟨w.heap.size + 1, 3, none⟩ = some (.slice A1 t'.args.length a1) := dq.cell 3
        go_wp2_with fail
        clear dq cq0 cq1 cq2 cq3
        generalize w5.alloc (.cells #[.int .i64 t.kind, .slice L3 t.labels.length l3, .slice A3 t.args.length a3] 27) = w6 at *
        have zz6 : w5.heap.size < w6.heap.size := by omega
        clear hz6
        have cb6 := cb5.trans (hb6.mono cb5.size)
        have sz6 := hb6.size
        have bp6 := bp5.below hb6 bp5.lt
        have bq6 := bq5.below hb6 bq5.lt
        have bW6 := bW5.below hb6 bW5.lt
        have kW6 := kW5.trans (hb6.mono kW5.size)
        have xI6 := xI5.keep (fun q _ hq => hb6.block q hq)
        have xO6 := xO5.up hb6
        clear bp5 bq5 bW5 kW5 xI5 xO5
        refine (HO.out w6 ((hd0.lift cb6).more cb6.size)).mono ?_
        rintro e w7 ⟨u4, rfl, yI7, hb7⟩
        have cb7 := cb6.trans (hb7.mono cb6.size)
        have sz7 := hb7.size
        have bp7 := bp6.below hb7 bp6.lt
        have bq7 := bq6.below hb7 bq6.lt
        have bW7 := bW6.below hb7 bW6.lt
        have kW7 := kW6.trans (hb7.mono kW6.size)
        have xI7 := xI6.keep (fun q _ hq => hb7.block q hq)
        have xO7 := xO6.up hb7
        have bX7 := bX6.below hb7 bX6.lt
        clear bp6 bq6 bW6 kW6 xI6 xO6 bX6
        obtain ⟨A4, a4, rfl, _⟩ := yI7.open
        have yO7 := OwnO.of yI7
        obtain ⟨hb8, bY8, hz8⟩ := boxes1 w7 30 #[.int .i64 t'.kind, .string t'.name, .int .i64 t'.num, .slice A4 t'.args.length a4]
        have dX := bX7.below hb8 bX7.lt
        have cX0 : (w7.alloc (.cells #[.int .i64 t'.kind, .string t'.name, .int .i64 t'.num, .slice A4 t'.args.length a4] 30)).cell? ⟨w5.heap.size, 0, none⟩ = some (.int .i64 t.kind) := dX.cell 0
        have cX1 : (w7.alloc (.cells #[.int .i64 t'.kind, .string t'.name, .int .i64 t'.num, .slice A4 t'.args.length a4] 30)).cell? ⟨w5.heap.size, 1, none⟩ = some (.slice L3 t.labels.length l3) := dX.cell 1
        have cX2 : (w7.alloc (.cells #[.int .i64 t'.kind, .string t'.name, .int .i64 t'.num, .slice A4 t'.args.length a4] 30)).cell? ⟨w5.heap.size, 2, none⟩ = some (.slice A3 t.args.length a3) := dX.cell 2
        go_wp2_with fail
        clear dX cX0 cX1 cX2
        generalize w7.alloc (.cells #[.int .i64 t'.kind, .string t'.name, .int .i64 t'.num, .slice A4 t'.args.length a4] 30) = w8 at *
        have zz8 : w7.heap.size < w8.heap.size := by omega
        clear hz8
        have cb8 := cb7.trans (hb8.mono cb7.size)
        have sz8 := hb8.size
        have bp8 := bp7.below hb8 bp7.lt
        have bq8 := bq7.below hb8 bq7.lt
        have bW8 := bW7.below hb8 bW7.lt
        have kW8 := kW7.trans (hb8.mono kW7.size)
        have xI8 := xI7.keep (fun q _ hq => hb8.block q hq)
        have xO8 := xO7.up hb8
        have bX8 := bX7.below hb8 bX7.lt
        have yI8 := yI7.keep (fun q _ hq => hb8.block q hq)
        have yO8 := yO7.up hb8
        clear bp7 bq7 bW7 kW7 xI7 xO7 bX7 yI7 yO7
        refine (HI.out _ _ w8 xO8 yO8 (hU0.below cb8) (hJ0.below cb8)).mono ?_
        rintro e w9 ⟨u5, rfl, gI9, hb9⟩
        have cb9 := cb8.trans (hb9.mono cb8.size)
        have sz9 := hb9.size
        have bp9 := bp8.below hb9 bp8.lt
        have bq9 := bq8.below hb9 bq8.lt
        have bW9 := bW8.below hb9 bW8.lt
        have kW9 := kW8.trans (hb9.mono kW8.size)
        have xI9 := xI8.keep (fun q _ hq => hb9.block q hq)
        have xO9 := xO8.up hb9
        have bX9 := bX8.below hb9 bX8.lt
        have yI9 := yI8.keep (fun q _ hq => hb9.block q hq)
        have yO9 := yO8.up hb9
        have bY9 := bY8.below hb9 bY8.lt
        clear bp8 bq8 bW8 kW8 xI8 xO8 bX8 yI8 yO8 bY8
        clear xO9 yO9
        obtain ⟨L5, l5, A5, a5, _, rfl, _⟩ := gI9.open
        obtain ⟨hb10, bG10, hz10⟩ := boxes1 w9 27 #[.int .i64 r.kind, .slice L5 r.labels.length l5, .slice A5 r.args.length a5]
        have dW := bW9.below hb10 bW9.lt
        have cW0 : (w9.alloc (.cells #[.int .i64 r.kind, .slice L5 r.labels.length l5, .slice A5 r.args.length a5] 27)).cell? ⟨zW, 0, none⟩ = some (.int .i64 r.kind) := dW.cell 0
        have cW1 : (w9.alloc (.cells #[.int .i64 r.kind, .slice L5 r.labels.length l5, .slice A5 r.args.length a5] 27)).cell? ⟨zW, 1, none⟩ = some (.slice TW1 r.labels.length UW1) := dW.cell 1
        have cW2 : (w9.alloc (.cells #[.int .i64 r.kind, .slice L5 r.labels.length l5, .slice A5 r.args.length a5] 27)).cell? ⟨zW, 2, none⟩ = some (.slice TW2 r.args.length UW2) := dW.cell 2
        go_wp2_with fail
        clear dW cW0 cW1 cW2
        generalize w9.alloc (.cells #[.int .i64 r.kind, .slice L5 r.labels.length l5, .slice A5 r.args.length a5] 27) = w10 at *
        have zz10 : w9.heap.size < w10.heap.size := by omega
        clear hz10
        have cb10 := cb9.trans (hb10.mono cb9.size)
        have sz10 := hb10.size
        have bp10 := bp9.below hb10 bp9.lt
        have bq10 := bq9.below hb10 bq9.lt
        have bW10 := bW9.below hb10 bW9.lt
        have kW10 := kW9.trans (hb10.mono kW9.size)
        have xI10 := xI9.keep (fun q _ hq => hb10.block q hq)
        have bX10 := bX9.below hb10 bX9.lt
        have yI10 := yI9.keep (fun q _ hq => hb10.block q hq)
        have bY10 := bY9.below hb10 bY9.lt
        have gI10 := gI9.keep (fun q _ hq => hb10.block q hq)
        clear bp9 bq9 bW9 kW9 xI9 bX9 yI9 bY9 gI9
        refine (HEr.out _ _ w10 gI10.here ((hwT.lift kW10).more kW10.size)).mono ?_
        rintro e w11 ⟨rfl, hb11⟩
        have cb11 := cb10.trans (hb11.mono cb10.size)
        have sz11 := hb11.size
        have bp11 := bp10.below hb11 bp10.lt
        have bq11 := bq10.below hb11 bq10.lt
        have bW11 := bW10.below hb11 bW10.lt
        have kW11 := kW10.trans (hb11.mono kW10.size)
        have xI11 := xI10.keep (fun q _ hq => hb11.block q hq)
        have bX11 := bX10.below hb11 bX10.lt
        have yI11 := yI10.keep (fun q _ hq => hb11.block q hq)
        have bY11 := bY10.below hb11 bY10.lt
        have gI11 := gI10.keep (fun q _ hq => hb11.block q hq)
        have bG11 := bG10.below hb11 bG10.lt
        clear bp10 bq10 bW10 kW10 xI10 bX10 yI10 bY10 gI10 bG10
        have cX0 : w11.cell? ⟨w5.heap.size, 0, none⟩ = some (.int .i64 t.kind) := bX11.cell 0
        have cX1 : w11.cell? ⟨w5.heap.size, 1, none⟩ = some (.slice L3 t.labels.length l3) := bX11.cell 1
        have cX2 : w11.cell? ⟨w5.heap.size, 2, none⟩ = some (.slice A3 t.args.length a3) := bX11.cell 2
        have cp0 : w11.cell? ⟨w.heap.size, 0, none⟩ = some (.int .i64 t.kind) := bp11.cell 0
        have cp1 : w11.cell? ⟨w.heap.size, 1, none⟩ = some (.slice L0 t.labels.length l0) := bp11.cell 1
        have cp2 : w11.cell? ⟨w.heap.size, 2, none⟩ = some (.slice A0 t.args.length a0) := bp11.cell 2
        have hlX := bX11.lt
        have hlp := bp11.lt
        go_wp2_with fail
        go_region_held3 (fun x => x.cell? ⟨w5.heap.size, 0, none⟩ = some (.int .i64 t.kind) ∧ x.cell? ⟨w5.heap.size, 1, none⟩ = some (.slice L3 t.labels.length l3) ∧ x.cell? ⟨w5.heap.size, 2, none⟩ = some (.slice A3 t.args.length a3) ∧ x.cell? ⟨w.heap.size, 0, none⟩ = some (.int .i64 t.kind) ∧ x.cell? ⟨w.heap.size, 1, none⟩ = some (.slice L0 t.labels.length l0) ∧ x.cell? ⟨w.heap.size, 2, none⟩ = some (.slice A0 t.args.length a0) ∧ Below w11.heap.size w11 x) ((first | exact ⟨cX0, cX1, cX2, cp0, cp1, cp2, (Below.refl _ _).drew⟩ | exact ⟨r0_0, r0_1, r0_2, r0_3, r0_4, r0_5, hR0⟩ | exact ⟨r1_0, r1_1, r1_2, r1_3, r1_4, r1_5, hb12⟩))
          (first | (go_at_call 20; refine (HT.out _ (((ha0.lift cb11).more cb11.size).up (Below.refl w11.heap.size w11).drew)).mono ?_; rintro e wR0 ⟨v1, rfl, hv1, hN0⟩; have hR0 := (Below.refl w11.heap.size w11).drew.trans (hN0.mono (Below.refl w11.heap.size w11).drew.size); have r0_0 := (hR0.cell (p := ⟨w5.heap.size, 0, none⟩) hlX).trans cX0; have r0_1 := (hR0.cell (p := ⟨w5.heap.size, 1, none⟩) hlX).trans cX1; have r0_2 := (hR0.cell (p := ⟨w5.heap.size, 2, none⟩) hlX).trans cX2; have r0_3 := (hR0.cell (p := ⟨w.heap.size, 0, none⟩) hlp).trans cp0; have r0_4 := (hR0.cell (p := ⟨w.heap.size, 1, none⟩) hlp).trans cp1; have r0_5 := (hR0.cell (p := ⟨w.heap.size, 2, none⟩) hlp).trans cp2) | (go_at_call 22; refine (HEt.out _ v1 _ (xI11.here.up hR0) hv1.here).mono ?_; rintro e w12 ⟨rfl, hN1⟩; have hb12 := hR0.trans (hN1.mono hR0.size); have r1_0 := (hb12.cell (p := ⟨w5.heap.size, 0, none⟩) hlX).trans cX0; have r1_1 := (hb12.cell (p := ⟨w5.heap.size, 1, none⟩) hlX).trans cX1; have r1_2 := (hb12.cell (p := ⟨w5.heap.size, 2, none⟩) hlX).trans cX2; have r1_3 := (hb12.cell (p := ⟨w.heap.size, 0, none⟩) hlp).trans cp0; have r1_4 := (hb12.cell (p := ⟨w.heap.size, 1, none⟩) hlp).trans cp1; have r1_5 := (hb12.cell (p := ⟨w.heap.size, 2, none⟩) hlp).trans cp2))
        clear cX0 cX1 cX2 cp0 cp1 cp2
        have cb12 := cb11.trans (hb12.mono cb11.size)
        have sz12 := hb12.size
        have bp12 := bp11.below hb12 bp11.lt
        have bq12 := bq11.below hb12 bq11.lt
        have bW12 := bW11.below hb12 bW11.lt
        have kW12 := kW11.trans (hb12.mono kW11.size)
        have xI12 := xI11.keep (fun q _ hq => hb12.block q hq)
        have bX12 := bX11.below hb12 bX11.lt
        have yI12 := yI11.keep (fun q _ hq => hb12.block q hq)
        have bY12 := bY11.below hb12 bY11.lt
        have gI12 := gI11.keep (fun q _ hq => hb12.block q hq)
        have bG12 := bG11.below hb12 bG11.lt
        clear bp11 bq11 bW11 kW11 xI11 bX11 yI11 bY11 gI11 bG11
        clear hv1
        have cY0 : w12.cell? ⟨w7.heap.size, 0, none⟩ = some (.int .i64 t'.kind) := bY12.cell 0
        have cY1 : w12.cell? ⟨w7.heap.size, 1, none⟩ = some (.string t'.name) := bY12.cell 1
        have cY2 : w12.cell? ⟨w7.heap.size, 2, none⟩ = some (.int .i64 t'.num) := bY12.cell 2
        have cY3 : w12.cell? ⟨w7.heap.size, 3, none⟩ = some (.slice A4 t'.args.length a4) := bY12.cell 3
        have cq0 : w12.cell? ⟨w.heap.size + 1, 0, none⟩ = some (.int .i64 t'.kind) := bq12.cell 0
        have cq1 : w12.cell? ⟨w.heap.size + 1, 1, none⟩ = some (.string t'.name) := bq12.cell 1
        have cq2 : w12.cell? ⟨w.heap.size + 1, 2, none⟩ = some (.int .i64 t'.num) := bq12.cell 2
        have cq3 : w12.cell? ⟨w.heap.size + 1, 3, none⟩ = some (.slice A1 t'.args.length a1) := bq12.cell 3
        have hlY := bY12.lt
        have hlq := bq12.lt
        go_wp2_with fail
        go_region_held3 (fun x => x.cell? ⟨w7.heap.size, 0, none⟩ = some (.int .i64 t'.kind) ∧ x.cell? ⟨w7.heap.size, 1, none⟩ = some (.string t'.name) ∧ x.cell? ⟨w7.heap.size, 2, none⟩ = some (.int .i64 t'.num) ∧ x.cell? ⟨w7.heap.size, 3, none⟩ = some (.slice A4 t'.args.length a4) ∧ x.cell? ⟨w.heap.size + 1, 0, none⟩ = some (.int .i64 t'.kind) ∧ x.cell? ⟨w.heap.size + 1, 1, none⟩ = some (.string t'.name) ∧ x.cell? ⟨w.heap.size + 1, 2, none⟩ = some (.int .i64 t'.num) ∧ x.cell? ⟨w.heap.size + 1, 3, none⟩ = some (.slice A1 t'.args.length a1) ∧ Below w12.heap.size w12 x) ((first | exact ⟨cY0, cY1, cY2, cY3, cq0, cq1, cq2, cq3, (Below.refl _ _).drew⟩ | exact ⟨r0_0, r0_1, r0_2, r0_3, r0_4, r0_5, r0_6, r0_7, hR0⟩ | exact ⟨r1_0, r1_1, r1_2, r1_3, r1_4, r1_5, r1_6, r1_7, hb13⟩))
          (first | (go_at_call 21; refine (HO.out _ (((hd0.lift cb12).more cb12.size).up (Below.refl w12.heap.size w12).drew)).mono ?_; rintro e wR0 ⟨v1, rfl, hv1, hN0⟩; have hR0 := (Below.refl w12.heap.size w12).drew.trans (hN0.mono (Below.refl w12.heap.size w12).drew.size); have r0_0 := (hR0.cell (p := ⟨w7.heap.size, 0, none⟩) hlY).trans cY0; have r0_1 := (hR0.cell (p := ⟨w7.heap.size, 1, none⟩) hlY).trans cY1; have r0_2 := (hR0.cell (p := ⟨w7.heap.size, 2, none⟩) hlY).trans cY2; have r0_3 := (hR0.cell (p := ⟨w7.heap.size, 3, none⟩) hlY).trans cY3; have r0_4 := (hR0.cell (p := ⟨w.heap.size + 1, 0, none⟩) hlq).trans cq0; have r0_5 := (hR0.cell (p := ⟨w.heap.size + 1, 1, none⟩) hlq).trans cq1; have r0_6 := (hR0.cell (p := ⟨w.heap.size + 1, 2, none⟩) hlq).trans cq2; have r0_7 := (hR0.cell (p := ⟨w.heap.size + 1, 3, none⟩) hlq).trans cq3) | (go_at_call 23; refine (HEo.out _ v1 _ (yI12.here.up hR0) hv1.here).mono ?_; rintro e w13 ⟨rfl, hN1⟩; have hb13 := hR0.trans (hN1.mono hR0.size); have r1_0 := (hb13.cell (p := ⟨w7.heap.size, 0, none⟩) hlY).trans cY0; have r1_1 := (hb13.cell (p := ⟨w7.heap.size, 1, none⟩) hlY).trans cY1; have r1_2 := (hb13.cell (p := ⟨w7.heap.size, 2, none⟩) hlY).trans cY2; have r1_3 := (hb13.cell (p := ⟨w7.heap.size, 3, none⟩) hlY).trans cY3; have r1_4 := (hb13.cell (p := ⟨w.heap.size + 1, 0, none⟩) hlq).trans cq0; have r1_5 := (hb13.cell (p := ⟨w.heap.size + 1, 1, none⟩) hlq).trans cq1; have r1_6 := (hb13.cell (p := ⟨w.heap.size + 1, 2, none⟩) hlq).trans cq2; have r1_7 := (hb13.cell (p := ⟨w.heap.size + 1, 3, none⟩) hlq).trans cq3))
        clear cY0 cY1 cY2 cY3 cq0 cq1 cq2 cq3
        have cb13 := cb12.trans (hb13.mono cb12.size)
        have sz13 := hb13.size
        have bp13 := bp12.below hb13 bp12.lt
        have bq13 := bq12.below hb13 bq12.lt
        have bW13 := bW12.below hb13 bW12.lt
        have kW13 := kW12.trans (hb13.mono kW12.size)
        have xI13 := xI12.keep (fun q _ hq => hb13.block q hq)
        have bX13 := bX12.below hb13 bX12.lt
        have yI13 := yI12.keep (fun q _ hq => hb13.block q hq)
        have bY13 := bY12.below hb13 bY12.lt
        have gI13 := gI12.keep (fun q _ hq => hb13.block q hq)
        have bG13 := bG12.below hb13 bG12.lt
        clear bp12 bq12 bW12 kW12 xI12 bX12 yI12 bY12 gI12 bG12
        clear hv1
        have cX0 : w13.cell? ⟨w5.heap.size, 0, none⟩ = some (.int .i64 t.kind) := bX13.cell 0
        have cX1 : w13.cell? ⟨w5.heap.size, 1, none⟩ = some (.slice L3 t.labels.length l3) := bX13.cell 1
        have cX2 : w13.cell? ⟨w5.heap.size, 2, none⟩ = some (.slice A3 t.args.length a3) := bX13.cell 2
        go_wp2_with fail
        clear cX0 cX1 cX2
        refine (markType_any t _ _ 1 w13 xI13 (by omega) (by omega) (fun q hq => by have := hq.2; omega)).mono ?_
        rintro e w14 ⟨rfl, _, ho14⟩
        have sz14 := ho14.size
        have cb14 := OnlyIn.below cb13 ho14 cb13.size (fun q hq => by have := hq.1; omega)
        have bp14 : Whole1 w14 (w.heap.size) _ _ := (ho14.block (w.heap.size) bp13.lt (fun h => by have := h.1; have := h.2; omega)).trans bp13
        have bq14 : Whole1 w14 (w.heap.size + 1) _ _ := (ho14.block (w.heap.size + 1) bq13.lt (fun h => by have := h.1; have := h.2; omega)).trans bq13
        have bW14 : Whole1 w14 (zW) _ _ := (ho14.block (zW) bW13.lt (fun h => by have := h.1; have := h.2; omega)).trans bW13
        have bG14 : Whole1 w14 (w9.heap.size) _ _ := (ho14.block (w9.heap.size) bG13.lt (fun h => by have := h.1; have := h.2; omega)).trans bG13
        have bY14 : Whole1 w14 (w7.heap.size) _ _ := (ho14.block (w7.heap.size) bY13.lt (fun h => by have := h.1; have := h.2; omega)).trans bY13
        have gI14 := gI13.keep (fun q hq hlt => ho14.block q hlt (fun h => by have := hq.1; have := hq.2; have := h.1; have := h.2; omega))
        have yI14 := yI13.keep (fun q hq hlt => ho14.block q hlt (fun h => by have := hq.1; have := hq.2; have := h.1; have := h.2; omega))
        have kW14 := OnlyIn.below kW13 ho14 kW13.size (fun q hq => by have := hq.1; omega)
        clear bp13 bq13 bW13 kW13 xI13 bX13 yI13 bY13 gI13 bG13
        have cY0 : w14.cell? ⟨w7.heap.size, 0, none⟩ = some (.int .i64 t'.kind) := bY14.cell 0
        have cY1 : w14.cell? ⟨w7.heap.size, 1, none⟩ = some (.string t'.name) := bY14.cell 1
        have cY2 : w14.cell? ⟨w7.heap.size, 2, none⟩ = some (.int .i64 t'.num) := bY14.cell 2
        have cY3 : w14.cell? ⟨w7.heap.size, 3, none⟩ = some (.slice A4 t'.args.length a4) := bY14.cell 3
        go_wp2_with fail
        clear cY0 cY1 cY2 cY3
        refine (markOptic_any t' _ _ (1 + cntTy t) w14 yI14 (by omega) (by omega)).mono ?_
        rintro e w15 ⟨rfl, _, ho15⟩
        have sz15 := ho15.size
        have cb15 := OnlyIn.below cb14 ho15 cb14.size (fun q hq => by have := hq.1; omega)
        have bp15 : Whole1 w15 (w.heap.size) _ _ := (ho15.block (w.heap.size) bp14.lt (fun h => by have := h.1; have := h.2; omega)).trans bp14
        have bq15 : Whole1 w15 (w.heap.size + 1) _ _ := (ho15.block (w.heap.size + 1) bq14.lt (fun h => by have := h.1; have := h.2; omega)).trans bq14
        have bW15 : Whole1 w15 (zW) _ _ := (ho15.block (zW) bW14.lt (fun h => by have := h.1; have := h.2; omega)).trans bW14
        have bG15 : Whole1 w15 (w9.heap.size) _ _ := (ho15.block (w9.heap.size) bG14.lt (fun h => by have := h.1; have := h.2; omega)).trans bG14
        have gI15 := gI14.keep (fun q hq hlt => ho15.block q hlt (fun h => by have := hq.1; have := hq.2; have := h.1; have := h.2; omega))
        have kW15 := OnlyIn.below kW14 ho15 kW14.size (fun q hq => by have := hq.1; omega)
        clear bp14 bq14 bW14 bG14 bY14 gI14 yI14 kW14
        have cG0 : w15.cell? ⟨w9.heap.size, 0, none⟩ = some (.int .i64 r.kind) := bG15.cell 0
        have cG1 : w15.cell? ⟨w9.heap.size, 1, none⟩ = some (.slice L5 r.labels.length l5) := bG15.cell 1
        have cG2 : w15.cell? ⟨w9.heap.size, 2, none⟩ = some (.slice A5 r.args.length a5) := bG15.cell 2
        have cW0 : w15.cell? ⟨zW, 0, none⟩ = some (.int .i64 r.kind) := bW15.cell 0
        have cW1 : w15.cell? ⟨zW, 1, none⟩ = some (.slice TW1 r.labels.length UW1) := bW15.cell 1
        have cW2 : w15.cell? ⟨zW, 2, none⟩ = some (.slice TW2 r.args.length UW2) := bW15.cell 2
        go_wp2_with fail
        clear cG0 cG1 cG2 cW0 cW1 cW2
        refine (HEr.out _ _ w15 gI15.here ((hwT.lift kW15).more kW15.size)).mono ?_
        rintro e w16 ⟨rfl, hb16⟩
        have cb16 := cb15.trans (hb16.mono cb15.size)
        have sz16 := hb16.size
        have bp16 := bp15.below hb16 bp15.lt
        have bq16 := bq15.below hb16 bq15.lt
        have bW16 := bW15.below hb16 bW15.lt
        have bG16 := bG15.below hb16 bG15.lt
        have gI16 := gI15.keep (fun q _ hq => hb16.block q hq)
        have kW16 := kW15.trans (hb16.mono kW15.size)
        clear bp15 bq15 bW15 bG15 gI15 kW15
        have cG0 : w16.cell? ⟨w9.heap.size, 0, none⟩ = some (.int .i64 r.kind) := bG16.cell 0
        have cG1 : w16.cell? ⟨w9.heap.size, 1, none⟩ = some (.slice L5 r.labels.length l5) := bG16.cell 1
        have cG2 : w16.cell? ⟨w9.heap.size, 2, none⟩ = some (.slice A5 r.args.length a5) := bG16.cell 2
        go_wp2_with fail
        clear cG0 cG1 cG2
        refine (markType_any r _ _ 1 w16 gI16 (by omega) (by omega) (fun q hq => by have := hq.2; omega)).mono ?_
        rintro e w17 ⟨rfl, gM17, ho17⟩
        have sz17 := ho17.size
        have cb17 := OnlyIn.below cb16 ho17 cb16.size (fun q hq => by have := hq.1; omega)
        have bp17 : Whole1 w17 (w.heap.size) _ _ := (ho17.block (w.heap.size) bp16.lt (fun h => by have := h.1; have := h.2; omega)).trans bp16
        have bq17 : Whole1 w17 (w.heap.size + 1) _ _ := (ho17.block (w.heap.size + 1) bq16.lt (fun h => by have := h.1; have := h.2; omega)).trans bq16
        have bW17 : Whole1 w17 (zW) _ _ := (ho17.block (zW) bW16.lt (fun h => by have := h.1; have := h.2; omega)).trans bW16
        have bG17 : Whole1 w17 (w9.heap.size) _ _ := (ho17.block (w9.heap.size) bG16.lt (fun h => by have := h.1; have := h.2; omega)).trans bG16
        have kW17 := OnlyIn.below kW16 ho17 kW16.size (fun q hq => by have := hq.1; omega)
        clear bp16 bq16 bW16 bG16 gI16 kW16
        have cG0 : w17.cell? ⟨w9.heap.size, 0, none⟩ = some (.int .i64 r.kind) := bG17.cell 0
        have cG1 : w17.cell? ⟨w9.heap.size, 1, none⟩ = some (.slice L5 r.labels.length l5) := bG17.cell 1
        have cG2 : w17.cell? ⟨w9.heap.size, 2, none⟩ = some (.slice A5 r.args.length a5) := bG17.cell 2
        go_wp2_with fail
        clear cG0 cG1 cG2
        refine (heldType_any r _ 1 w17 gM17.here (by omega) (by omega)).mono ?_
        rintro e w18 ⟨rfl, hb18⟩
        have cb18 := cb17.trans (hb18.mono cb17.size)
        have sz18 := hb18.size
        have bp18 := bp17.below hb18 bp17.lt
        have bq18 := bq17.below hb18 bq17.lt
        have bW18 := bW17.below hb18 bW17.lt
        have bG18 := bG17.below hb18 bG17.lt
        have kW18 := kW17.trans (hb18.mono kW17.size)
        have gM18 := gM17.keep (fun q _ hq => hb18.block q hq)
        clear bp17 bq17 bW17 bG17 kW17 gM17
        have ha18 := ((ha0.lift cb18).more cb18.size)
        have hd18 := ((hd0.lift cb18).more cb18.size)
        have hU18 := hU0.below cb18
        have hJ18 := hJ0.below cb18
        have cp0 : w18.cell? ⟨w.heap.size, 0, none⟩ = some (.int .i64 t.kind) := bp18.cell 0
        have cp1 : w18.cell? ⟨w.heap.size, 1, none⟩ = some (.slice L0 t.labels.length l0) := bp18.cell 1
        have cp2 : w18.cell? ⟨w.heap.size, 2, none⟩ = some (.slice A0 t.args.length a0) := bp18.cell 2
        have cq0 : w18.cell? ⟨w.heap.size + 1, 0, none⟩ = some (.int .i64 t'.kind) := bq18.cell 0
        have cq1 : w18.cell? ⟨w.heap.size + 1, 1, none⟩ = some (.string t'.name) := bq18.cell 1
        have cq2 : w18.cell? ⟨w.heap.size + 1, 2, none⟩ = some (.int .i64 t'.num) := bq18.cell 2
        have cq3 : w18.cell? ⟨w.heap.size + 1, 3, none⟩ = some (.slice A1 t'.args.length a1) := bq18.cell 3
        have hlp := bp18.lt
        have hlq := bq18.lt
        have KS := Lib.hid (fun (x : World) (hx : Below w18.heap.size w18 x) => (show x.cell? ⟨w.heap.size, 0, none⟩ = some (.int .i64 t.kind) ∧ x.cell? ⟨w.heap.size, 1, none⟩ = some (.slice L0 t.labels.length l0) ∧ x.cell? ⟨w.heap.size, 2, none⟩ = some (.slice A0 t.args.length a0) ∧ x.cell? ⟨w.heap.size + 1, 0, none⟩ = some (.int .i64 t'.kind) ∧ x.cell? ⟨w.heap.size + 1, 1, none⟩ = some (.string t'.name) ∧ x.cell? ⟨w.heap.size + 1, 2, none⟩ = some (.int .i64 t'.num) ∧ x.cell? ⟨w.heap.size + 1, 3, none⟩ = some (.slice A1 t'.args.length a1) from ⟨(hx.cell (p := ⟨w.heap.size, 0, none⟩) hlp).trans cp0, (hx.cell (p := ⟨w.heap.size, 1, none⟩) hlp).trans cp1, (hx.cell (p := ⟨w.heap.size, 2, none⟩) hlp).trans cp2, (hx.cell (p := ⟨w.heap.size + 1, 0, none⟩) hlq).trans cq0, (hx.cell (p := ⟨w.heap.size + 1, 1, none⟩) hlq).trans cq1, (hx.cell (p := ⟨w.heap.size + 1, 2, none⟩) hlq).trans cq2, (hx.cell (p := ⟨w.heap.size + 1, 3, none⟩) hlq).trans cq3⟩))
        have hD := (Below.refl w18.heap.size w18).drew
        have hDA := ((Below.refl w18.heap.size w18).alloc (Nat.le_refl _) (.cells #[.int .i64 0, .slice none 0 0, .slice none 0 0] 27)).drew
        have zDA : Whole1 (w18.alloc (.cells #[.int .i64 0, .slice none 0 0, .slice none 0 0] 27)).drew w18.heap.size 27 #[.int .i64 0, .slice none 0 0, .slice none 0 0] := Whole1.new w18 27 #[.int .i64 0, .slice none 0 0, .slice none 0 0]
        have t_0 : w18.drew.cell? ⟨w.heap.size, 0, none⟩ = some (.int .i64 t.kind) := cp0
        have t_1 : w18.drew.cell? ⟨w.heap.size, 1, none⟩ = some (.slice L0 t.labels.length l0) := cp1
        have t_2 : w18.drew.cell? ⟨w.heap.size, 2, none⟩ = some (.slice A0 t.args.length a0) := cp2
        have t_3 : w18.drew.cell? ⟨w.heap.size + 1, 0, none⟩ = some (.int .i64 t'.kind) := cq0
        have t_4 : w18.drew.cell? ⟨w.heap.size + 1, 1, none⟩ = some (.string t'.name) := cq1
        have t_5 : w18.drew.cell? ⟨w.heap.size + 1, 2, none⟩ = some (.int .i64 t'.num) := cq2
        have t_6 : w18.drew.cell? ⟨w.heap.size + 1, 3, none⟩ = some (.slice A1 t'.args.length a1) := cq3
        clear cp0 cp1 cp2 cq0 cq1 cq2 cq3
        go_upto_region 31 with fail
        go_cut [17, 18, 19] from 109 to 118 (fun p k o wx => ∃ z T1 U1 T2 U2, p = .pointer (some ⟨z, 0, none⟩) ∧ k = .int .i64 kd ∧ o = .bool ok ∧ Got w18 wx z T1 T2 U1 U2 r)
        case first =>
          go_region_held3 (fun x : World => x.cell? ⟨w.heap.size, 0, none⟩ = some (.int .i64 t.kind) ∧ x.cell? ⟨w.heap.size, 1, none⟩ = some (.slice L0 t.labels.length l0) ∧ x.cell? ⟨w.heap.size, 2, none⟩ = some (.slice A0 t.args.length a0) ∧ x.cell? ⟨w.heap.size + 1, 0, none⟩ = some (.int .i64 t'.kind) ∧ x.cell? ⟨w.heap.size + 1, 1, none⟩ = some (.string t'.name) ∧ x.cell? ⟨w.heap.size + 1, 2, none⟩ = some (.int .i64 t'.num) ∧ x.cell? ⟨w.heap.size + 1, 3, none⟩ = some (.slice A1 t'.args.length a1)) ((first | (with_reducible exact KS.out _ hD) | (with_reducible exact KS.out _ hDA) | (with_reducible exact KS.out _ hBTA) | (with_reducible exact KS.out _ hBT) | (with_reducible exact KS.out _ hBTOA) | (with_reducible exact KS.out _ hBTO) | (with_reducible exact KS.out _ hBR) | (with_reducible exact KS.out _ hBTOP) | (with_reducible exact KS.out _ hBS) | (with_reducible exact KS.out _ hBTOAP) | (with_reducible exact KS.out _ hBTAO) | (with_reducible exact KS.out _ hBTAOP) | (with_reducible exact KS.out _ hBOA) | (with_reducible exact KS.out _ hBO) | (with_reducible exact KS.out _ hBOTA) | (with_reducible exact KS.out _ hBOT) | (with_reducible exact KS.out _ hBOTP) | (with_reducible exact KS.out _ hBOTAP) | (with_reducible exact KS.out _ hBOAT) | (with_reducible exact KS.out _ hBOATP) | (with_reducible exact KS.out _ hBAT) | (with_reducible exact KS.out _ hBATO) | (with_reducible exact KS.out _ hBATOP) | (with_reducible exact KS.out _ hBAO) | (with_reducible exact KS.out _ hBAOT) | (with_reducible exact KS.out _ hBAOTP) | go_keep))
            (first | (go_at_call 20; (with_reducible refine (HT.out _ (ha18.up hD)).mono ?_); rintro e wT ⟨vTT, rfl, hTT, hNT⟩; have hBT := hD.trans (hNT.mono hD.size); have hTIT := OwnT.of hTT; have hBTA := hBT.trans (((Below.refl wT.heap.size wT).alloc (Nat.le_refl _) (.cells #[.int .i64 0, .slice none 0 0, .slice none 0 0] 27)).mono hBT.size); have zTA : Whole1 (wT.alloc (.cells #[.int .i64 0, .slice none 0 0, .slice none 0 0] 27)) wT.heap.size 27 #[.int .i64 0, .slice none 0 0, .slice none 0 0] := Whole1.new wT 27 #[.int .i64 0, .slice none 0 0, .slice none 0 0]; have hTITA := hTIT.up ((Below.refl wT.heap.size wT).alloc (Nat.le_refl _) (.cells #[.int .i64 0, .slice none 0 0, .slice none 0 0] 27))) | (go_at_call 21; (with_reducible refine (HO.out _ (hd18.up hBT)).mono ?_); rintro e wTO ⟨vOTO, rfl, hOTO, hNTO⟩; have hBTO := hBT.trans (hNTO.mono hBT.size); have hOITO := OwnO.of hOTO; have hTITO := hTIT.up hNTO; have hBTOA := hBTO.trans (((Below.refl wTO.heap.size wTO).alloc (Nat.le_refl _) (.cells #[.int .i64 0, .slice none 0 0, .slice none 0 0] 27)).mono hBTO.size); have zTOA : Whole1 (wTO.alloc (.cells #[.int .i64 0, .slice none 0 0, .slice none 0 0] 27)) wTO.heap.size 27 #[.int .i64 0, .slice none 0 0, .slice none 0 0] := Whole1.new wTO 27 #[.int .i64 0, .slice none 0 0, .slice none 0 0]; have hTITOA := hTITO.up ((Below.refl wTO.heap.size wTO).alloc (Nat.le_refl _) (.cells #[.int .i64 0, .slice none 0 0, .slice none 0 0] 27)); have hOITOA := hOITO.up ((Below.refl wTO.heap.size wTO).alloc (Nat.le_refl _) (.cells #[.int .i64 0, .slice none 0 0, .slice none 0 0] 27))) | (go_at_call 8; (with_reducible refine (HI.out _ _ _ (hTITO) (hOITO) (hU18.below hBTO) (hJ18.below hBTO)).mono ?_); rintro e wTOP ⟨vPTOP, rfl, hPTOP, hNTOP⟩; have hBTOP := hBTO.trans (hNTOP.mono hBTO.size); have HP := Lib.hid hPTOP; obtain ⟨T1, U1, T2, U2, _, rfl, _⟩ := hPTOP.open; have hBS := hBTOP.trans (((Below.refl wTOP.heap.size wTOP).alloc (Nat.le_refl _) (.cells #[.int .i64 0, .slice none 0 0, .slice none 0 0] 27)).mono hBTOP.size); have hBR := hBTOP.trans (((Below.refl wTOP.heap.size wTOP).alloc (Nat.le_refl _) (.cells #[.int .i64 r.kind, .slice T1 r.labels.length U1, .slice T2 r.args.length U2] 27)).mono hBTOP.size); have HACC := Lib.hid hBTOP; clear hPTOP) | (go_at_call 8; (with_reducible refine (HI.out _ _ _ (hTITOA) (hOITOA) (hU18.below hBTOA) (hJ18.below hBTOA)).mono ?_); rintro e wTOAP ⟨vPTOAP, rfl, hPTOAP, hNTOAP⟩; have hBTOAP := hBTOA.trans (hNTOAP.mono hBTOA.size); have zTOAP := zTOA.below hNTOAP zTOA.lt; have HP := Lib.hid hPTOAP; obtain ⟨T1, U1, T2, U2, _, rfl, _⟩ := hPTOAP.open; have zc0 : wTOAP.cell? ⟨wTO.heap.size, 0, none⟩ = some (.int .i64 0) := zTOAP.cell 0; have zf0 : wTOAP.frozen? ⟨wTO.heap.size, 0, none⟩ = false := zTOAP.free 0; have zc1 : wTOAP.cell? ⟨wTO.heap.size, 1, none⟩ = some (.slice none 0 0) := zTOAP.cell 1; have zf1 : wTOAP.frozen? ⟨wTO.heap.size, 1, none⟩ = false := zTOAP.free 1; have zc2 : wTOAP.cell? ⟨wTO.heap.size, 2, none⟩ = some (.slice none 0 0) := zTOAP.cell 2; have zf2 : wTOAP.frozen? ⟨wTO.heap.size, 2, none⟩ = false := zTOAP.free 2; have hge : w18.heap.size ≤ wTO.heap.size := hBTO.size; have hBS := ((hBTOAP.setCell (p := ⟨wTO.heap.size, 0, none⟩) hge (.int .i64 r.kind)).setCell (p := ⟨wTO.heap.size, 1, none⟩) hge (.slice T1 r.labels.length U1)).setCell (p := ⟨wTO.heap.size, 2, none⟩) hge (.slice T2 r.args.length U2); have hzl := zTOA.lt; have HZ := Lib.hid zTOAP; have HACC := Lib.hid hBTOAP; clear hPTOAP) | (go_at_call 21; (with_reducible refine (HO.out _ (hd18.up hBTA)).mono ?_); rintro e wTAO ⟨vOTAO, rfl, hOTAO, hNTAO⟩; have hBTAO := hBTA.trans (hNTAO.mono hBTA.size); have zTAO := zTA.below hNTAO zTA.lt; have hOITAO := OwnO.of hOTAO; have hTITAO := hTITA.up hNTAO) | (go_at_call 8; (with_reducible refine (HI.out _ _ _ (hTITAO) (hOITAO) (hU18.below hBTAO) (hJ18.below hBTAO)).mono ?_); rintro e wTAOP ⟨vPTAOP, rfl, hPTAOP, hNTAOP⟩; have hBTAOP := hBTAO.trans (hNTAOP.mono hBTAO.size); have zTAOP := zTAO.below hNTAOP zTAO.lt; have HP := Lib.hid hPTAOP; obtain ⟨T1, U1, T2, U2, _, rfl, _⟩ := hPTAOP.open; have zc0 : wTAOP.cell? ⟨wT.heap.size, 0, none⟩ = some (.int .i64 0) := zTAOP.cell 0; have zf0 : wTAOP.frozen? ⟨wT.heap.size, 0, none⟩ = false := zTAOP.free 0; have zc1 : wTAOP.cell? ⟨wT.heap.size, 1, none⟩ = some (.slice none 0 0) := zTAOP.cell 1; have zf1 : wTAOP.frozen? ⟨wT.heap.size, 1, none⟩ = false := zTAOP.free 1; have zc2 : wTAOP.cell? ⟨wT.heap.size, 2, none⟩ = some (.slice none 0 0) := zTAOP.cell 2; have zf2 : wTAOP.frozen? ⟨wT.heap.size, 2, none⟩ = false := zTAOP.free 2; have hge : w18.heap.size ≤ wT.heap.size := hBT.size; have hBS := ((hBTAOP.setCell (p := ⟨wT.heap.size, 0, none⟩) hge (.int .i64 r.kind)).setCell (p := ⟨wT.heap.size, 1, none⟩) hge (.slice T1 r.labels.length U1)).setCell (p := ⟨wT.heap.size, 2, none⟩) hge (.slice T2 r.args.length U2); have hzl := zTAO.lt; have HZ := Lib.hid zTAOP; have HACC := Lib.hid hBTAOP; clear hPTAOP) | (go_at_call 21; (with_reducible refine (HO.out _ (hd18.up hD)).mono ?_); rintro e wO ⟨vOO, rfl, hOO, hNO⟩; have hBO := hD.trans (hNO.mono hD.size); have hOIO := OwnO.of hOO; have hBOA := hBO.trans (((Below.refl wO.heap.size wO).alloc (Nat.le_refl _) (.cells #[.int .i64 0, .slice none 0 0, .slice none 0 0] 27)).mono hBO.size); have zOA : Whole1 (wO.alloc (.cells #[.int .i64 0, .slice none 0 0, .slice none 0 0] 27)) wO.heap.size 27 #[.int .i64 0, .slice none 0 0, .slice none 0 0] := Whole1.new wO 27 #[.int .i64 0, .slice none 0 0, .slice none 0 0]; have hOIOA := hOIO.up ((Below.refl wO.heap.size wO).alloc (Nat.le_refl _) (.cells #[.int .i64 0, .slice none 0 0, .slice none 0 0] 27))) | (go_at_call 20; (with_reducible refine (HT.out _ (ha18.up hBO)).mono ?_); rintro e wOT ⟨vTOT, rfl, hTOT, hNOT⟩; have hBOT := hBO.trans (hNOT.mono hBO.size); have hTIOT := OwnT.of hTOT; have hOIOT := hOIO.up hNOT; have hBOTA := hBOT.trans (((Below.refl wOT.heap.size wOT).alloc (Nat.le_refl _) (.cells #[.int .i64 0, .slice none 0 0, .slice none 0 0] 27)).mono hBOT.size); have zOTA : Whole1 (wOT.alloc (.cells #[.int .i64 0, .slice none 0 0, .slice none 0 0] 27)) wOT.heap.size 27 #[.int .i64 0, .slice none 0 0, .slice none 0 0] := Whole1.new wOT 27 #[.int .i64 0, .slice none 0 0, .slice none 0 0]; have hTIOTA := hTIOT.up ((Below.refl wOT.heap.size wOT).alloc (Nat.le_refl _) (.cells #[.int .i64 0, .slice none 0 0, .slice none 0 0] 27)); have hOIOTA := hOIOT.up ((Below.refl wOT.heap.size wOT).alloc (Nat.le_refl _) (.cells #[.int .i64 0, .slice none 0 0, .slice none 0 0] 27))) | (go_at_call 8; (with_reducible refine (HI.out _ _ _ (hTIOT) (hOIOT) (hU18.below hBOT) (hJ18.below hBOT)).mono ?_); rintro e wOTP ⟨vPOTP, rfl, hPOTP, hNOTP⟩; have hBOTP := hBOT.trans (hNOTP.mono hBOT.size); have HP := Lib.hid hPOTP; obtain ⟨T1, U1, T2, U2, _, rfl, _⟩ := hPOTP.open; have hBS := hBOTP.trans (((Below.refl wOTP.heap.size wOTP).alloc (Nat.le_refl _) (.cells #[.int .i64 0, .slice none 0 0, .slice none 0 0] 27)).mono hBOTP.size); have hBR := hBOTP.trans (((Below.refl wOTP.heap.size wOTP).alloc (Nat.le_refl _) (.cells #[.int .i64 r.kind, .slice T1 r.labels.length U1, .slice T2 r.args.length U2] 27)).mono hBOTP.size); have HACC := Lib.hid hBOTP; clear hPOTP) | (go_at_call 8; (with_reducible refine (HI.out _ _ _ (hTIOTA) (hOIOTA) (hU18.below hBOTA) (hJ18.below hBOTA)).mono ?_); rintro e wOTAP ⟨vPOTAP, rfl, hPOTAP, hNOTAP⟩; have hBOTAP := hBOTA.trans (hNOTAP.mono hBOTA.size); have zOTAP := zOTA.below hNOTAP zOTA.lt; have HP := Lib.hid hPOTAP; obtain ⟨T1, U1, T2, U2, _, rfl, _⟩ := hPOTAP.open; have zc0 : wOTAP.cell? ⟨wOT.heap.size, 0, none⟩ = some (.int .i64 0) := zOTAP.cell 0; have zf0 : wOTAP.frozen? ⟨wOT.heap.size, 0, none⟩ = false := zOTAP.free 0; have zc1 : wOTAP.cell? ⟨wOT.heap.size, 1, none⟩ = some (.slice none 0 0) := zOTAP.cell 1; have zf1 : wOTAP.frozen? ⟨wOT.heap.size, 1, none⟩ = false := zOTAP.free 1; have zc2 : wOTAP.cell? ⟨wOT.heap.size, 2, none⟩ = some (.slice none 0 0) := zOTAP.cell 2; have zf2 : wOTAP.frozen? ⟨wOT.heap.size, 2, none⟩ = false := zOTAP.free 2; have hge : w18.heap.size ≤ wOT.heap.size := hBOT.size; have hBS := ((hBOTAP.setCell (p := ⟨wOT.heap.size, 0, none⟩) hge (.int .i64 r.kind)).setCell (p := ⟨wOT.heap.size, 1, none⟩) hge (.slice T1 r.labels.length U1)).setCell (p := ⟨wOT.heap.size, 2, none⟩) hge (.slice T2 r.args.length U2); have hzl := zOTA.lt; have HZ := Lib.hid zOTAP; have HACC := Lib.hid hBOTAP; clear hPOTAP) | (go_at_call 20; (with_reducible refine (HT.out _ (ha18.up hBOA)).mono ?_); rintro e wOAT ⟨vTOAT, rfl, hTOAT, hNOAT⟩; have hBOAT := hBOA.trans (hNOAT.mono hBOA.size); have zOAT := zOA.below hNOAT zOA.lt; have hTIOAT := OwnT.of hTOAT; have hOIOAT := hOIOA.up hNOAT) | (go_at_call 8; (with_reducible refine (HI.out _ _ _ (hTIOAT) (hOIOAT) (hU18.below hBOAT) (hJ18.below hBOAT)).mono ?_); rintro e wOATP ⟨vPOATP, rfl, hPOATP, hNOATP⟩; have hBOATP := hBOAT.trans (hNOATP.mono hBOAT.size); have zOATP := zOAT.below hNOATP zOAT.lt; have HP := Lib.hid hPOATP; obtain ⟨T1, U1, T2, U2, _, rfl, _⟩ := hPOATP.open; have zc0 : wOATP.cell? ⟨wO.heap.size, 0, none⟩ = some (.int .i64 0) := zOATP.cell 0; have zf0 : wOATP.frozen? ⟨wO.heap.size, 0, none⟩ = false := zOATP.free 0; have zc1 : wOATP.cell? ⟨wO.heap.size, 1, none⟩ = some (.slice none 0 0) := zOATP.cell 1; have zf1 : wOATP.frozen? ⟨wO.heap.size, 1, none⟩ = false := zOATP.free 1; have zc2 : wOATP.cell? ⟨wO.heap.size, 2, none⟩ = some (.slice none 0 0) := zOATP.cell 2; have zf2 : wOATP.frozen? ⟨wO.heap.size, 2, none⟩ = false := zOATP.free 2; have hge : w18.heap.size ≤ wO.heap.size := hBO.size; have hBS := ((hBOATP.setCell (p := ⟨wO.heap.size, 0, none⟩) hge (.int .i64 r.kind)).setCell (p := ⟨wO.heap.size, 1, none⟩) hge (.slice T1 r.labels.length U1)).setCell (p := ⟨wO.heap.size, 2, none⟩) hge (.slice T2 r.args.length U2); have hzl := zOAT.lt; have HZ := Lib.hid zOATP; have HACC := Lib.hid hBOATP; clear hPOATP) | (go_at_call 20; (with_reducible refine (HT.out _ (ha18.up hDA)).mono ?_); rintro e wAT ⟨vTAT, rfl, hTAT, hNAT⟩; have hBAT := hDA.trans (hNAT.mono hDA.size); have zAT := zDA.below hNAT zDA.lt; have hTIAT := OwnT.of hTAT) | (go_at_call 21; (with_reducible refine (HO.out _ (hd18.up hBAT)).mono ?_); rintro e wATO ⟨vOATO, rfl, hOATO, hNATO⟩; have hBATO := hBAT.trans (hNATO.mono hBAT.size); have zATO := zAT.below hNATO zAT.lt; have hOIATO := OwnO.of hOATO; have hTIATO := hTIAT.up hNATO) | (go_at_call 8; (with_reducible refine (HI.out _ _ _ (hTIATO) (hOIATO) (hU18.below hBATO) (hJ18.below hBATO)).mono ?_); rintro e wATOP ⟨vPATOP, rfl, hPATOP, hNATOP⟩; have hBATOP := hBATO.trans (hNATOP.mono hBATO.size); have zATOP := zATO.below hNATOP zATO.lt; have HP := Lib.hid hPATOP; obtain ⟨T1, U1, T2, U2, _, rfl, _⟩ := hPATOP.open; have zc0 : wATOP.cell? ⟨w18.heap.size, 0, none⟩ = some (.int .i64 0) := zATOP.cell 0; have zf0 : wATOP.frozen? ⟨w18.heap.size, 0, none⟩ = false := zATOP.free 0; have zc1 : wATOP.cell? ⟨w18.heap.size, 1, none⟩ = some (.slice none 0 0) := zATOP.cell 1; have zf1 : wATOP.frozen? ⟨w18.heap.size, 1, none⟩ = false := zATOP.free 1; have zc2 : wATOP.cell? ⟨w18.heap.size, 2, none⟩ = some (.slice none 0 0) := zATOP.cell 2; have zf2 : wATOP.frozen? ⟨w18.heap.size, 2, none⟩ = false := zATOP.free 2; have hge : w18.heap.size ≤ w18.heap.size := Nat.le_refl _; have hBS := ((hBATOP.setCell (p := ⟨w18.heap.size, 0, none⟩) hge (.int .i64 r.kind)).setCell (p := ⟨w18.heap.size, 1, none⟩) hge (.slice T1 r.labels.length U1)).setCell (p := ⟨w18.heap.size, 2, none⟩) hge (.slice T2 r.args.length U2); have hzl := zATO.lt; have HZ := Lib.hid zATOP; have HACC := Lib.hid hBATOP; clear hPATOP) | (go_at_call 21; (with_reducible refine (HO.out _ (hd18.up hDA)).mono ?_); rintro e wAO ⟨vOAO, rfl, hOAO, hNAO⟩; have hBAO := hDA.trans (hNAO.mono hDA.size); have zAO := zDA.below hNAO zDA.lt; have hOIAO := OwnO.of hOAO) | (go_at_call 20; (with_reducible refine (HT.out _ (ha18.up hBAO)).mono ?_); rintro e wAOT ⟨vTAOT, rfl, hTAOT, hNAOT⟩; have hBAOT := hBAO.trans (hNAOT.mono hBAO.size); have zAOT := zAO.below hNAOT zAO.lt; have hTIAOT := OwnT.of hTAOT; have hOIAOT := hOIAO.up hNAOT) | (go_at_call 8; (with_reducible refine (HI.out _ _ _ (hTIAOT) (hOIAOT) (hU18.below hBAOT) (hJ18.below hBAOT)).mono ?_); rintro e wAOTP ⟨vPAOTP, rfl, hPAOTP, hNAOTP⟩; have hBAOTP := hBAOT.trans (hNAOTP.mono hBAOT.size); have zAOTP := zAOT.below hNAOTP zAOT.lt; have HP := Lib.hid hPAOTP; obtain ⟨T1, U1, T2, U2, _, rfl, _⟩ := hPAOTP.open; have zc0 : wAOTP.cell? ⟨w18.heap.size, 0, none⟩ = some (.int .i64 0) := zAOTP.cell 0; have zf0 : wAOTP.frozen? ⟨w18.heap.size, 0, none⟩ = false := zAOTP.free 0; have zc1 : wAOTP.cell? ⟨w18.heap.size, 1, none⟩ = some (.slice none 0 0) := zAOTP.cell 1; have zf1 : wAOTP.frozen? ⟨w18.heap.size, 1, none⟩ = false := zAOTP.free 1; have zc2 : wAOTP.cell? ⟨w18.heap.size, 2, none⟩ = some (.slice none 0 0) := zAOTP.cell 2; have zf2 : wAOTP.frozen? ⟨w18.heap.size, 2, none⟩ = false := zAOTP.free 2; have hge : w18.heap.size ≤ w18.heap.size := Nat.le_refl _; have hBS := ((hBAOTP.setCell (p := ⟨w18.heap.size, 0, none⟩) hge (.int .i64 r.kind)).setCell (p := ⟨w18.heap.size, 1, none⟩) hge (.slice T1 r.labels.length U1)).setCell (p := ⟨w18.heap.size, 2, none⟩) hge (.slice T2 r.args.length U2); have hzl := zAOT.lt; have HZ := Lib.hid zAOTP; have HACC := Lib.hid hBAOTP; clear hPAOTP))
          all_goals go_wp2
          all_goals go_meet
          all_goals first | exact ⟨_, T1, U1, T2, U2, rfl, rfl, rfl, Got.late HP.out hBTO.size HACC.out⟩ | exact ⟨_, T1, U1, T2, U2, rfl, rfl, rfl, Got.early HP.out hzl hge HZ.out rfl HACC.out⟩ | exact ⟨_, T1, U1, T2, U2, rfl, rfl, rfl, Got.late HP.out hBOT.size HACC.out⟩
        case rest =>
          obtain ⟨zH, TH1, UH1, TH2, UH2, rfl, rfl, rfl, hG⟩ := hcut
          have hw19 : wc = wc := rfl
          clear hw19
          clear hD hDA zDA KS t_0 t_1 t_2 t_3 t_4 t_5 t_6
          have hb19 := hG.below
          have bH19 := hG.box
          have hH_in := hG.tree
          have hH_ge := hG.apart
          have hH_lt := hG.box.lt
          clear hG
          generalize wc = w19 at *
          have cb19 := cb18.trans (hb19.mono cb18.size)
          have sz19 := hb19.size
          have bp19 := bp18.below hb19 bp18.lt
          have bq19 := bq18.below hb19 bq18.lt
          have bW19 := bW18.below hb19 bW18.lt
          have bG19 := bG18.below hb19 bG18.lt
          have kW19 := kW18.trans (hb19.mono kW18.size)
          have gM19 := gM18.keep (fun q _ hq => hb19.block q hq)
          clear bp18 bq18 bW18 bG18 kW18 gM18
          clear ha18 hd18 hU18 hJ18
          have hhT19 := hH_in.here
          clear hH_in
          have cH0 : w19.cell? ⟨zH, 0, none⟩ = some (.int .i64 r.kind) := bH19.cell 0
          have cH1 : w19.cell? ⟨zH, 1, none⟩ = some (.slice TH1 r.labels.length UH1) := bH19.cell 1
          have cH2 : w19.cell? ⟨zH, 2, none⟩ = some (.slice TH2 r.args.length UH2) := bH19.cell 2
          have cW0 : w19.cell? ⟨zW, 0, none⟩ = some (.int .i64 r.kind) := bW19.cell 0
          have cW1 : w19.cell? ⟨zW, 1, none⟩ = some (.slice TW1 r.labels.length UW1) := bW19.cell 1
          have cW2 : w19.cell? ⟨zW, 2, none⟩ = some (.slice TW2 r.args.length UW2) := bW19.cell 2
          go_wp2_with fail
          clear cH0 cH1 cH2 cW0 cW1 cW2
          refine (HEr.out _ _ w19 hhT19 ((hwT.lift kW19).more kW19.size)).mono ?_
          rintro e w20 ⟨rfl, hb20⟩
          have cb20 := cb19.trans (hb20.mono cb19.size)
          have sz20 := hb20.size
          have bp20 := bp19.below hb20 bp19.lt
          have bq20 := bq19.below hb20 bq19.lt
          have bW20 := bW19.below hb20 bW19.lt
          have bG20 := bG19.below hb20 bG19.lt
          have kW20 := kW19.trans (hb20.mono kW19.size)
          have gM20 := gM19.keep (fun q _ hq => hb20.block q hq)
          have bH20 := bH19.below hb20 bH19.lt
          have hhT20 := hhT19.up hb20
          clear bp19 bq19 bW19 bG19 kW19 gM19 bH19 hhT19
          have cG0 : w20.cell? ⟨w9.heap.size, 0, none⟩ = some (.int .i64 r.kind) := bG20.cell 0
          have cG1 : w20.cell? ⟨w9.heap.size, 1, none⟩ = some (.slice L5 r.labels.length l5) := bG20.cell 1
          have cG2 : w20.cell? ⟨w9.heap.size, 2, none⟩ = some (.slice A5 r.args.length a5) := bG20.cell 2
          go_wp2_with fail
          clear cG0 cG1 cG2
          refine (heldType_any r _ 1 w20 gM20.here (by omega) (by omega)).mono ?_
          rintro e w21 ⟨rfl, hb21⟩
          have cb21 := cb20.trans (hb21.mono cb20.size)
          have sz21 := hb21.size
          have bp21 := bp20.below hb21 bp20.lt
          have bq21 := bq20.below hb21 bq20.lt
          have bW21 := bW20.below hb21 bW20.lt
          have bG21 := bG20.below hb21 bG20.lt
          have kW21 := kW20.trans (hb21.mono kW20.size)
          have gM21 := gM20.keep (fun q _ hq => hb21.block q hq)
          have bH21 := bH20.below hb21 bH20.lt
          have hhT21 := hhT20.up hb21
          clear bp20 bq20 bW20 bG20 kW20 gM20 bH20 hhT20
          go_wp2
          go_ret
          exact ⟨rfl, cb21⟩

theorem own : ownKnob Tryz.prog.godebug = none := by kernel_rfl
theorem laidOut : laidOutB Tryz.prog = true := by kernel_rfl

/-- What the row lists. -/
def laid : List (String × DataW Unit) := Rows.fnExactOpticTypeRow.laid

set_option maxRecDepth 100000 in
theorem lifted (os : Os) (started : os.Started) (H : Type) (enc : TypeId × Value → H) :
    ReturnsInHanded {} Tryz.checked os 4 .any (fun w args => (Rows.fnExactOpticTypeSpec.pre enc Tryz.prog Tryz.f4 [] false w args ∧ laidMetH Tryz.prog laid w) ∧ sizedMet enc Tryz.prog Tryz.f4 (OpenSpec.ofChange Rows.fnExactOpticTypeSpec) false w args)
      (Rows.fnExactOpticTypeSpec.post enc Tryz.prog Tryz.f4 false true false false) := by
  refine law_lifted_vars (C := Tryz.checked) (bt := 4) own laidOut started (by kernel_rfl) Tryz.func4 (by kernel_rfl) rfl Tryz.underlying4 (by kernel_rfl) ?_
    (ChangeSpec.witness_shaped (enc := enc) (C := Tryz.checked) (os := os) (X := fun w _ => laidMetH Tryz.prog laid w) false (World.laidAll Tryz.prog os laid) #[.agg #[.int .i64 0, .slice none 0 0, .slice none 0 0], .agg #[.int .i64 0, .string ⟨#[]⟩, .int .i64 0, .slice none 0 0]] 8 (World.laidAll_os _ _ _) (World.shaped_of_ZipB (by kernel_rfl) (by kernel_rfl)) (by kernel_rfl) (by kernel_rfl) (by kernel_rfl)
      (by rw [MakeChecks.laidMetH_plain _ _ _ (by kernel_rfl)]; exact laidMet_laidAll _ (by kernel_rfl) (by kernel_rfl))) ?_
  · intro ds gs hd hg
    have h1 : ds.length = 2 := hd
    have h2 : gs.length = 2 := hg
    match ds, gs, h1, h2 with
    | [d1, d2], [g1, g2], _, _ => rfl
  · intro W base args ds p hval0 hA0 hlt hL hsh
    have hval : ∀ (j : Nat) t v, Tryz.f4.params[j]? = some t → args[j]? = some v → Value.okWide Tryz.prog W .any base t v := hval0
    have hA : DataW.TrodAll enc Tryz.prog W 0 (fun _ => true) true Tryz.f4.params.toList args.toList ds p := hA0
    rw [Tryz.params4] at hA hval
    obtain ⟨v0, v1, d0, d1, p0, p1, rfl, rfl, rfl, h0, h1⟩ := trodAll_two hA
    obtain ⟨a0, ra0⟩ := open_type_arg (hval 0 41 v0 rfl rfl) h0 (fun x hx => hlt x (by simp [hx]))
    obtain ⟨a1, ra1⟩ := open_optic_arg (hval 1 44 v1 rfl rfl) h1 (fun x hx => hlt x (by simp [hx]))
    rw [MakeChecks.laidMetH_plain _ _ _ (by kernel_rfl)] at hL
    obtain ⟨_, hUU⟩ := unfitAt_of (r := []) (laidMet.tail (x := ("loop.example/g00592/impl.kindJoins", Rows.laid_loop_example_g00592_impl_kindJoins)) hL)
    exact walk a0 a1 v0 v1 W ra0 ra1 hUU (joinsAt_of (L := laid) (by unfold laid; exact List.mem_cons_self) hL)

theorem over : Rows.FnExactOpticTypeSaid :=
  OpenClaim.holds_of_wide 4 Tryz.f4 rfl rfl rfl rfl rfl rfl rfl ⟨rfl, rfl, rfl, rfl, rfl⟩ rfl rfl rfl rfl rfl (by kernel_rfl) Tryz.func4 (by kernel_rfl)
    (of_decide_eq_true (by kernel_rfl)) (by unfold Func.isWrapper; rw [if_neg (of_decide_eq_false (by kernel_rfl))]; exact ⟨rfl, rfl⟩)
    (fun os started H enc _ => lifted os started H enc)

theorem proved : Rows.FnExactOpticTypeCardSaid :=
  Claim7.holds_tied_plain_at .later [] Rows.fnExactOpticTypeCard.laidKinds true Rows.fnExactOpticTypeCard.stood.harness Rows.fnExactOpticTypeCard.stood.looks
    over (fun _ h => by cases h) (by kernel_rfl) (fun _ h => by cases h) fnExactOpticType_row_tie rfl ⟨rfl, rfl⟩ (by kernel_rfl) rfl
    (fun f fn hf hfn => by
      obtain rfl : f = 4 := Option.some.inj ((show Tryz.prog.funcNamed "loop.example/g00592/laws.FnExactOpticType" = some 4 by kernel_rfl).symm.trans hf) |>.symm
      obtain rfl : fn = Tryz.f4 := (Option.some.inj (Tryz.func4.symm.trans hfn)).symm
      exact ⟨by kernel_rfl, fun j t ht => by
        rw [Tryz.params4] at ht
        have hm := Array.mem_of_getElem? ht
        have hall : (#[41, 44].toList.all fun u => !Tryz.prog.wantsStandIn u) = true := by kernel_rfl
        exact (show Tryz.prog.wantsStandIn t = false by simpa using List.all_eq_true.1 hall t (by simpa using hm))⟩)
    (by kernel_rfl)

end Go.Proofs.YthdfidhijmcbdaaGreatDoor.lawOpticType
