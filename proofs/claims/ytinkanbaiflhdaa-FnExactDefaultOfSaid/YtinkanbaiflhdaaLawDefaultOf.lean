/- FnExactDefaultOf: for every type the law of DefaultOf hands back true, and its argument reads as it did. No condition. -/
import Derived.Test.YtinkanbaiflhdaaRows
import Derived.Test.YtinkanbaiflhdaaLaw
import Derived.Test.YtinkanbaiflhdaaOpenTy
import Derived.Test.YtinkanbaiflhdaaSzTy
import Derived.Test.YtinkanbaiflhdaaGather
import Derived.Test.YtinkanbaiflhdaaEqTy
import Derived.Test.YtinkanbaiflhdaaHeldTy
import Derived.Test.YtinkanbaiflhdaaVGather
import Derived.Test.YtinkanbaiflhdaaEqVa
import Derived.Test.YtinkanbaiflhdaaHeldVa
import Derived.Test.YtinkanbaiflhdaaSpecDef
import Derived.Test.YtinkanbaiflhdaaImplDef
import Derived.Deep.DeepCutAuto
import Derived.Deep.DrawnRows
import Derived.Deep.RegionHeld3
namespace Go.Proofs.Ytinkanbaiflhdaa.lawDefaultOf
open Go.ChangeShapes Go.WideShapes Go.ChangeAt Go.RowKit
open Go.ChangeMaps (open_string shut_string)

mutual
theorem cnt_def : ∀ (t : Ty), cntVa (defVa t) ≤ 3 * szTy t
  | .mk k ls ts => by
    rw [defVa]
    have h1 := cnts_def ts
    have h2 := cnts_head ts
    rw [szTy]
    split
    · simp [cntVa, cntVas]
    · split
      · simp [cntVa, cntVas]
      · split
        · rw [cntVa]
          omega
        · split
          · rw [cntVa]
            simp only [List.length_nil]
            omega
          · simp [cntVa, cntVas]
theorem cnts_def : ∀ (ts : List Ty), cntVas (defVas ts) ≤ 3 * szTys ts
  | [] => by simp [defVas, cntVas]
  | t :: r => by
    have h1 := cnt_def t
    have h2 := cnts_def r
    rw [defVas, cntVas, szTys]
    omega
theorem cnts_head : ∀ (ts : List Ty), cntVas (defHead ts) ≤ 3 * szTys ts
  | [] => by simp [defHead, cntVas]
  | t :: r => by
    have h1 := cnt_def t
    rw [defHead, cntVas, cntVas, szTys]
    omega
end
theorem cnt_defB (t : Ty) : cntVa (defB t) ≤ 3 * szTy t := by
  unfold defB
  split
  · exact cnt_def t
  · simp [cntVa, cntVas]

set_option maxHeartbeats 4000000 in
set_option maxRecDepth 100000 in
theorem walk (t : Ty) (va : Value) (w : World) (ha0 : TyAt w w.heap.size va t) :
    Calls Try.prog 7 #[va] w (TrueBelow w) := by
  obtain ⟨L0, l0, A0, a0, rfl, _⟩ := ha0.open
  obtain ⟨hb1, bp1, hz1⟩ := boxes1 w 40 #[.int .i64 t.kind, .slice L0 t.labels.length l0, .slice A0 t.args.length a0]
  go_enter Try.func7, Try.ntmps7
  go_wp2_with fail
  generalize w.alloc (.cells #[.int .i64 t.kind, .slice L0 t.labels.length l0, .slice A0 t.args.length a0] 40) = w1 at *
  have zz1 : w.heap.size < w1.heap.size := by omega
  clear hz1
  have cb1 := hb1
  have sz1 := hb1.size
  refine (szTy_any t _ 1048576 w1 ((ha0.lift cb1).more cb1.size) (by omega) (by omega)).mono ?_
  rintro e w2 ⟨rfl, hb2⟩
  have cb2 := cb1.trans (hb2.mono cb1.size)
  have sz2 := hb2.size
  have bp2 := bp1.below hb2 bp1.lt
  clear bp1
  by_cases hneg : (1048576 : Int) - szTy t < 0
  · rw [show leftOf 1048576 (szTy t) = -1 from by unfold leftOf; rw [if_pos hneg]]
    go_wp2
    go_ret
    exact ⟨rfl, cb2⟩
  · have hsz : szTy t ≤ 1048576 := by omega
    have hq2 : ¬ leftOf 1048576 (szTy t) < 0 := by unfold leftOf; rw [if_neg hneg]; exact hneg
    generalize leftOf 1048576 (szTy t) = lf at *
    have HTa := Lib.hid (fun W (h : TyAt W W.heap.size (.agg #[.int .i64 t.kind, .slice L0 t.labels.length l0, .slice A0 t.args.length a0]) t) => toType_any t _ W h hsz)
    have HEt := Lib.hid (fun V V' W h h' => eqType_any t V V' W h h')
    have HS := Lib.hid (fun V W h => specDefault_any t V W h hsz)
    have HI := Lib.hid (fun V W h => implDefault_any t V W h hsz)
    have hcr := cnt_defB t
    have hct := cnt_le_sz t
    generalize defB t = r at *
    have HEr := Lib.hid (fun V V' W h h' => eqValue_any r V V' W h h')
    have cp0 : w2.cell? ⟨w.heap.size, 0, none⟩ = some (.int .i64 t.kind) := bp2.cell 0
    have cp1 : w2.cell? ⟨w.heap.size, 1, none⟩ = some (.slice L0 t.labels.length l0) := bp2.cell 1
    have cp2 : w2.cell? ⟨w.heap.size, 2, none⟩ = some (.slice A0 t.args.length a0) := bp2.cell 2
    go_wp2_with fail
    clear cp0 cp1 cp2
    refine (HTa.out w2 ((ha0.lift cb2).more cb2.size)).mono ?_
    rintro e w3 ⟨u1, rfl, hu3, hb3⟩
    have cb3 := cb2.trans (hb3.mono cb2.size)
    have sz3 := hb3.size
    have bp3 := bp2.below hb3 bp2.lt
    clear bp2
    have hu3' := hu3.here
    clear hu3
    go_wp2_with fail
    refine (HS.out u1 w3 hu3').mono ?_
    rintro e w4 ⟨u2, rfl, hw4, hb4⟩
    have cb4 := cb3.trans (hb4.mono cb3.size)
    have sz4 := hb4.size
    have bp4 := bp3.below hb4 bp3.lt
    clear bp3
    clear hu3'
    obtain ⟨L2, l2, A2, a2, _, rfl, _⟩ := hw4.open
    have hwT := hw4.here
    clear hw4
    have kW4 : Below w4.heap.size w4 w4 := Below.refl _ _
    obtain ⟨hb5, bW5, hz5⟩ := boxes1 w4 51 #[.int .i64 r.kind, .int .i64 r.num, .string r.name, .slice L2 r.labels.length l2, .slice A2 r.args.length a2]
    have dp := bp4.below hb5 bp4.lt
    have cp0 : (w4.alloc (.cells #[.int .i64 r.kind, .int .i64 r.num, .string r.name, .slice L2 r.labels.length l2, .slice A2 r.args.length a2] 51)).cell? ⟨w.heap.size, 0, none⟩ = some (.int .i64 t.kind) := dp.cell 0
    have cp1 : (w4.alloc (.cells #[.int .i64 r.kind, .int .i64 r.num, .string r.name, .slice L2 r.labels.length l2, .slice A2 r.args.length a2] 51)).cell? ⟨w.heap.size, 1, none⟩ = some (.slice L0 t.labels.length l0) := dp.cell 1
    have cp2 : (w4.alloc (.cells #[.int .i64 r.kind, .int .i64 r.num, .string r.name, .slice L2 r.labels.length l2, .slice A2 r.args.length a2] 51)).cell? ⟨w.heap.size, 2, none⟩ = some (.slice A0 t.args.length a0) := dp.cell 2
    go_wp2_with fail
    clear dp cp0 cp1 cp2
    generalize w4.alloc (.cells #[.int .i64 r.kind, .int .i64 r.num, .string r.name, .slice L2 r.labels.length l2, .slice A2 r.args.length a2] 51) = w5 at *
    have zz5 : w4.heap.size < w5.heap.size := by omega
    clear hz5
    have cb5 := cb4.trans (hb5.mono cb4.size)
    have sz5 := hb5.size
    have bp5 := bp4.below hb5 bp4.lt
    have kW5 := kW4.trans (hb5.mono kW4.size)
    clear bp4 kW4
    refine (HTa.out w5 ((ha0.lift cb5).more cb5.size)).mono ?_
    rintro e w6 ⟨u3, rfl, xI6, hb6⟩
    have cb6 := cb5.trans (hb6.mono cb5.size)
    have sz6 := hb6.size
    have bp6 := bp5.below hb6 bp5.lt
    have kW6 := kW5.trans (hb6.mono kW5.size)
    have bW6 := bW5.below hb6 bW5.lt
    clear bp5 kW5 bW5
    obtain ⟨L3, l3, A3, a3, _, rfl, _⟩ := xI6.open
    have xO6 := OwnT.of xI6
    obtain ⟨hb7, bX7, hz7⟩ := boxes1 w6 27 #[.int .i64 t.kind, .slice L3 t.labels.length l3, .slice A3 t.args.length a3]
    go_wp2_with fail
    generalize w6.alloc (.cells #[.int .i64 t.kind, .slice L3 t.labels.length l3, .slice A3 t.args.length a3] 27) = w7 at *
    have zz7 : w6.heap.size < w7.heap.size := by omega
    clear hz7
    have cb7 := cb6.trans (hb7.mono cb6.size)
    have sz7 := hb7.size
    have bp7 := bp6.below hb7 bp6.lt
    have kW7 := kW6.trans (hb7.mono kW6.size)
    have bW7 := bW6.below hb7 bW6.lt
    have xI7 := xI6.keep (fun q _ hq => hb7.block q hq)
    have xO7 := xO6.up hb7
    clear bp6 kW6 bW6 xI6 xO6
    refine (HI.out _ w7 xO7).mono ?_
    rintro e w8 ⟨u4, rfl, gI8, hb8⟩
    have cb8 := cb7.trans (hb8.mono cb7.size)
    have sz8 := hb8.size
    have bp8 := bp7.below hb8 bp7.lt
    have kW8 := kW7.trans (hb8.mono kW7.size)
    have bW8 := bW7.below hb8 bW7.lt
    have xI8 := xI7.keep (fun q _ hq => hb8.block q hq)
    have xO8 := xO7.up hb8
    have bX8 := bX7.below hb8 bX7.lt
    clear bp7 kW7 bW7 xI7 xO7 bX7
    clear xO8
    obtain ⟨L4, l4, A4, a4, _, rfl, _⟩ := gI8.open
    obtain ⟨hb9, bG9, hz9⟩ := boxes1 w8 51 #[.int .i64 r.kind, .int .i64 r.num, .string r.name, .slice L4 r.labels.length l4, .slice A4 r.args.length a4]
    have dW := bW8.below hb9 bW8.lt
    have cW0 : (w8.alloc (.cells #[.int .i64 r.kind, .int .i64 r.num, .string r.name, .slice L4 r.labels.length l4, .slice A4 r.args.length a4] 51)).cell? ⟨w4.heap.size, 0, none⟩ = some (.int .i64 r.kind) := dW.cell 0
    have cW1 : (w8.alloc (.cells #[.int .i64 r.kind, .int .i64 r.num, .string r.name, .slice L4 r.labels.length l4, .slice A4 r.args.length a4] 51)).cell? ⟨w4.heap.size, 1, none⟩ = some (.int .i64 r.num) := dW.cell 1
    have cW2 : (w8.alloc (.cells #[.int .i64 r.kind, .int .i64 r.num, .string r.name, .slice L4 r.labels.length l4, .slice A4 r.args.length a4] 51)).cell? ⟨w4.heap.size, 2, none⟩ = some (.string r.name) := dW.cell 2
    have cW3 : (w8.alloc (.cells #[.int .i64 r.kind, .int .i64 r.num, .string r.name, .slice L4 r.labels.length l4, .slice A4 r.args.length a4] 51)).cell? ⟨w4.heap.size, 3, none⟩ = some (.slice L2 r.labels.length l2) := dW.cell 3
    have cW4 : (w8.alloc (.cells #[.int .i64 r.kind, .int .i64 r.num, .string r.name, .slice L4 r.labels.length l4, .slice A4 r.args.length a4] 51)).cell? ⟨w4.heap.size, 4, none⟩ = some (.slice A2 r.args.length a2) := dW.cell 4
    go_wp2_with fail
    clear dW cW0 cW1 cW2 cW3 cW4
    generalize w8.alloc (.cells #[.int .i64 r.kind, .int .i64 r.num, .string r.name, .slice L4 r.labels.length l4, .slice A4 r.args.length a4] 51) = w9 at *
    have zz9 : w8.heap.size < w9.heap.size := by omega
    clear hz9
    have cb9 := cb8.trans (hb9.mono cb8.size)
    have sz9 := hb9.size
    have bp9 := bp8.below hb9 bp8.lt
    have kW9 := kW8.trans (hb9.mono kW8.size)
    have bW9 := bW8.below hb9 bW8.lt
    have xI9 := xI8.keep (fun q _ hq => hb9.block q hq)
    have bX9 := bX8.below hb9 bX8.lt
    have gI9 := gI8.keep (fun q _ hq => hb9.block q hq)
    clear bp8 kW8 bW8 xI8 bX8 gI8
    refine (HEr.out _ _ w9 gI9.here ((hwT.lift kW9).more kW9.size)).mono ?_
    rintro e w10 ⟨rfl, hb10⟩
    have cb10 := cb9.trans (hb10.mono cb9.size)
    have sz10 := hb10.size
    have bp10 := bp9.below hb10 bp9.lt
    have kW10 := kW9.trans (hb10.mono kW9.size)
    have bW10 := bW9.below hb10 bW9.lt
    have xI10 := xI9.keep (fun q _ hq => hb10.block q hq)
    have bX10 := bX9.below hb10 bX9.lt
    have gI10 := gI9.keep (fun q _ hq => hb10.block q hq)
    have bG10 := bG9.below hb10 bG9.lt
    clear bp9 kW9 bW9 xI9 bX9 gI9 bG9
    have cX0 : w10.cell? ⟨w6.heap.size, 0, none⟩ = some (.int .i64 t.kind) := bX10.cell 0
    have cX1 : w10.cell? ⟨w6.heap.size, 1, none⟩ = some (.slice L3 t.labels.length l3) := bX10.cell 1
    have cX2 : w10.cell? ⟨w6.heap.size, 2, none⟩ = some (.slice A3 t.args.length a3) := bX10.cell 2
    have cp0 : w10.cell? ⟨w.heap.size, 0, none⟩ = some (.int .i64 t.kind) := bp10.cell 0
    have cp1 : w10.cell? ⟨w.heap.size, 1, none⟩ = some (.slice L0 t.labels.length l0) := bp10.cell 1
    have cp2 : w10.cell? ⟨w.heap.size, 2, none⟩ = some (.slice A0 t.args.length a0) := bp10.cell 2
    have hlX := bX10.lt
    have hlp := bp10.lt
    go_wp2_with fail
    go_region_held3 (fun x => x.cell? ⟨w6.heap.size, 0, none⟩ = some (.int .i64 t.kind) ∧ x.cell? ⟨w6.heap.size, 1, none⟩ = some (.slice L3 t.labels.length l3) ∧ x.cell? ⟨w6.heap.size, 2, none⟩ = some (.slice A3 t.args.length a3) ∧ x.cell? ⟨w.heap.size, 0, none⟩ = some (.int .i64 t.kind) ∧ x.cell? ⟨w.heap.size, 1, none⟩ = some (.slice L0 t.labels.length l0) ∧ x.cell? ⟨w.heap.size, 2, none⟩ = some (.slice A0 t.args.length a0) ∧ Below w10.heap.size w10 x) ((first | exact ⟨cX0, cX1, cX2, cp0, cp1, cp2, (Below.refl _ _).drew⟩ | exact ⟨r0_0, r0_1, r0_2, r0_3, r0_4, r0_5, hR0⟩ | exact ⟨r1_0, r1_1, r1_2, r1_3, r1_4, r1_5, hb11⟩))
      (first | (go_at_call 24; refine (HTa.out _ (((ha0.lift cb10).more cb10.size).up (Below.refl w10.heap.size w10).drew)).mono ?_; rintro e wR0 ⟨v1, rfl, hv1, hN0⟩; have hR0 := (Below.refl w10.heap.size w10).drew.trans (hN0.mono (Below.refl w10.heap.size w10).drew.size); have r0_0 := (hR0.cell (p := ⟨w6.heap.size, 0, none⟩) hlX).trans cX0; have r0_1 := (hR0.cell (p := ⟨w6.heap.size, 1, none⟩) hlX).trans cX1; have r0_2 := (hR0.cell (p := ⟨w6.heap.size, 2, none⟩) hlX).trans cX2; have r0_3 := (hR0.cell (p := ⟨w.heap.size, 0, none⟩) hlp).trans cp0; have r0_4 := (hR0.cell (p := ⟨w.heap.size, 1, none⟩) hlp).trans cp1; have r0_5 := (hR0.cell (p := ⟨w.heap.size, 2, none⟩) hlp).trans cp2) | (go_at_call 25; refine (HEt.out _ v1 _ (xI10.here.up hR0) hv1.here).mono ?_; rintro e w11 ⟨rfl, hN1⟩; have hb11 := hR0.trans (hN1.mono hR0.size); have r1_0 := (hb11.cell (p := ⟨w6.heap.size, 0, none⟩) hlX).trans cX0; have r1_1 := (hb11.cell (p := ⟨w6.heap.size, 1, none⟩) hlX).trans cX1; have r1_2 := (hb11.cell (p := ⟨w6.heap.size, 2, none⟩) hlX).trans cX2; have r1_3 := (hb11.cell (p := ⟨w.heap.size, 0, none⟩) hlp).trans cp0; have r1_4 := (hb11.cell (p := ⟨w.heap.size, 1, none⟩) hlp).trans cp1; have r1_5 := (hb11.cell (p := ⟨w.heap.size, 2, none⟩) hlp).trans cp2))
    clear cX0 cX1 cX2 cp0 cp1 cp2
    have cb11 := cb10.trans (hb11.mono cb10.size)
    have sz11 := hb11.size
    have bp11 := bp10.below hb11 bp10.lt
    have kW11 := kW10.trans (hb11.mono kW10.size)
    have bW11 := bW10.below hb11 bW10.lt
    have xI11 := xI10.keep (fun q _ hq => hb11.block q hq)
    have bX11 := bX10.below hb11 bX10.lt
    have gI11 := gI10.keep (fun q _ hq => hb11.block q hq)
    have bG11 := bG10.below hb11 bG10.lt
    clear bp10 kW10 bW10 xI10 bX10 gI10 bG10
    clear hv1
    have cX0 : w11.cell? ⟨w6.heap.size, 0, none⟩ = some (.int .i64 t.kind) := bX11.cell 0
    have cX1 : w11.cell? ⟨w6.heap.size, 1, none⟩ = some (.slice L3 t.labels.length l3) := bX11.cell 1
    have cX2 : w11.cell? ⟨w6.heap.size, 2, none⟩ = some (.slice A3 t.args.length a3) := bX11.cell 2
    go_wp2_with fail
    clear cX0 cX1 cX2
    refine (markType_any t _ _ 1 w11 xI11 (by omega) (by omega) (fun q hq => by have := hq.2; omega)).mono ?_
    rintro e w12 ⟨rfl, _, ho12⟩
    have sz12 := ho12.size
    have cb12 := OnlyIn.below cb11 ho12 cb11.size (fun q hq => by have := hq.1; omega)
    have bp12 : Whole1 w12 (w.heap.size) _ _ := (ho12.block (w.heap.size) bp11.lt (fun h => by have := h.1; have := h.2; omega)).trans bp11
    have bW12 : Whole1 w12 (w4.heap.size) _ _ := (ho12.block (w4.heap.size) bW11.lt (fun h => by have := h.1; have := h.2; omega)).trans bW11
    have bG12 : Whole1 w12 (w8.heap.size) _ _ := (ho12.block (w8.heap.size) bG11.lt (fun h => by have := h.1; have := h.2; omega)).trans bG11
    have gI12 := gI11.keep (fun q hq hlt => ho12.block q hlt (fun h => by have := hq.1; have := hq.2; have := h.1; have := h.2; omega))
    have kW12 := OnlyIn.below kW11 ho12 kW11.size (fun q hq => by have := hq.1; omega)
    clear bp11 kW11 bW11 xI11 bX11 gI11 bG11
    have cG0 : w12.cell? ⟨w8.heap.size, 0, none⟩ = some (.int .i64 r.kind) := bG12.cell 0
    have cG1 : w12.cell? ⟨w8.heap.size, 1, none⟩ = some (.int .i64 r.num) := bG12.cell 1
    have cG2 : w12.cell? ⟨w8.heap.size, 2, none⟩ = some (.string r.name) := bG12.cell 2
    have cG3 : w12.cell? ⟨w8.heap.size, 3, none⟩ = some (.slice L4 r.labels.length l4) := bG12.cell 3
    have cG4 : w12.cell? ⟨w8.heap.size, 4, none⟩ = some (.slice A4 r.args.length a4) := bG12.cell 4
    have cW0 : w12.cell? ⟨w4.heap.size, 0, none⟩ = some (.int .i64 r.kind) := bW12.cell 0
    have cW1 : w12.cell? ⟨w4.heap.size, 1, none⟩ = some (.int .i64 r.num) := bW12.cell 1
    have cW2 : w12.cell? ⟨w4.heap.size, 2, none⟩ = some (.string r.name) := bW12.cell 2
    have cW3 : w12.cell? ⟨w4.heap.size, 3, none⟩ = some (.slice L2 r.labels.length l2) := bW12.cell 3
    have cW4 : w12.cell? ⟨w4.heap.size, 4, none⟩ = some (.slice A2 r.args.length a2) := bW12.cell 4
    go_wp2_with fail
    clear cG0 cG1 cG2 cG3 cG4 cW0 cW1 cW2 cW3 cW4
    refine (HEr.out _ _ w12 gI12.here ((hwT.lift kW12).more kW12.size)).mono ?_
    rintro e w13 ⟨rfl, hb13⟩
    have cb13 := cb12.trans (hb13.mono cb12.size)
    have sz13 := hb13.size
    have bp13 := bp12.below hb13 bp12.lt
    have bW13 := bW12.below hb13 bW12.lt
    have bG13 := bG12.below hb13 bG12.lt
    have gI13 := gI12.keep (fun q _ hq => hb13.block q hq)
    have kW13 := kW12.trans (hb13.mono kW12.size)
    clear bp12 bW12 bG12 gI12 kW12
    have cG0 : w13.cell? ⟨w8.heap.size, 0, none⟩ = some (.int .i64 r.kind) := bG13.cell 0
    have cG1 : w13.cell? ⟨w8.heap.size, 1, none⟩ = some (.int .i64 r.num) := bG13.cell 1
    have cG2 : w13.cell? ⟨w8.heap.size, 2, none⟩ = some (.string r.name) := bG13.cell 2
    have cG3 : w13.cell? ⟨w8.heap.size, 3, none⟩ = some (.slice L4 r.labels.length l4) := bG13.cell 3
    have cG4 : w13.cell? ⟨w8.heap.size, 4, none⟩ = some (.slice A4 r.args.length a4) := bG13.cell 4
    go_wp2_with fail
    clear cG0 cG1 cG2 cG3 cG4
    refine (markValue_any r _ _ 1 w13 gI13 (by omega) (by omega) (fun q hq => by have := hq.2; omega)).mono ?_
    rintro e w14 ⟨rfl, gM14, ho14⟩
    have sz14 := ho14.size
    have cb14 := OnlyIn.below cb13 ho14 cb13.size (fun q hq => by have := hq.1; omega)
    have bp14 : Whole1 w14 (w.heap.size) _ _ := (ho14.block (w.heap.size) bp13.lt (fun h => by have := h.1; have := h.2; omega)).trans bp13
    have bW14 : Whole1 w14 (w4.heap.size) _ _ := (ho14.block (w4.heap.size) bW13.lt (fun h => by have := h.1; have := h.2; omega)).trans bW13
    have bG14 : Whole1 w14 (w8.heap.size) _ _ := (ho14.block (w8.heap.size) bG13.lt (fun h => by have := h.1; have := h.2; omega)).trans bG13
    have kW14 := OnlyIn.below kW13 ho14 kW13.size (fun q hq => by have := hq.1; omega)
    clear bp13 bW13 bG13 gI13 kW13
    have cG0 : w14.cell? ⟨w8.heap.size, 0, none⟩ = some (.int .i64 r.kind) := bG14.cell 0
    have cG1 : w14.cell? ⟨w8.heap.size, 1, none⟩ = some (.int .i64 r.num) := bG14.cell 1
    have cG2 : w14.cell? ⟨w8.heap.size, 2, none⟩ = some (.string r.name) := bG14.cell 2
    have cG3 : w14.cell? ⟨w8.heap.size, 3, none⟩ = some (.slice L4 r.labels.length l4) := bG14.cell 3
    have cG4 : w14.cell? ⟨w8.heap.size, 4, none⟩ = some (.slice A4 r.args.length a4) := bG14.cell 4
    go_wp2_with fail
    clear cG0 cG1 cG2 cG3 cG4
    refine (heldValue_any r _ 1 w14 gM14.here (by omega) (by omega)).mono ?_
    rintro e w15 ⟨rfl, hb15⟩
    have cb15 := cb14.trans (hb15.mono cb14.size)
    have sz15 := hb15.size
    have bp15 := bp14.below hb15 bp14.lt
    have bW15 := bW14.below hb15 bW14.lt
    have bG15 := bG14.below hb15 bG14.lt
    have kW15 := kW14.trans (hb15.mono kW14.size)
    have gM15 := gM14.keep (fun q _ hq => hb15.block q hq)
    clear bp14 bW14 bG14 kW14 gM14
    have cp0 : w15.cell? ⟨w.heap.size, 0, none⟩ = some (.int .i64 t.kind) := bp15.cell 0
    have cp1 : w15.cell? ⟨w.heap.size, 1, none⟩ = some (.slice L0 t.labels.length l0) := bp15.cell 1
    have cp2 : w15.cell? ⟨w.heap.size, 2, none⟩ = some (.slice A0 t.args.length a0) := bp15.cell 2
    go_wp2_with fail
    clear cp0 cp1 cp2
    refine (HTa.out w15 ((ha0.lift cb15).more cb15.size)).mono ?_
    rintro e w16 ⟨u5, rfl, hu16, hb16⟩
    have cb16 := cb15.trans (hb16.mono cb15.size)
    have sz16 := hb16.size
    have bp16 := bp15.below hb16 bp15.lt
    have bW16 := bW15.below hb16 bW15.lt
    have bG16 := bG15.below hb16 bG15.lt
    have kW16 := kW15.trans (hb16.mono kW15.size)
    have gM16 := gM15.keep (fun q _ hq => hb16.block q hq)
    clear bp15 bW15 bG15 kW15 gM15
    have hu' := OwnT.of hu16
    clear hu16
    go_wp2_with fail
    refine (HI.out u5 w16 hu').mono ?_
    rintro e w17 ⟨u6, rfl, hh17, hb17⟩
    have cb17 := cb16.trans (hb17.mono cb16.size)
    have sz17 := hb17.size
    have bp17 := bp16.below hb17 bp16.lt
    have bW17 := bW16.below hb17 bW16.lt
    have bG17 := bG16.below hb17 bG16.lt
    have kW17 := kW16.trans (hb17.mono kW16.size)
    have gM17 := gM16.keep (fun q _ hq => hb17.block q hq)
    clear bp16 bW16 bG16 kW16 gM16
    clear hu'
    obtain ⟨L5, l5, A5, a5, _, rfl, _⟩ := hh17.open
    have hhT17 := hh17.here
    clear hh17
    obtain ⟨hb18, bH18, hz18⟩ := boxes1 w17 51 #[.int .i64 r.kind, .int .i64 r.num, .string r.name, .slice L5 r.labels.length l5, .slice A5 r.args.length a5]
    have dW := bW17.below hb18 bW17.lt
    have cW0 : (w17.alloc (.cells #[.int .i64 r.kind, .int .i64 r.num, .string r.name, .slice L5 r.labels.length l5, .slice A5 r.args.length a5] 51)).cell? ⟨w4.heap.size, 0, none⟩ = some (.int .i64 r.kind) := dW.cell 0
    have cW1 : (w17.alloc (.cells #[.int .i64 r.kind, .int .i64 r.num, .string r.name, .slice L5 r.labels.length l5, .slice A5 r.args.length a5] 51)).cell? ⟨w4.heap.size, 1, none⟩ = some (.int .i64 r.num) := dW.cell 1
    have cW2 : (w17.alloc (.cells #[.int .i64 r.kind, .int .i64 r.num, .string r.name, .slice L5 r.labels.length l5, .slice A5 r.args.length a5] 51)).cell? ⟨w4.heap.size, 2, none⟩ = some (.string r.name) := dW.cell 2
    have cW3 : (w17.alloc (.cells #[.int .i64 r.kind, .int .i64 r.num, .string r.name, .slice L5 r.labels.length l5, .slice A5 r.args.length a5] 51)).cell? ⟨w4.heap.size, 3, none⟩ = some (.slice L2 r.labels.length l2) := dW.cell 3
    have cW4 : (w17.alloc (.cells #[.int .i64 r.kind, .int .i64 r.num, .string r.name, .slice L5 r.labels.length l5, .slice A5 r.args.length a5] 51)).cell? ⟨w4.heap.size, 4, none⟩ = some (.slice A2 r.args.length a2) := dW.cell 4
    go_wp2_with fail
    clear dW cW0 cW1 cW2 cW3 cW4
    generalize w17.alloc (.cells #[.int .i64 r.kind, .int .i64 r.num, .string r.name, .slice L5 r.labels.length l5, .slice A5 r.args.length a5] 51) = w18 at *
    have zz18 : w17.heap.size < w18.heap.size := by omega
    clear hz18
    have cb18 := cb17.trans (hb18.mono cb17.size)
    have sz18 := hb18.size
    have bp18 := bp17.below hb18 bp17.lt
    have bW18 := bW17.below hb18 bW17.lt
    have bG18 := bG17.below hb18 bG17.lt
    have kW18 := kW17.trans (hb18.mono kW17.size)
    have gM18 := gM17.keep (fun q _ hq => hb18.block q hq)
    have hhT18 := hhT17.up hb18
    clear bp17 bW17 bG17 kW17 gM17 hhT17
    refine (HEr.out _ _ w18 hhT18 ((hwT.lift kW18).more kW18.size)).mono ?_
    rintro e w19 ⟨rfl, hb19⟩
    have cb19 := cb18.trans (hb19.mono cb18.size)
    have sz19 := hb19.size
    have bp19 := bp18.below hb19 bp18.lt
    have bW19 := bW18.below hb19 bW18.lt
    have bG19 := bG18.below hb19 bG18.lt
    have kW19 := kW18.trans (hb19.mono kW18.size)
    have gM19 := gM18.keep (fun q _ hq => hb19.block q hq)
    have hhT19 := hhT18.up hb19
    have bH19 := bH18.below hb19 bH18.lt
    clear bp18 bW18 bG18 kW18 gM18 hhT18 bH18
    have cG0 : w19.cell? ⟨w8.heap.size, 0, none⟩ = some (.int .i64 r.kind) := bG19.cell 0
    have cG1 : w19.cell? ⟨w8.heap.size, 1, none⟩ = some (.int .i64 r.num) := bG19.cell 1
    have cG2 : w19.cell? ⟨w8.heap.size, 2, none⟩ = some (.string r.name) := bG19.cell 2
    have cG3 : w19.cell? ⟨w8.heap.size, 3, none⟩ = some (.slice L4 r.labels.length l4) := bG19.cell 3
    have cG4 : w19.cell? ⟨w8.heap.size, 4, none⟩ = some (.slice A4 r.args.length a4) := bG19.cell 4
    go_wp2_with fail
    clear cG0 cG1 cG2 cG3 cG4
    refine (heldValue_any r _ 1 w19 gM19.here (by omega) (by omega)).mono ?_
    rintro e w20 ⟨rfl, hb20⟩
    have cb20 := cb19.trans (hb20.mono cb19.size)
    have sz20 := hb20.size
    have bp20 := bp19.below hb20 bp19.lt
    have bW20 := bW19.below hb20 bW19.lt
    have bG20 := bG19.below hb20 bG19.lt
    have kW20 := kW19.trans (hb20.mono kW19.size)
    have gM20 := gM19.keep (fun q _ hq => hb20.block q hq)
    have hhT20 := hhT19.up hb20
    have bH20 := bH19.below hb20 bH19.lt
    clear bp19 bW19 bG19 kW19 gM19 hhT19 bH19
    go_wp2
    go_ret
    exact ⟨rfl, cb20⟩

theorem own : ownKnob Try.prog.godebug = none := by kernel_rfl
theorem laidOut : laidOutB Try.prog = true := by kernel_rfl

set_option maxRecDepth 100000 in
theorem lifted (os : Os) (started : os.Started) (H : Type) (enc : TypeId × Value → H) :
    ReturnsInHanded {} Try.checked os 7 .any (Rows.fnExactDefaultOfSpec.pre6 enc Try.prog Try.f7 Rows.fnExactDefaultOfRow.domain false) (Rows.fnExactDefaultOfSpec.post enc Try.prog Try.f7 false true false false) := by
  refine law_lifted (C := Try.checked) (bt := 4) own laidOut started (by kernel_rfl) Try.func7 rfl rfl Try.underlying4 (by kernel_rfl) ?_
    (ChangeSpec.witness6 (enc := enc) (C := Try.checked) false ⟨#[], #[.agg #[.int .i64 0, .slice none 0 0, .slice none 0 0]], []⟩ 8 (by kernel_rfl) (by kernel_rfl) (by kernel_rfl) (by kernel_rfl)) ?_
  · intro ds hd
    have : ds.length = 1 := hd
    match ds, this with
    | [d1], _ => rfl
  · intro W base args ds p hval0 hA0 hlt
    have hval : ∀ (j : Nat) t v, Try.f7.params[j]? = some t → args[j]? = some v → Value.okWide Try.prog W .any base t v := hval0
    have hA : DataW.TrodAll enc Try.prog W 0 (fun _ => true) true Try.f7.params.toList args.toList ds p := hA0
    rw [Try.params7] at hA hval
    obtain ⟨v0, d0, rfl, rfl, h0⟩ := trodAll_one hA
    obtain ⟨a0, ra0⟩ := open_type_arg (hval 0 40 v0 rfl rfl) h0 (fun x hx => hlt x (by simp [hx]))
    exact walk a0 v0 W ra0

theorem over : Rows.FnExactDefaultOfSaid :=
  OpenClaim.holds_of_wide 7 Try.f7 rfl rfl rfl rfl rfl rfl rfl ⟨rfl, rfl, rfl, rfl, rfl⟩ rfl rfl rfl rfl rfl (by kernel_rfl) Try.func7 (by kernel_rfl)
    (of_decide_eq_true (by kernel_rfl)) (by unfold Func.isWrapper; rw [if_neg (of_decide_eq_false (by kernel_rfl))]; exact ⟨rfl, rfl⟩)
    (fun os started H enc _ => lifted os started H enc)

theorem proved : Rows.FnExactDefaultOfSaid := over

end Go.Proofs.Ytinkanbaiflhdaa.lawDefaultOf
