/- FnValues: for every code the law of values hands back true. No condition. (The card ties the variables to the program's text; the tie is given.) -/
import Derived.Test.YtlmbnefoobameaaDoorRows
import Derived.Test.YtlmbnefoobameaaDoorLawFnValues_1
import Derived.Test.YtlmbnefoobameaaDoorCards
import Derived.Test.YtlmbnefoobameaaDoorTie
import Derived.Test.YtlmbnefoobameaaDoorImplSize
import Derived.Test.YtlmbnefoobameaaDoorVImplSize
import Derived.Test.YtlmbnefoobameaaDoorVDrawHas
import Derived.Test.YtlmbnefoobameaaDoorVDrawEq
import Derived.Test.YtlmbnefoobameaaDoorLawFnValues_3
import Derived.Test.YtlmbnefoobameaaDoorLawFnValues_4
import Derived.Test.YtlmbnefoobameaaDoorSpecHas
import Derived.Test.YtlmbnefoobameaaDoorLawFnValues_5
import Derived.SevenTiedAt
import Derived.Deep.DeepCutAuto
import Derived.Deep.RegionHeld3
import Derived.Deep.DrawnRows

namespace Go.Proofs.YtlmbnefoobameaaDoor.lawFnValues
open Go.ChangeShapes Go.WideShapes Go.ChangeAt Go.RowKit
open Go.ChangeMaps (open_string shut_string)

set_option maxHeartbeats 16000000 in
set_option maxRecDepth 100000 in
theorem walk (A : Option Addr) (n cap : Nat) (w : World) (hd : BytesAt w w.heap.size A n) (hn : n ≤ maxLen) (hF0 : FormsAt w) :
    Calls Tryd.prog 3 #[.slice A n cap] w (TrueBelow w) := by
  unfold maxLen at hn
  by_cases h1 : (1048576 : Int) < n
  · clear hd hF0
    go_enter Tryd.func3, Tryd.ntmps3
    go_wp2
    go_ret
    exact ⟨rfl, Below.refl _ _⟩
  · skip
    have HD := Lib.hid hd
    have HF := Lib.hid hF0
    clear hd hF0
    go_enter Tryd.func3, Tryd.ntmps3
    go_wp2_with (first | (go_at_call 6; go_in) | fail)
    refine (drawHasType_any A n cap w HD.out (by omega)).mono ?_
    rintro e w1 ⟨⟨v0, v, t0, y, rfl, hIv, hzv, hsv, hIy, hzy⟩, hb1⟩
    obtain ⟨L1, l1, A1, a1, _, rfl, _⟩ := hIv.open
    obtain ⟨L2, l2, A2, a2, _, rfl, _⟩ := hIy.open
    have oV1 := OwnV.of hIv
    have oT1 := OwnT.of hIy
    have HNV := Lib.hid (smallB_nums v hsv)
    clear hIv hIy hsv
    have cb1 := hb1
    have sz1 := hb1.size
    clear hb1
    obtain ⟨hb2, bV2, bT2, hz2⟩ := boxes2 w1 27 30 #[.int .i64 v.kind, .int .i64 v.num, .string v.name, .slice L1 v.labels.length l1, .slice A1 v.args.length a1] #[.int .i64 y.kind, .slice L2 y.labels.length l2, .slice A2 y.args.length a2]
    have cb2 := cb1.trans (hb2.mono cb1.size)
    have oV2 := oV1.up hb2
    have oT2 := oT1.up hb2
    clear oV1 oT1
    have sz2 := hb2.size
    go_upto_region 4 with fail
    generalize (w1.alloc (.cells #[.int .i64 v.kind, .int .i64 v.num, .string v.name, .slice L1 v.labels.length l1, .slice A1 v.args.length a1] 27)).alloc (.cells #[.int .i64 y.kind, .slice L2 y.labels.length l2, .slice A2 y.args.length a2] 30) = w2 at *
    clear hb2
    go_wp2_with fail
    refine (drawIsValue_any A n cap w2 ((BytesAt.below HD.out cb2).keepMore cb2.size) (by omega)).mono ?_
    rintro e w3 ⟨⟨vq, q, rfl, hIq, hzq, hsq⟩, hb3⟩
    have cb3 := cb2.trans (hb3.mono cb2.size)
    have oV3 := oV2.up hb3
    have oT3 := oT2.up hb3
    have bV3 := bV2.below hb3 bV2.lt
    have bT3 := bT2.below hb3 bT2.lt
    clear oV2 oT2 bV2 bT2
    have sz3 := hb3.size
    clear hb3
    obtain ⟨L3, l3, A3, a3, _, rfl, _⟩ := hIq.open
    have oQ3 := OwnV.of hIq
    have HNQ := Lib.hid (smallB_nums q hsq)
    clear hIq hsq
    obtain ⟨hb4, bQ4, hz4⟩ := boxes1 w3 27 #[.int .i64 q.kind, .int .i64 q.num, .string q.name, .slice L3 q.labels.length l3, .slice A3 q.args.length a3]
    have cb4 := cb3.trans (hb4.mono cb3.size)
    have oV4 := oV3.up hb4
    have oT4 := oT3.up hb4
    have bV4 := bV3.below hb4 bV3.lt
    have bT4 := bT3.below hb4 bT3.lt
    have oQ4 := oQ3.up hb4
    clear oV3 oT3 bV3 bT3 oQ3
    have sz4 := hb4.size
    go_upto_region 5 with fail
    generalize w3.alloc (.cells #[.int .i64 q.kind, .int .i64 q.num, .string q.name, .slice L3 q.labels.length l3, .slice A3 q.args.length a3] 27) = w4 at *
    clear hb4
    go_wp2_with fail
    refine (drawEqualValue_any A n cap w4 ((BytesAt.below HD.out cb4).keepMore cb4.size) (by omega)).mono ?_
    rintro e w5 ⟨⟨va, a, vb, b, rfl, hIa, hza, hsa, hIb, hzb, hsb⟩, hb5⟩
    have cb5 := cb4.trans (hb5.mono cb4.size)
    have oV5 := oV4.up hb5
    have oT5 := oT4.up hb5
    have bV5 := bV4.below hb5 bV4.lt
    have bT5 := bT4.below hb5 bT4.lt
    have oQ5 := oQ4.up hb5
    have bQ5 := bQ4.below hb5 bQ4.lt
    clear oV4 oT4 bV4 bT4 oQ4 bQ4
    have sz5 := hb5.size
    clear hb5
    obtain ⟨L4, l4, A4, a4, _, rfl, _⟩ := hIa.open
    obtain ⟨L5, l5, A5, a5, _, rfl, _⟩ := hIb.open
    have oA5 := OwnV.of hIa
    have oB5 := OwnV.of hIb
    clear hIa hIb hsa hsb
    obtain ⟨hb6, bA6, bB6, hz6⟩ := boxes2 w5 27 27 #[.int .i64 a.kind, .int .i64 a.num, .string a.name, .slice L4 a.labels.length l4, .slice A4 a.args.length a4] #[.int .i64 b.kind, .int .i64 b.num, .string b.name, .slice L5 b.labels.length l5, .slice A5 b.args.length a5]
    have cb6 := cb5.trans (hb6.mono cb5.size)
    have oV6 := oV5.up hb6
    have oT6 := oT5.up hb6
    have bV6 := bV5.below hb6 bV5.lt
    have bT6 := bT5.below hb6 bT5.lt
    have oQ6 := oQ5.up hb6
    have bQ6 := bQ5.below hb6 bQ5.lt
    have oA6 := oA5.up hb6
    have oB6 := oB5.up hb6
    clear oV5 oT5 bV5 bT5 oQ5 bQ5 oA5 oB5
    have sz6 := hb6.size
    go_upto_region 6 with fail
    generalize (w5.alloc (.cells #[.int .i64 a.kind, .int .i64 a.num, .string a.name, .slice L4 a.labels.length l4, .slice A4 a.args.length a4] 27)).alloc (.cells #[.int .i64 b.kind, .int .i64 b.num, .string b.name, .slice L5 b.labels.length l5, .slice A5 b.args.length a5] 27) = w6 at *
    clear hb6
    go_wp2_with fail
    refine (drawDefaultOf_any A n cap w6 ((BytesAt.below HD.out cb6).keepMore cb6.size) (by omega)).mono ?_
    rintro e w7 ⟨⟨vu, u, rfl, hIu, hzu⟩, hb7⟩
    have cb7 := cb6.trans (hb7.mono cb6.size)
    have oV7 := oV6.up hb7
    have oT7 := oT6.up hb7
    have bV7 := bV6.below hb7 bV6.lt
    have bT7 := bT6.below hb7 bT6.lt
    have oQ7 := oQ6.up hb7
    have bQ7 := bQ6.below hb7 bQ6.lt
    have oA7 := oA6.up hb7
    have oB7 := oB6.up hb7
    have bA7 := bA6.below hb7 bA6.lt
    have bB7 := bB6.below hb7 bB6.lt
    clear oV6 oT6 bV6 bT6 oQ6 bQ6 oA6 oB6 bA6 bB6
    have sz7 := hb7.size
    clear hb7
    obtain ⟨L6, l6, A6, a6, _, rfl, _⟩ := hIu.open
    have oU7 := OwnT.of hIu
    clear hIu
    obtain ⟨hb8, bU8, hz8⟩ := boxes1 w7 30 #[.int .i64 u.kind, .slice L6 u.labels.length l6, .slice A6 u.args.length a6]
    have cb8 := cb7.trans (hb8.mono cb7.size)
    have oV8 := oV7.up hb8
    have oT8 := oT7.up hb8
    have bV8 := bV7.below hb8 bV7.lt
    have bT8 := bT7.below hb8 bT7.lt
    have oQ8 := oQ7.up hb8
    have bQ8 := bQ7.below hb8 bQ7.lt
    have oA8 := oA7.up hb8
    have oB8 := oB7.up hb8
    have bA8 := bA7.below hb8 bA7.lt
    have bB8 := bB7.below hb8 bB7.lt
    have oU8 := oU7.up hb8
    clear oV7 oT7 bV7 bT7 oQ7 bQ7 oA7 oB7 bA7 bB7 oU7
    have sz8 := hb8.size
    go_upto_region 7 with fail
    generalize w7.alloc (.cells #[.int .i64 u.kind, .slice L6 u.labels.length l6, .slice A6 u.args.length a6] 30) = w8 at *
    clear hb8
    have hds := defB_small u
    have HDS := Lib.hid (smallB_nums _ hds.1)
    have hdz := hds.2
    clear hds
    have cU0 : w8.cell? ⟨w7.heap.size, 0, none⟩ = some (.int .i64 u.kind) := bU8.cell 0
    have cU1 : w8.cell? ⟨w7.heap.size, 1, none⟩ = some (.slice L6 u.labels.length l6) := bU8.cell 1
    have cU2 : w8.cell? ⟨w7.heap.size, 2, none⟩ = some (.slice A6 u.args.length a6) := bU8.cell 2
    go_wp2_with fail
    refine (implDefault_any u _ w8 oU8 (by omega)).mono ?_
    clear cU0 cU1 cU2
    rintro e w9 ⟨vd, rfl, hId, hb9⟩
    have cb9 := cb8.trans (hb9.mono cb8.size)
    have oV9 := oV8.up hb9
    have oT9 := oT8.up hb9
    have bV9 := bV8.below hb9 bV8.lt
    have bT9 := bT8.below hb9 bT8.lt
    have oQ9 := oQ8.up hb9
    have bQ9 := bQ8.below hb9 bQ8.lt
    have oA9 := oA8.up hb9
    have oB9 := oB8.up hb9
    have bA9 := bA8.below hb9 bA8.lt
    have bB9 := bB8.below hb9 bB8.lt
    have oU9 := oU8.up hb9
    have bU9 := bU8.below hb9 bU8.lt
    clear oV8 oT8 bV8 bT8 oQ8 bQ8 oA8 oB8 bA8 bB8 oU8 bU8
    have sz9 := hb9.size
    clear hb9
    obtain ⟨L7, l7, A7, a7, _, rfl, _⟩ := hId.open
    have oD9 := OwnV.of hId
    clear hId
    have HDH := Lib.hid (fun (h : validB u = true) => defB_has h)
    have HSD := Lib.hid (fun V W h => specDefault_any u V W h (by omega))
    generalize defB u = dv at *
    obtain ⟨hb10, bD10, hz10⟩ := boxes1 w9 27 #[.int .i64 dv.kind, .int .i64 dv.num, .string dv.name, .slice L7 dv.labels.length l7, .slice A7 dv.args.length a7]
    have cb10 := cb9.trans (hb10.mono cb9.size)
    have oV10 := oV9.up hb10
    have oT10 := oT9.up hb10
    have bV10 := bV9.below hb10 bV9.lt
    have bT10 := bT9.below hb10 bT9.lt
    have oQ10 := oQ9.up hb10
    have bQ10 := bQ9.below hb10 bQ9.lt
    have oA10 := oA9.up hb10
    have oB10 := oB9.up hb10
    have bA10 := bA9.below hb10 bA9.lt
    have bB10 := bB9.below hb10 bB9.lt
    have oU10 := oU9.up hb10
    have bU10 := bU9.below hb10 bU9.lt
    have oD10 := oD9.up hb10
    clear oV9 oT9 bV9 bT9 oQ9 bQ9 oA9 oB9 bA9 bB9 oU9 bU9 oD9
    have sz10 := hb10.size
    go_upto_region 8 with fail
    generalize w9.alloc (.cells #[.int .i64 dv.kind, .int .i64 dv.num, .string dv.name, .slice L7 dv.labels.length l7, .slice A7 dv.args.length a7] 27) = w10 at *
    clear hb10
    have hsv1 := size_le_szV v
    have hsq1 := size_le_szV q
    have hsa1 := size_le_szV a
    have hsd1 := size_le_szV dv
    have cV0 : w10.cell? ⟨w1.heap.size, 0, none⟩ = some (.int .i64 v.kind) := bV10.cell 0
    have cV1 : w10.cell? ⟨w1.heap.size, 1, none⟩ = some (.int .i64 v.num) := bV10.cell 1
    have cV2 : w10.cell? ⟨w1.heap.size, 2, none⟩ = some (.string v.name) := bV10.cell 2
    have cV3 : w10.cell? ⟨w1.heap.size, 3, none⟩ = some (.slice L1 v.labels.length l1) := bV10.cell 3
    have cV4 : w10.cell? ⟨w1.heap.size, 4, none⟩ = some (.slice A1 v.args.length a1) := bV10.cell 4
    have cT0 : w10.cell? ⟨w1.heap.size + 1, 0, none⟩ = some (.int .i64 y.kind) := bT10.cell 0
    have cT1 : w10.cell? ⟨w1.heap.size + 1, 1, none⟩ = some (.slice L2 y.labels.length l2) := bT10.cell 1
    have cT2 : w10.cell? ⟨w1.heap.size + 1, 2, none⟩ = some (.slice A2 y.args.length a2) := bT10.cell 2
    go_wp2_with fail
    refine (implHas_any v y _ _ w10 oV10 oT10 (HF.out.below cb10) HNV.out (by omega) (by omega)).mono ?_
    clear cV0 cV1 cV2 cV3 cV4 cT0 cT1 cT2
    rintro e w11 ⟨rfl, hb11⟩
    have cb11 := cb10.trans (hb11.mono cb10.size)
    have oV11 := oV10.up hb11
    have oT11 := oT10.up hb11
    have bV11 := bV10.below hb11 bV10.lt
    have bT11 := bT10.below hb11 bT10.lt
    have oQ11 := oQ10.up hb11
    have bQ11 := bQ10.below hb11 bQ10.lt
    have oA11 := oA10.up hb11
    have oB11 := oB10.up hb11
    have bA11 := bA10.below hb11 bA10.lt
    have bB11 := bB10.below hb11 bB10.lt
    have oU11 := oU10.up hb11
    have bU11 := bU10.below hb11 bU10.lt
    have oD11 := oD10.up hb11
    have bD11 := bD10.below hb11 bD10.lt
    clear oV10 oT10 bV10 bT10 oQ10 bQ10 oA10 oB10 bA10 bB10 oU10 bU10 oD10 bD10
    have sz11 := hb11.size
    clear hb11
    go_upto_region 9 with fail
    have hlV := bV11.lt
    have hlT := bT11.lt
    have hlQ := bQ11.lt
    have hlA := bA11.lt
    have hlB := bB11.lt
    have hlU := bU11.lt
    have hlD := bD11.lt
    have KF : Hid (∀ z, Below w11.heap.size w11 z → z.cell? ⟨w1.heap.size, 0, none⟩ = some (.int .i64 v.kind) ∧ z.cell? ⟨w1.heap.size, 1, none⟩ = some (.int .i64 v.num) ∧ z.cell? ⟨w1.heap.size, 2, none⟩ = some (.string v.name) ∧ z.cell? ⟨w1.heap.size, 3, none⟩ = some (.slice L1 v.labels.length l1) ∧ z.cell? ⟨w1.heap.size, 4, none⟩ = some (.slice A1 v.args.length a1) ∧ z.cell? ⟨w1.heap.size + 1, 0, none⟩ = some (.int .i64 y.kind) ∧ z.cell? ⟨w1.heap.size + 1, 1, none⟩ = some (.slice L2 y.labels.length l2) ∧ z.cell? ⟨w1.heap.size + 1, 2, none⟩ = some (.slice A2 y.args.length a2) ∧ z.cell? ⟨w3.heap.size, 0, none⟩ = some (.int .i64 q.kind) ∧ z.cell? ⟨w3.heap.size, 1, none⟩ = some (.int .i64 q.num) ∧ z.cell? ⟨w3.heap.size, 2, none⟩ = some (.string q.name) ∧ z.cell? ⟨w3.heap.size, 3, none⟩ = some (.slice L3 q.labels.length l3) ∧ z.cell? ⟨w3.heap.size, 4, none⟩ = some (.slice A3 q.args.length a3) ∧ z.cell? ⟨w5.heap.size, 0, none⟩ = some (.int .i64 a.kind) ∧ z.cell? ⟨w5.heap.size, 1, none⟩ = some (.int .i64 a.num) ∧ z.cell? ⟨w5.heap.size, 2, none⟩ = some (.string a.name) ∧ z.cell? ⟨w5.heap.size, 3, none⟩ = some (.slice L4 a.labels.length l4) ∧ z.cell? ⟨w5.heap.size, 4, none⟩ = some (.slice A4 a.args.length a4) ∧ z.cell? ⟨w5.heap.size + 1, 0, none⟩ = some (.int .i64 b.kind) ∧ z.cell? ⟨w5.heap.size + 1, 1, none⟩ = some (.int .i64 b.num) ∧ z.cell? ⟨w5.heap.size + 1, 2, none⟩ = some (.string b.name) ∧ z.cell? ⟨w5.heap.size + 1, 3, none⟩ = some (.slice L5 b.labels.length l5) ∧ z.cell? ⟨w5.heap.size + 1, 4, none⟩ = some (.slice A5 b.args.length a5) ∧ z.cell? ⟨w7.heap.size, 0, none⟩ = some (.int .i64 u.kind) ∧ z.cell? ⟨w7.heap.size, 1, none⟩ = some (.slice L6 u.labels.length l6) ∧ z.cell? ⟨w7.heap.size, 2, none⟩ = some (.slice A6 u.args.length a6) ∧ z.cell? ⟨w9.heap.size, 0, none⟩ = some (.int .i64 dv.kind) ∧ z.cell? ⟨w9.heap.size, 1, none⟩ = some (.int .i64 dv.num) ∧ z.cell? ⟨w9.heap.size, 2, none⟩ = some (.string dv.name) ∧ z.cell? ⟨w9.heap.size, 3, none⟩ = some (.slice L7 dv.labels.length l7) ∧ z.cell? ⟨w9.heap.size, 4, none⟩ = some (.slice A7 dv.args.length a7)) := Lib.hid (fun z h => ⟨(h.cell (p := ⟨w1.heap.size, 0, none⟩) hlV).trans (bV11.cell 0), (h.cell (p := ⟨w1.heap.size, 1, none⟩) hlV).trans (bV11.cell 1), (h.cell (p := ⟨w1.heap.size, 2, none⟩) hlV).trans (bV11.cell 2), (h.cell (p := ⟨w1.heap.size, 3, none⟩) hlV).trans (bV11.cell 3), (h.cell (p := ⟨w1.heap.size, 4, none⟩) hlV).trans (bV11.cell 4), (h.cell (p := ⟨w1.heap.size + 1, 0, none⟩) hlT).trans (bT11.cell 0), (h.cell (p := ⟨w1.heap.size + 1, 1, none⟩) hlT).trans (bT11.cell 1), (h.cell (p := ⟨w1.heap.size + 1, 2, none⟩) hlT).trans (bT11.cell 2), (h.cell (p := ⟨w3.heap.size, 0, none⟩) hlQ).trans (bQ11.cell 0), (h.cell (p := ⟨w3.heap.size, 1, none⟩) hlQ).trans (bQ11.cell 1), (h.cell (p := ⟨w3.heap.size, 2, none⟩) hlQ).trans (bQ11.cell 2), (h.cell (p := ⟨w3.heap.size, 3, none⟩) hlQ).trans (bQ11.cell 3), (h.cell (p := ⟨w3.heap.size, 4, none⟩) hlQ).trans (bQ11.cell 4), (h.cell (p := ⟨w5.heap.size, 0, none⟩) hlA).trans (bA11.cell 0), (h.cell (p := ⟨w5.heap.size, 1, none⟩) hlA).trans (bA11.cell 1), (h.cell (p := ⟨w5.heap.size, 2, none⟩) hlA).trans (bA11.cell 2), (h.cell (p := ⟨w5.heap.size, 3, none⟩) hlA).trans (bA11.cell 3), (h.cell (p := ⟨w5.heap.size, 4, none⟩) hlA).trans (bA11.cell 4), (h.cell (p := ⟨w5.heap.size + 1, 0, none⟩) hlB).trans (bB11.cell 0), (h.cell (p := ⟨w5.heap.size + 1, 1, none⟩) hlB).trans (bB11.cell 1), (h.cell (p := ⟨w5.heap.size + 1, 2, none⟩) hlB).trans (bB11.cell 2), (h.cell (p := ⟨w5.heap.size + 1, 3, none⟩) hlB).trans (bB11.cell 3), (h.cell (p := ⟨w5.heap.size + 1, 4, none⟩) hlB).trans (bB11.cell 4), (h.cell (p := ⟨w7.heap.size, 0, none⟩) hlU).trans (bU11.cell 0), (h.cell (p := ⟨w7.heap.size, 1, none⟩) hlU).trans (bU11.cell 1), (h.cell (p := ⟨w7.heap.size, 2, none⟩) hlU).trans (bU11.cell 2), (h.cell (p := ⟨w9.heap.size, 0, none⟩) hlD).trans (bD11.cell 0), (h.cell (p := ⟨w9.heap.size, 1, none⟩) hlD).trans (bD11.cell 1), (h.cell (p := ⟨w9.heap.size, 2, none⟩) hlD).trans (bD11.cell 2), (h.cell (p := ⟨w9.heap.size, 3, none⟩) hlD).trans (bD11.cell 3), (h.cell (p := ⟨w9.heap.size, 4, none⟩) hlD).trans (bD11.cell 4)⟩)
    have H1 := Lib.hid (fun z (h : Below w11.heap.size w11 z) => specHas_any v y _ _ z (oV11.up h).here (oT11.up h).here (by omega) (by omega))
    have H2 := Lib.hid (fun z (h : Below w11.heap.size w11 z) => implIsValue_any q _ z (oQ11.up h) (HF.out.below (cb11.trans (h.mono cb11.size))) HNQ.out (by omega))
    have H3 := Lib.hid (fun z (h : Below w11.heap.size w11 z) => specIsValue_any q _ z (oQ11.up h).here (by omega))
    have H4 := Lib.hid (fun z (h : Below w11.heap.size w11 z) => V.implSizeV_any q _ z (oQ11.up h) (by omega))
    have H5 := Lib.hid (fun z (h : Below w11.heap.size w11 z) => specSizeV_any q _ z (oQ11.up h).here (by omega))
    have H6 := Lib.hid (fun z (h : Below w11.heap.size w11 z) => V.implEqualV_any a b _ _ z (oA11.up h) (oB11.up h) (by omega))
    have H7 := Lib.hid (fun z (h : Below w11.heap.size w11 z) => specEqualV_any a b _ _ z (oA11.up h).here (oB11.up h).here)
    have H8 := Lib.hid (fun z (h : Below w11.heap.size w11 z) => HSD.out _ z (oU11.up h).here)
    have H9 := Lib.hid (fun z (h : Below w11.heap.size w11 z) v8 (h8 : OwnV z v8 dv) => (show Calls Tryd.prog 18 #[_, v8] z (BoolIs true z) from by
      have h0 := V.implEqualV_any dv dv _ v8 z (oD11.up h) h8 (by omega)
      rw [eqVaB_yes (rfl : dv = dv)] at h0
      exact h0))
    have HOK := Lib.hid (⟨oV11, oT11, oU11, oD11, bV11, bT11, bU11, bD11⟩ : _ ∧ _ ∧ _ ∧ _ ∧ _ ∧ _ ∧ _ ∧ _)
    have HCB := Lib.hid cb11
    generalize hhas : hasTypeB v y = b0 at *
    generalize valueB q = b1 at *
    generalize eqVaB a b = b2 at *
    have hx0 : (b0 != b0) = false := by simp
    have hx1 : (b1 != b1) = false := by simp
    have hx2 : (b2 != b2) = false := by simp
    have hx3 : ((sizeVa q : Int) != (sizeVa q : Int)) = false := by simp
    generalize (sizeVa q : Int) = n1 at *
    have hD := (Below.refl w11.heap.size w11).drew
    have cD := KF.out w11.drew hD
    have HHAS := Lib.hid hhas
    clear hhas oV11 oT11 bV11 bT11 oQ11 bQ11 oA11 oB11 bA11 bB11 oU11 bU11 oD11 bD11
    go_region_held3 (fun z : World => z.cell? ⟨w1.heap.size, 0, none⟩ = some (.int .i64 v.kind) ∧ z.cell? ⟨w1.heap.size, 1, none⟩ = some (.int .i64 v.num) ∧ z.cell? ⟨w1.heap.size, 2, none⟩ = some (.string v.name) ∧ z.cell? ⟨w1.heap.size, 3, none⟩ = some (.slice L1 v.labels.length l1) ∧ z.cell? ⟨w1.heap.size, 4, none⟩ = some (.slice A1 v.args.length a1) ∧ z.cell? ⟨w1.heap.size + 1, 0, none⟩ = some (.int .i64 y.kind) ∧ z.cell? ⟨w1.heap.size + 1, 1, none⟩ = some (.slice L2 y.labels.length l2) ∧ z.cell? ⟨w1.heap.size + 1, 2, none⟩ = some (.slice A2 y.args.length a2) ∧ z.cell? ⟨w3.heap.size, 0, none⟩ = some (.int .i64 q.kind) ∧ z.cell? ⟨w3.heap.size, 1, none⟩ = some (.int .i64 q.num) ∧ z.cell? ⟨w3.heap.size, 2, none⟩ = some (.string q.name) ∧ z.cell? ⟨w3.heap.size, 3, none⟩ = some (.slice L3 q.labels.length l3) ∧ z.cell? ⟨w3.heap.size, 4, none⟩ = some (.slice A3 q.args.length a3) ∧ z.cell? ⟨w5.heap.size, 0, none⟩ = some (.int .i64 a.kind) ∧ z.cell? ⟨w5.heap.size, 1, none⟩ = some (.int .i64 a.num) ∧ z.cell? ⟨w5.heap.size, 2, none⟩ = some (.string a.name) ∧ z.cell? ⟨w5.heap.size, 3, none⟩ = some (.slice L4 a.labels.length l4) ∧ z.cell? ⟨w5.heap.size, 4, none⟩ = some (.slice A4 a.args.length a4) ∧ z.cell? ⟨w5.heap.size + 1, 0, none⟩ = some (.int .i64 b.kind) ∧ z.cell? ⟨w5.heap.size + 1, 1, none⟩ = some (.int .i64 b.num) ∧ z.cell? ⟨w5.heap.size + 1, 2, none⟩ = some (.string b.name) ∧ z.cell? ⟨w5.heap.size + 1, 3, none⟩ = some (.slice L5 b.labels.length l5) ∧ z.cell? ⟨w5.heap.size + 1, 4, none⟩ = some (.slice A5 b.args.length a5) ∧ z.cell? ⟨w7.heap.size, 0, none⟩ = some (.int .i64 u.kind) ∧ z.cell? ⟨w7.heap.size, 1, none⟩ = some (.slice L6 u.labels.length l6) ∧ z.cell? ⟨w7.heap.size, 2, none⟩ = some (.slice A6 u.args.length a6) ∧ z.cell? ⟨w9.heap.size, 0, none⟩ = some (.int .i64 dv.kind) ∧ z.cell? ⟨w9.heap.size, 1, none⟩ = some (.int .i64 dv.num) ∧ z.cell? ⟨w9.heap.size, 2, none⟩ = some (.string dv.name) ∧ z.cell? ⟨w9.heap.size, 3, none⟩ = some (.slice L7 dv.labels.length l7) ∧ z.cell? ⟨w9.heap.size, 4, none⟩ = some (.slice A7 dv.args.length a7))
      (first | (with_reducible exact cD) | (with_reducible exact cu1) | (with_reducible exact cu2) | (with_reducible exact cu3) | (with_reducible exact cu4) | (with_reducible exact cu5) | (with_reducible exact cu6) | (with_reducible exact cu7) | (with_reducible exact cu8) | (with_reducible exact cu9))
      (first | (go_at_call 13; (with_reducible refine (H1.out _ hD).mono ?_); rintro e u1 ⟨rfl, hn1⟩; have hu1 := hD.trans (hn1.mono hD.size); have cu1 := KF.out u1 hu1) | (go_at_call 14; (with_reducible refine (H2.out _ hu1).mono ?_); rintro e u2 ⟨rfl, hn2⟩; have hu2 := hu1.trans (hn2.mono hu1.size); have cu2 := KF.out u2 hu2) | (go_at_call 15; (with_reducible refine (H3.out _ hu2).mono ?_); rintro e u3 ⟨rfl, hn3⟩; have hu3 := hu2.trans (hn3.mono hu2.size); have cu3 := KF.out u3 hu3) | (go_at_call 16; (with_reducible refine (H4.out _ hu3).mono ?_); rintro e u4 ⟨rfl, hn4⟩; have hu4 := hu3.trans (hn4.mono hu3.size); have cu4 := KF.out u4 hu4) | (go_at_call 17; (with_reducible refine (H5.out _ hu4).mono ?_); rintro e u5 ⟨rfl, hn5⟩; have hu5 := hu4.trans (hn5.mono hu4.size); have cu5 := KF.out u5 hu5) | (go_at_call 18; (with_reducible refine (H6.out _ hu5).mono ?_); rintro e u6 ⟨rfl, hn6⟩; have hu6 := hu5.trans (hn6.mono hu5.size); have cu6 := KF.out u6 hu6) | (go_at_call 19; (with_reducible refine (H7.out _ hu6).mono ?_); rintro e u7 ⟨rfl, hn7⟩; have hu7 := hu6.trans (hn7.mono hu6.size); have cu7 := KF.out u7 hu7) | (go_at_call 20; (with_reducible refine (H8.out _ hu7).mono ?_); rintro e u8 ⟨v8, rfl, hI8, hn8⟩; have hu8 := hu7.trans (hn8.mono hu7.size); have cu8 := KF.out u8 hu8; have hO8 := OwnV.of hI8; clear hI8) | (go_at_call 18; (with_reducible refine (H9.out _ hu8 _ hO8).mono ?_); rintro e u9 ⟨rfl, hn9⟩; have hu9 := hu8.trans (hn9.mono hu8.size); have cu9 := KF.out u9 hu9))
    clear cD cu1 cu2 cu3 cu4 cu5 cu6 cu7 cu8 cu9 H1 H2 H3 H4 H5 H6 H7 H8 H9 KF hx0 hx1 hx2 hx3
    obtain ⟨oV11, oT11, oU11, oD11, bV11, bT11, bU11, bD11⟩ := HOK.out
    have cb12 := HCB.out.trans (hu9.mono HCB.out.size)
    have oV12 := oV11.up hu9
    have oT12 := oT11.up hu9
    have oU12 := oU11.up hu9
    have oD12 := oD11.up hu9
    have bV12 := bV11.below hu9 bV11.lt
    have bT12 := bT11.below hu9 bT11.lt
    have bU12 := bU11.below hu9 bU11.lt
    have bD12 := bD11.below hu9 bD11.lt
    clear oV11 oT11 oU11 oD11 bV11 bT11 bU11 bD11
    clear hu9
    generalize u9 = w12 at *
    cases hvu : validB u
    · cases b0
      · skip
        have cU0 : w12.cell? ⟨w7.heap.size, 0, none⟩ = some (.int .i64 u.kind) := bU12.cell 0
        have cU1 : w12.cell? ⟨w7.heap.size, 1, none⟩ = some (.slice L6 u.labels.length l6) := bU12.cell 1
        have cU2 : w12.cell? ⟨w7.heap.size, 2, none⟩ = some (.slice A6 u.args.length a6) := bU12.cell 2
        go_wp2_with fail
        refine (specValid_any u _ w12 oU12.here (by omega)).mono ?_
        clear cU0 cU1 cU2
        rintro e w13 ⟨rfl, hb13⟩
        have cb13 := cb12.trans (hb13.mono cb12.size)
        have oV13 := oV12.up hb13
        have oT13 := oT12.up hb13
        have oU13 := oU12.up hb13
        have oD13 := oD12.up hb13
        have bV13 := bV12.below hb13 bV12.lt
        have bT13 := bT12.below hb13 bT12.lt
        have bU13 := bU12.below hb13 bU12.lt
        have bD13 := bD12.below hb13 bD12.lt
        clear oV12 oT12 oU12 oD12 bV12 bT12 bU12 bD12
        have sz13 := hb13.size
        clear hb13
        rw [hvu]
        have cV0 : w13.cell? ⟨w1.heap.size, 0, none⟩ = some (.int .i64 v.kind) := bV13.cell 0
        have cV1 : w13.cell? ⟨w1.heap.size, 1, none⟩ = some (.int .i64 v.num) := bV13.cell 1
        have cV2 : w13.cell? ⟨w1.heap.size, 2, none⟩ = some (.string v.name) := bV13.cell 2
        have cV3 : w13.cell? ⟨w1.heap.size, 3, none⟩ = some (.slice L1 v.labels.length l1) := bV13.cell 3
        have cV4 : w13.cell? ⟨w1.heap.size, 4, none⟩ = some (.slice A1 v.args.length a1) := bV13.cell 4
        have cT0 : w13.cell? ⟨w1.heap.size + 1, 0, none⟩ = some (.int .i64 y.kind) := bT13.cell 0
        have cT1 : w13.cell? ⟨w1.heap.size + 1, 1, none⟩ = some (.slice L2 y.labels.length l2) := bT13.cell 1
        have cT2 : w13.cell? ⟨w1.heap.size + 1, 2, none⟩ = some (.slice A2 y.args.length a2) := bT13.cell 2
        by_cases hlt0 : 0 < v.args.length
        · have hltI : (0 : Int) < (v.args.length : Int) := by omega
          go_wp2
          go_loop [11] (fun i => i = .int .i64 0) (fun _ => 0)
          case atStart => rfl
          case round =>
            subst hrel
            go_wp2
            go_ret
            exact ⟨rfl, cb13⟩
        · have hltI : ¬ (0 : Int) < (v.args.length : Int) := by omega
          go_wp2
          go_loop [11] (fun i => i = .int .i64 0) (fun _ => 0)
          case atStart => rfl
          case round =>
            subst hrel
            go_wp2
            go_ret
            exact ⟨rfl, cb13⟩
      · skip
        have cU0 : w12.cell? ⟨w7.heap.size, 0, none⟩ = some (.int .i64 u.kind) := bU12.cell 0
        have cU1 : w12.cell? ⟨w7.heap.size, 1, none⟩ = some (.slice L6 u.labels.length l6) := bU12.cell 1
        have cU2 : w12.cell? ⟨w7.heap.size, 2, none⟩ = some (.slice A6 u.args.length a6) := bU12.cell 2
        go_wp2_with fail
        refine (specValid_any u _ w12 oU12.here (by omega)).mono ?_
        clear cU0 cU1 cU2
        rintro e w13 ⟨rfl, hb13⟩
        have cb13 := cb12.trans (hb13.mono cb12.size)
        have oV13 := oV12.up hb13
        have oT13 := oT12.up hb13
        have oU13 := oU12.up hb13
        have oD13 := oD12.up hb13
        have bV13 := bV12.below hb13 bV12.lt
        have bT13 := bT12.below hb13 bT12.lt
        have bU13 := bU12.below hb13 bU12.lt
        have bD13 := bD12.below hb13 bD12.lt
        clear oV12 oT12 oU12 oD12 bV12 bT12 bU12 bD12
        have sz13 := hb13.size
        clear hb13
        rw [hvu]
        have hpr := hasTypeB_parts HHAS.out
        have cV0 : w13.cell? ⟨w1.heap.size, 0, none⟩ = some (.int .i64 v.kind) := bV13.cell 0
        have cV1 : w13.cell? ⟨w1.heap.size, 1, none⟩ = some (.int .i64 v.num) := bV13.cell 1
        have cV2 : w13.cell? ⟨w1.heap.size, 2, none⟩ = some (.string v.name) := bV13.cell 2
        have cV3 : w13.cell? ⟨w1.heap.size, 3, none⟩ = some (.slice L1 v.labels.length l1) := bV13.cell 3
        have cV4 : w13.cell? ⟨w1.heap.size, 4, none⟩ = some (.slice A1 v.args.length a1) := bV13.cell 4
        go_wp2_with fail
        refine ((show Calls Tryd.prog 14 #[_] w13 (BoolIs true w13) from by have h0 := implIsValue_any v _ w13 oV13 (HF.out.below cb13) HNV.out (by omega); rw [hpr.1] at h0; exact h0)).mono ?_
        clear cV0 cV1 cV2 cV3 cV4
        rintro e w14 ⟨rfl, hb14⟩
        have cb14 := cb13.trans (hb14.mono cb13.size)
        have oV14 := oV13.up hb14
        have oT14 := oT13.up hb14
        have oU14 := oU13.up hb14
        have oD14 := oD13.up hb14
        have bV14 := bV13.below hb14 bV13.lt
        have bT14 := bT13.below hb14 bT13.lt
        have bU14 := bU13.below hb14 bU13.lt
        have bD14 := bD13.below hb14 bD13.lt
        clear oV13 oT13 oU13 oD13 bV13 bT13 bU13 bD13
        have sz14 := hb14.size
        clear hb14
        have cT0 : w14.cell? ⟨w1.heap.size + 1, 0, none⟩ = some (.int .i64 y.kind) := bT14.cell 0
        have cT1 : w14.cell? ⟨w1.heap.size + 1, 1, none⟩ = some (.slice L2 y.labels.length l2) := bT14.cell 1
        have cT2 : w14.cell? ⟨w1.heap.size + 1, 2, none⟩ = some (.slice A2 y.args.length a2) := bT14.cell 2
        go_wp2_with fail
        refine ((show Calls Tryd.prog 21 #[_] w14 (BoolIs true w14) from by have h0 := specValid_any y _ w14 oT14.here (by omega); rw [hpr.2.1] at h0; exact h0)).mono ?_
        clear cT0 cT1 cT2
        rintro e w15 ⟨rfl, hb15⟩
        have cb15 := cb14.trans (hb15.mono cb14.size)
        have oV15 := oV14.up hb15
        have oT15 := oT14.up hb15
        have oU15 := oU14.up hb15
        have oD15 := oD14.up hb15
        have bV15 := bV14.below hb15 bV14.lt
        have bT15 := bT14.below hb15 bT14.lt
        have bU15 := bU14.below hb15 bU14.lt
        have bD15 := bD14.below hb15 bD14.lt
        clear oV14 oT14 oU14 oD14 bV14 bT14 bU14 bD14
        have sz15 := hb15.size
        clear hb15
        clear hpr
        by_cases hk3 : y.kind = 3
        · skip
          have hRC := Lib.hid (hasTypeB_rec HHAS.out hk3)
          have hlen := hRC.out.1
          have hvs : OwnVs w15 A1 v.args := by
            obtain ⟨L', l', A', a', hv, _, _, _, _, ha⟩ := oV15.open
            simp at hv
            rw [hv.2.1]
            exact ha
          have hts : OwnTs w15 A2 y.args := by
            obtain ⟨L', l', A', a', hv, _, _, _, ha⟩ := oT15.open
            simp at hv
            rw [hv.2.1]
            exact ha
          have hnv := (numsB_of v HNV.out).2
          have HNA := Lib.hid hnv
          have hm1 := hvs.here.1
          have hm2 := hts.here.1
          unfold maxLen at hm1 hm2
          have hpv := bV15.lt
          have hpt := bT15.lt
          have hk3B : (y.kind == 3) = true := by rw [hk3]; rfl
          clear hnv
          go_wp2
          go_loopw [11] (fun i wr => ∃ k : Nat, k ≤ v.args.length ∧ i = .int .i64 k ∧ Below w15.heap.size w15 wr) (fun i _ => v.args.length - (intOf i).toNat)
          case atStart => exact ⟨0, Nat.zero_le _, rfl, Below.refl _ _⟩
          case round =>
            obtain ⟨k, hk, rfl, hb⟩ := hrel
            have p1 := bV15.below hb hpv
            have p2 := bT15.below hb hpt
            have e0 : wr.cell? ⟨w1.heap.size, 4, none⟩ = some (.slice A1 v.args.length a1) := p1.cell 4
            have e1 : wr.cell? ⟨w1.heap.size + 1, 0, none⟩ = some (.int .i64 y.kind) := p2.cell 0
            have e2 : wr.cell? ⟨w1.heap.size + 1, 2, none⟩ = some (.slice A2 y.args.length a2) := p2.cell 2
            by_cases hlt : k < v.args.length
            · have hlt2 : k < y.args.length := by omega
              have hltI : (k : Int) < (v.args.length : Int) := by omega
              have hltJ : (k : Int) < (y.args.length : Int) := by omega
              obtain ⟨g, L8, l8, A8, a8, rfl, hgl, q0, q1, q2, q3, q4, hVT⟩ := (hvs.up hb).elem k hlt
              obtain ⟨g', L9, l9, A9, a9, rfl, hgl', r0, r1, r2, hTT⟩ := (hts.up hb).elem k hlt2
              have hsk : szVa v.args[k] ≤ 4200 := by have := szVa_part v.args k hlt; have := szVa_eq v; omega
              have hsk2 : szTy y.args[k] ≤ 4200 := by have := szTy_part y.args k hlt2; have := szTy_eq y; omega
              have hbs := hb.size
              have HT := Lib.hid (fun z (h : Below wr.heap.size wr z) => (show Calls Tryd.prog 12 #[_, _] z (BoolIs true z) from by
                have h0 := implHas_any v.args[k] y.args[k] _ _ z (hVT.up h) (hTT.up h) (HF.out.below (cb15.trans ((hb.mono cb15.size).trans (h.mono (Nat.le_trans cb15.size hbs))))) (HNA.out k hlt) (by omega) (by omega)
                rw [hRC.out.2 k hlt hlt2] at h0
                exact h0))
              have hpv2 : w1.heap.size < wr.heap.size := p1.lt
              have hpt2 : w1.heap.size + 1 < wr.heap.size := p2.lt
              have KG : Hid (∀ z, Below wr.heap.size wr z → z.cell? ⟨w1.heap.size, 4, none⟩ = some (.slice (some ⟨g, 0, none⟩) v.args.length a1) ∧ z.cell? ⟨w1.heap.size + 1, 2, none⟩ = some (.slice (some ⟨g', 0, none⟩) y.args.length a2) ∧ z.cell? ⟨g, k * 5, none⟩ = some (.int .i64 v.args[k].kind) ∧ z.cell? ⟨g, k * 5 + 1, none⟩ = some (.int .i64 v.args[k].num) ∧ z.cell? ⟨g, k * 5 + 2, none⟩ = some (.string v.args[k].name) ∧ z.cell? ⟨g, k * 5 + 3, none⟩ = some (.slice L8 v.args[k].labels.length l8) ∧ z.cell? ⟨g, k * 5 + 4, none⟩ = some (.slice A8 v.args[k].args.length a8) ∧ z.cell? ⟨g', k * 3, none⟩ = some (.int .i64 y.args[k].kind) ∧ z.cell? ⟨g', k * 3 + 1, none⟩ = some (.slice L9 y.args[k].labels.length l9) ∧ z.cell? ⟨g', k * 3 + 2, none⟩ = some (.slice A9 y.args[k].args.length a9)) := Lib.hid (fun z h => ⟨(h.cell (p := ⟨w1.heap.size, 4, none⟩) hpv2).trans e0, (h.cell (p := ⟨w1.heap.size + 1, 2, none⟩) hpt2).trans e2, (h.cell (p := ⟨g, k * 5, none⟩) hgl).trans q0, (h.cell (p := ⟨g, k * 5 + 1, none⟩) hgl).trans q1, (h.cell (p := ⟨g, k * 5 + 2, none⟩) hgl).trans q2, (h.cell (p := ⟨g, k * 5 + 3, none⟩) hgl).trans q3, (h.cell (p := ⟨g, k * 5 + 4, none⟩) hgl).trans q4, (h.cell (p := ⟨g', k * 3, none⟩) hgl').trans r0, (h.cell (p := ⟨g', k * 3 + 1, none⟩) hgl').trans r1, (h.cell (p := ⟨g', k * 3 + 2, none⟩) hgl').trans r2⟩)
              have hD := (Below.refl wr.heap.size wr).drew
              have cD := KG.out wr.drew hD
              clear hVT hTT p1 p2
              go_upto_region 16 with fail
              go_region_held3 (fun z : World => z.cell? ⟨w1.heap.size, 4, none⟩ = some (.slice (some ⟨g, 0, none⟩) v.args.length a1) ∧ z.cell? ⟨w1.heap.size + 1, 2, none⟩ = some (.slice (some ⟨g', 0, none⟩) y.args.length a2) ∧ z.cell? ⟨g, k * 5, none⟩ = some (.int .i64 v.args[k].kind) ∧ z.cell? ⟨g, k * 5 + 1, none⟩ = some (.int .i64 v.args[k].num) ∧ z.cell? ⟨g, k * 5 + 2, none⟩ = some (.string v.args[k].name) ∧ z.cell? ⟨g, k * 5 + 3, none⟩ = some (.slice L8 v.args[k].labels.length l8) ∧ z.cell? ⟨g, k * 5 + 4, none⟩ = some (.slice A8 v.args[k].args.length a8) ∧ z.cell? ⟨g', k * 3, none⟩ = some (.int .i64 y.args[k].kind) ∧ z.cell? ⟨g', k * 3 + 1, none⟩ = some (.slice L9 y.args[k].labels.length l9) ∧ z.cell? ⟨g', k * 3 + 2, none⟩ = some (.slice A9 y.args[k].args.length a9))
                (first | (with_reducible exact cD) | (with_reducible exact cu1))
                (first | (go_at_call 12; (with_reducible refine (HT.out _ hD).mono ?_); rintro e u1 ⟨rfl, hn1⟩; have hu1 := hD.trans (hn1.mono hD.size); have cu1 := KG.out u1 hu1))
              all_goals
                clear cD cu1 KG HT
                go_wp2
                go_roundw
                case rel => exact ⟨k + 1, by omega, by go_num, hb.trans (hu1.mono hbs)⟩
                case measure => simp [intOf]; omega
            · have hltI : ¬ (k : Int) < (v.args.length : Int) := by omega
              go_wp2
              go_ret
              exact ⟨rfl, cb15.trans (hb.mono cb15.size)⟩
        · have hk3B : (y.kind == 3) = false := by rw [beq_eq_false_iff_ne]; exact hk3
          have cV0 : w15.cell? ⟨w1.heap.size, 0, none⟩ = some (.int .i64 v.kind) := bV15.cell 0
          have cV1 : w15.cell? ⟨w1.heap.size, 1, none⟩ = some (.int .i64 v.num) := bV15.cell 1
          have cV2 : w15.cell? ⟨w1.heap.size, 2, none⟩ = some (.string v.name) := bV15.cell 2
          have cV3 : w15.cell? ⟨w1.heap.size, 3, none⟩ = some (.slice L1 v.labels.length l1) := bV15.cell 3
          have cV4 : w15.cell? ⟨w1.heap.size, 4, none⟩ = some (.slice A1 v.args.length a1) := bV15.cell 4
          have cT0 : w15.cell? ⟨w1.heap.size + 1, 0, none⟩ = some (.int .i64 y.kind) := bT15.cell 0
          have cT1 : w15.cell? ⟨w1.heap.size + 1, 1, none⟩ = some (.slice L2 y.labels.length l2) := bT15.cell 1
          have cT2 : w15.cell? ⟨w1.heap.size + 1, 2, none⟩ = some (.slice A2 y.args.length a2) := bT15.cell 2
          by_cases hlt0 : 0 < v.args.length
          · have hltI : (0 : Int) < (v.args.length : Int) := by omega
            go_wp2
            go_loop [11] (fun i => i = .int .i64 0) (fun _ => 0)
            case atStart => rfl
            case round =>
              subst hrel
              go_wp2
              go_ret
              exact ⟨rfl, cb15⟩
          · have hltI : ¬ (0 : Int) < (v.args.length : Int) := by omega
            go_wp2
            go_loop [11] (fun i => i = .int .i64 0) (fun _ => 0)
            case atStart => rfl
            case round =>
              subst hrel
              go_wp2
              go_ret
              exact ⟨rfl, cb15⟩
    · cases b0
      · skip
        have cU0 : w12.cell? ⟨w7.heap.size, 0, none⟩ = some (.int .i64 u.kind) := bU12.cell 0
        have cU1 : w12.cell? ⟨w7.heap.size, 1, none⟩ = some (.slice L6 u.labels.length l6) := bU12.cell 1
        have cU2 : w12.cell? ⟨w7.heap.size, 2, none⟩ = some (.slice A6 u.args.length a6) := bU12.cell 2
        go_wp2_with fail
        refine (specValid_any u _ w12 oU12.here (by omega)).mono ?_
        clear cU0 cU1 cU2
        rintro e w13 ⟨rfl, hb13⟩
        have cb13 := cb12.trans (hb13.mono cb12.size)
        have oV13 := oV12.up hb13
        have oT13 := oT12.up hb13
        have oU13 := oU12.up hb13
        have oD13 := oD12.up hb13
        have bV13 := bV12.below hb13 bV12.lt
        have bT13 := bT12.below hb13 bT12.lt
        have bU13 := bU12.below hb13 bU12.lt
        have bD13 := bD12.below hb13 bD12.lt
        clear oV12 oT12 oU12 oD12 bV12 bT12 bU12 bD12
        have sz13 := hb13.size
        clear hb13
        rw [hvu]
        have cU0 : w13.cell? ⟨w7.heap.size, 0, none⟩ = some (.int .i64 u.kind) := bU13.cell 0
        have cU1 : w13.cell? ⟨w7.heap.size, 1, none⟩ = some (.slice L6 u.labels.length l6) := bU13.cell 1
        have cU2 : w13.cell? ⟨w7.heap.size, 2, none⟩ = some (.slice A6 u.args.length a6) := bU13.cell 2
        have cD0 : w13.cell? ⟨w9.heap.size, 0, none⟩ = some (.int .i64 dv.kind) := bD13.cell 0
        have cD1 : w13.cell? ⟨w9.heap.size, 1, none⟩ = some (.int .i64 dv.num) := bD13.cell 1
        have cD2 : w13.cell? ⟨w9.heap.size, 2, none⟩ = some (.string dv.name) := bD13.cell 2
        have cD3 : w13.cell? ⟨w9.heap.size, 3, none⟩ = some (.slice L7 dv.labels.length l7) := bD13.cell 3
        have cD4 : w13.cell? ⟨w9.heap.size, 4, none⟩ = some (.slice A7 dv.args.length a7) := bD13.cell 4
        have HH := Lib.hid (implHas_any dv u _ _ w13 oD13 oU13 (HF.out.below cb13) HDS.out (by omega) (by omega))
        rw [HDH.out hvu] at HH
        go_wp2_with fail
        refine HH.out.mono ?_
        clear cU0 cU1 cU2 cD0 cD1 cD2 cD3 cD4
        rintro e w14 ⟨rfl, hb14⟩
        have cb14 := cb13.trans (hb14.mono cb13.size)
        have oV14 := oV13.up hb14
        have oT14 := oT13.up hb14
        have oU14 := oU13.up hb14
        have oD14 := oD13.up hb14
        have bV14 := bV13.below hb14 bV13.lt
        have bT14 := bT13.below hb14 bT13.lt
        have bU14 := bU13.below hb14 bU13.lt
        have bD14 := bD13.below hb14 bD13.lt
        clear oV13 oT13 oU13 oD13 bV13 bT13 bU13 bD13
        have sz14 := hb14.size
        clear hb14 HH
        have cV0 : w14.cell? ⟨w1.heap.size, 0, none⟩ = some (.int .i64 v.kind) := bV14.cell 0
        have cV1 : w14.cell? ⟨w1.heap.size, 1, none⟩ = some (.int .i64 v.num) := bV14.cell 1
        have cV2 : w14.cell? ⟨w1.heap.size, 2, none⟩ = some (.string v.name) := bV14.cell 2
        have cV3 : w14.cell? ⟨w1.heap.size, 3, none⟩ = some (.slice L1 v.labels.length l1) := bV14.cell 3
        have cV4 : w14.cell? ⟨w1.heap.size, 4, none⟩ = some (.slice A1 v.args.length a1) := bV14.cell 4
        have cT0 : w14.cell? ⟨w1.heap.size + 1, 0, none⟩ = some (.int .i64 y.kind) := bT14.cell 0
        have cT1 : w14.cell? ⟨w1.heap.size + 1, 1, none⟩ = some (.slice L2 y.labels.length l2) := bT14.cell 1
        have cT2 : w14.cell? ⟨w1.heap.size + 1, 2, none⟩ = some (.slice A2 y.args.length a2) := bT14.cell 2
        by_cases hlt0 : 0 < v.args.length
        · have hltI : (0 : Int) < (v.args.length : Int) := by omega
          go_wp2
          go_loop [11] (fun i => i = .int .i64 0) (fun _ => 0)
          case atStart => rfl
          case round =>
            subst hrel
            go_wp2
            go_ret
            exact ⟨rfl, cb14⟩
        · have hltI : ¬ (0 : Int) < (v.args.length : Int) := by omega
          go_wp2
          go_loop [11] (fun i => i = .int .i64 0) (fun _ => 0)
          case atStart => rfl
          case round =>
            subst hrel
            go_wp2
            go_ret
            exact ⟨rfl, cb14⟩
      · skip
        have cU0 : w12.cell? ⟨w7.heap.size, 0, none⟩ = some (.int .i64 u.kind) := bU12.cell 0
        have cU1 : w12.cell? ⟨w7.heap.size, 1, none⟩ = some (.slice L6 u.labels.length l6) := bU12.cell 1
        have cU2 : w12.cell? ⟨w7.heap.size, 2, none⟩ = some (.slice A6 u.args.length a6) := bU12.cell 2
        go_wp2_with fail
        refine (specValid_any u _ w12 oU12.here (by omega)).mono ?_
        clear cU0 cU1 cU2
        rintro e w13 ⟨rfl, hb13⟩
        have cb13 := cb12.trans (hb13.mono cb12.size)
        have oV13 := oV12.up hb13
        have oT13 := oT12.up hb13
        have oU13 := oU12.up hb13
        have oD13 := oD12.up hb13
        have bV13 := bV12.below hb13 bV12.lt
        have bT13 := bT12.below hb13 bT12.lt
        have bU13 := bU12.below hb13 bU12.lt
        have bD13 := bD12.below hb13 bD12.lt
        clear oV12 oT12 oU12 oD12 bV12 bT12 bU12 bD12
        have sz13 := hb13.size
        clear hb13
        rw [hvu]
        have cU0 : w13.cell? ⟨w7.heap.size, 0, none⟩ = some (.int .i64 u.kind) := bU13.cell 0
        have cU1 : w13.cell? ⟨w7.heap.size, 1, none⟩ = some (.slice L6 u.labels.length l6) := bU13.cell 1
        have cU2 : w13.cell? ⟨w7.heap.size, 2, none⟩ = some (.slice A6 u.args.length a6) := bU13.cell 2
        have cD0 : w13.cell? ⟨w9.heap.size, 0, none⟩ = some (.int .i64 dv.kind) := bD13.cell 0
        have cD1 : w13.cell? ⟨w9.heap.size, 1, none⟩ = some (.int .i64 dv.num) := bD13.cell 1
        have cD2 : w13.cell? ⟨w9.heap.size, 2, none⟩ = some (.string dv.name) := bD13.cell 2
        have cD3 : w13.cell? ⟨w9.heap.size, 3, none⟩ = some (.slice L7 dv.labels.length l7) := bD13.cell 3
        have cD4 : w13.cell? ⟨w9.heap.size, 4, none⟩ = some (.slice A7 dv.args.length a7) := bD13.cell 4
        have HH := Lib.hid (implHas_any dv u _ _ w13 oD13 oU13 (HF.out.below cb13) HDS.out (by omega) (by omega))
        rw [HDH.out hvu] at HH
        go_wp2_with fail
        refine HH.out.mono ?_
        clear cU0 cU1 cU2 cD0 cD1 cD2 cD3 cD4
        rintro e w14 ⟨rfl, hb14⟩
        have cb14 := cb13.trans (hb14.mono cb13.size)
        have oV14 := oV13.up hb14
        have oT14 := oT13.up hb14
        have oU14 := oU13.up hb14
        have oD14 := oD13.up hb14
        have bV14 := bV13.below hb14 bV13.lt
        have bT14 := bT13.below hb14 bT13.lt
        have bU14 := bU13.below hb14 bU13.lt
        have bD14 := bD13.below hb14 bD13.lt
        clear oV13 oT13 oU13 oD13 bV13 bT13 bU13 bD13
        have sz14 := hb14.size
        clear hb14 HH
        have hpr := hasTypeB_parts HHAS.out
        have cV0 : w14.cell? ⟨w1.heap.size, 0, none⟩ = some (.int .i64 v.kind) := bV14.cell 0
        have cV1 : w14.cell? ⟨w1.heap.size, 1, none⟩ = some (.int .i64 v.num) := bV14.cell 1
        have cV2 : w14.cell? ⟨w1.heap.size, 2, none⟩ = some (.string v.name) := bV14.cell 2
        have cV3 : w14.cell? ⟨w1.heap.size, 3, none⟩ = some (.slice L1 v.labels.length l1) := bV14.cell 3
        have cV4 : w14.cell? ⟨w1.heap.size, 4, none⟩ = some (.slice A1 v.args.length a1) := bV14.cell 4
        go_wp2_with fail
        refine ((show Calls Tryd.prog 14 #[_] w14 (BoolIs true w14) from by have h0 := implIsValue_any v _ w14 oV14 (HF.out.below cb14) HNV.out (by omega); rw [hpr.1] at h0; exact h0)).mono ?_
        clear cV0 cV1 cV2 cV3 cV4
        rintro e w15 ⟨rfl, hb15⟩
        have cb15 := cb14.trans (hb15.mono cb14.size)
        have oV15 := oV14.up hb15
        have oT15 := oT14.up hb15
        have oU15 := oU14.up hb15
        have oD15 := oD14.up hb15
        have bV15 := bV14.below hb15 bV14.lt
        have bT15 := bT14.below hb15 bT14.lt
        have bU15 := bU14.below hb15 bU14.lt
        have bD15 := bD14.below hb15 bD14.lt
        clear oV14 oT14 oU14 oD14 bV14 bT14 bU14 bD14
        have sz15 := hb15.size
        clear hb15
        have cT0 : w15.cell? ⟨w1.heap.size + 1, 0, none⟩ = some (.int .i64 y.kind) := bT15.cell 0
        have cT1 : w15.cell? ⟨w1.heap.size + 1, 1, none⟩ = some (.slice L2 y.labels.length l2) := bT15.cell 1
        have cT2 : w15.cell? ⟨w1.heap.size + 1, 2, none⟩ = some (.slice A2 y.args.length a2) := bT15.cell 2
        go_wp2_with fail
        refine ((show Calls Tryd.prog 21 #[_] w15 (BoolIs true w15) from by have h0 := specValid_any y _ w15 oT15.here (by omega); rw [hpr.2.1] at h0; exact h0)).mono ?_
        clear cT0 cT1 cT2
        rintro e w16 ⟨rfl, hb16⟩
        have cb16 := cb15.trans (hb16.mono cb15.size)
        have oV16 := oV15.up hb16
        have oT16 := oT15.up hb16
        have oU16 := oU15.up hb16
        have oD16 := oD15.up hb16
        have bV16 := bV15.below hb16 bV15.lt
        have bT16 := bT15.below hb16 bT15.lt
        have bU16 := bU15.below hb16 bU15.lt
        have bD16 := bD15.below hb16 bD15.lt
        clear oV15 oT15 oU15 oD15 bV15 bT15 bU15 bD15
        have sz16 := hb16.size
        clear hb16
        clear hpr
        by_cases hk3 : y.kind = 3
        · skip
          have hRC := Lib.hid (hasTypeB_rec HHAS.out hk3)
          have hlen := hRC.out.1
          have hvs : OwnVs w16 A1 v.args := by
            obtain ⟨L', l', A', a', hv, _, _, _, _, ha⟩ := oV16.open
            simp at hv
            rw [hv.2.1]
            exact ha
          have hts : OwnTs w16 A2 y.args := by
            obtain ⟨L', l', A', a', hv, _, _, _, ha⟩ := oT16.open
            simp at hv
            rw [hv.2.1]
            exact ha
          have hnv := (numsB_of v HNV.out).2
          have HNA := Lib.hid hnv
          have hm1 := hvs.here.1
          have hm2 := hts.here.1
          unfold maxLen at hm1 hm2
          have hpv := bV16.lt
          have hpt := bT16.lt
          have hk3B : (y.kind == 3) = true := by rw [hk3]; rfl
          clear hnv
          go_wp2
          go_loopw [11] (fun i wr => ∃ k : Nat, k ≤ v.args.length ∧ i = .int .i64 k ∧ Below w16.heap.size w16 wr) (fun i _ => v.args.length - (intOf i).toNat)
          case atStart => exact ⟨0, Nat.zero_le _, rfl, Below.refl _ _⟩
          case round =>
            obtain ⟨k, hk, rfl, hb⟩ := hrel
            have p1 := bV16.below hb hpv
            have p2 := bT16.below hb hpt
            have e0 : wr.cell? ⟨w1.heap.size, 4, none⟩ = some (.slice A1 v.args.length a1) := p1.cell 4
            have e1 : wr.cell? ⟨w1.heap.size + 1, 0, none⟩ = some (.int .i64 y.kind) := p2.cell 0
            have e2 : wr.cell? ⟨w1.heap.size + 1, 2, none⟩ = some (.slice A2 y.args.length a2) := p2.cell 2
            by_cases hlt : k < v.args.length
            · have hlt2 : k < y.args.length := by omega
              have hltI : (k : Int) < (v.args.length : Int) := by omega
              have hltJ : (k : Int) < (y.args.length : Int) := by omega
              obtain ⟨g, L8, l8, A8, a8, rfl, hgl, q0, q1, q2, q3, q4, hVT⟩ := (hvs.up hb).elem k hlt
              obtain ⟨g', L9, l9, A9, a9, rfl, hgl', r0, r1, r2, hTT⟩ := (hts.up hb).elem k hlt2
              have hsk : szVa v.args[k] ≤ 4200 := by have := szVa_part v.args k hlt; have := szVa_eq v; omega
              have hsk2 : szTy y.args[k] ≤ 4200 := by have := szTy_part y.args k hlt2; have := szTy_eq y; omega
              have hbs := hb.size
              have HT := Lib.hid (fun z (h : Below wr.heap.size wr z) => (show Calls Tryd.prog 12 #[_, _] z (BoolIs true z) from by
                have h0 := implHas_any v.args[k] y.args[k] _ _ z (hVT.up h) (hTT.up h) (HF.out.below (cb16.trans ((hb.mono cb16.size).trans (h.mono (Nat.le_trans cb16.size hbs))))) (HNA.out k hlt) (by omega) (by omega)
                rw [hRC.out.2 k hlt hlt2] at h0
                exact h0))
              have hpv2 : w1.heap.size < wr.heap.size := p1.lt
              have hpt2 : w1.heap.size + 1 < wr.heap.size := p2.lt
              have KG : Hid (∀ z, Below wr.heap.size wr z → z.cell? ⟨w1.heap.size, 4, none⟩ = some (.slice (some ⟨g, 0, none⟩) v.args.length a1) ∧ z.cell? ⟨w1.heap.size + 1, 2, none⟩ = some (.slice (some ⟨g', 0, none⟩) y.args.length a2) ∧ z.cell? ⟨g, k * 5, none⟩ = some (.int .i64 v.args[k].kind) ∧ z.cell? ⟨g, k * 5 + 1, none⟩ = some (.int .i64 v.args[k].num) ∧ z.cell? ⟨g, k * 5 + 2, none⟩ = some (.string v.args[k].name) ∧ z.cell? ⟨g, k * 5 + 3, none⟩ = some (.slice L8 v.args[k].labels.length l8) ∧ z.cell? ⟨g, k * 5 + 4, none⟩ = some (.slice A8 v.args[k].args.length a8) ∧ z.cell? ⟨g', k * 3, none⟩ = some (.int .i64 y.args[k].kind) ∧ z.cell? ⟨g', k * 3 + 1, none⟩ = some (.slice L9 y.args[k].labels.length l9) ∧ z.cell? ⟨g', k * 3 + 2, none⟩ = some (.slice A9 y.args[k].args.length a9)) := Lib.hid (fun z h => ⟨(h.cell (p := ⟨w1.heap.size, 4, none⟩) hpv2).trans e0, (h.cell (p := ⟨w1.heap.size + 1, 2, none⟩) hpt2).trans e2, (h.cell (p := ⟨g, k * 5, none⟩) hgl).trans q0, (h.cell (p := ⟨g, k * 5 + 1, none⟩) hgl).trans q1, (h.cell (p := ⟨g, k * 5 + 2, none⟩) hgl).trans q2, (h.cell (p := ⟨g, k * 5 + 3, none⟩) hgl).trans q3, (h.cell (p := ⟨g, k * 5 + 4, none⟩) hgl).trans q4, (h.cell (p := ⟨g', k * 3, none⟩) hgl').trans r0, (h.cell (p := ⟨g', k * 3 + 1, none⟩) hgl').trans r1, (h.cell (p := ⟨g', k * 3 + 2, none⟩) hgl').trans r2⟩)
              have hD := (Below.refl wr.heap.size wr).drew
              have cD := KG.out wr.drew hD
              clear hVT hTT p1 p2
              go_upto_region 16 with fail
              go_region_held3 (fun z : World => z.cell? ⟨w1.heap.size, 4, none⟩ = some (.slice (some ⟨g, 0, none⟩) v.args.length a1) ∧ z.cell? ⟨w1.heap.size + 1, 2, none⟩ = some (.slice (some ⟨g', 0, none⟩) y.args.length a2) ∧ z.cell? ⟨g, k * 5, none⟩ = some (.int .i64 v.args[k].kind) ∧ z.cell? ⟨g, k * 5 + 1, none⟩ = some (.int .i64 v.args[k].num) ∧ z.cell? ⟨g, k * 5 + 2, none⟩ = some (.string v.args[k].name) ∧ z.cell? ⟨g, k * 5 + 3, none⟩ = some (.slice L8 v.args[k].labels.length l8) ∧ z.cell? ⟨g, k * 5 + 4, none⟩ = some (.slice A8 v.args[k].args.length a8) ∧ z.cell? ⟨g', k * 3, none⟩ = some (.int .i64 y.args[k].kind) ∧ z.cell? ⟨g', k * 3 + 1, none⟩ = some (.slice L9 y.args[k].labels.length l9) ∧ z.cell? ⟨g', k * 3 + 2, none⟩ = some (.slice A9 y.args[k].args.length a9))
                (first | (with_reducible exact cD) | (with_reducible exact cu1))
                (first | (go_at_call 12; (with_reducible refine (HT.out _ hD).mono ?_); rintro e u1 ⟨rfl, hn1⟩; have hu1 := hD.trans (hn1.mono hD.size); have cu1 := KG.out u1 hu1))
              all_goals
                clear cD cu1 KG HT
                go_wp2
                go_roundw
                case rel => exact ⟨k + 1, by omega, by go_num, hb.trans (hu1.mono hbs)⟩
                case measure => simp [intOf]; omega
            · have hltI : ¬ (k : Int) < (v.args.length : Int) := by omega
              go_wp2
              go_ret
              exact ⟨rfl, cb16.trans (hb.mono cb16.size)⟩
        · have hk3B : (y.kind == 3) = false := by rw [beq_eq_false_iff_ne]; exact hk3
          have cV0 : w16.cell? ⟨w1.heap.size, 0, none⟩ = some (.int .i64 v.kind) := bV16.cell 0
          have cV1 : w16.cell? ⟨w1.heap.size, 1, none⟩ = some (.int .i64 v.num) := bV16.cell 1
          have cV2 : w16.cell? ⟨w1.heap.size, 2, none⟩ = some (.string v.name) := bV16.cell 2
          have cV3 : w16.cell? ⟨w1.heap.size, 3, none⟩ = some (.slice L1 v.labels.length l1) := bV16.cell 3
          have cV4 : w16.cell? ⟨w1.heap.size, 4, none⟩ = some (.slice A1 v.args.length a1) := bV16.cell 4
          have cT0 : w16.cell? ⟨w1.heap.size + 1, 0, none⟩ = some (.int .i64 y.kind) := bT16.cell 0
          have cT1 : w16.cell? ⟨w1.heap.size + 1, 1, none⟩ = some (.slice L2 y.labels.length l2) := bT16.cell 1
          have cT2 : w16.cell? ⟨w1.heap.size + 1, 2, none⟩ = some (.slice A2 y.args.length a2) := bT16.cell 2
          by_cases hlt0 : 0 < v.args.length
          · have hltI : (0 : Int) < (v.args.length : Int) := by omega
            go_wp2
            go_loop [11] (fun i => i = .int .i64 0) (fun _ => 0)
            case atStart => rfl
            case round =>
              subst hrel
              go_wp2
              go_ret
              exact ⟨rfl, cb16⟩
          · have hltI : ¬ (0 : Int) < (v.args.length : Int) := by omega
            go_wp2
            go_loop [11] (fun i => i = .int .i64 0) (fun _ => 0)
            case atStart => rfl
            case round =>
              subst hrel
              go_wp2
              go_ret
              exact ⟨rfl, cb16⟩

theorem own : ownKnob Tryd.prog.godebug = none := by kernel_rfl
theorem laidOut : laidOutB Tryd.prog = true := by kernel_rfl

/-- What the row lists. -/
def laid : List (String × DataW Unit) := Rows.fnValuesRow.laid

set_option maxRecDepth 100000 in
theorem lifted (os : Os) (started : os.Started) (H : Type) (enc : TypeId × Value → H) :
    ReturnsInHanded {} Tryd.checked os 3 .any (fun w args => (Rows.fnValuesSpec.pre enc Tryd.prog Tryd.f3 [] false w args ∧ laidMetH Tryd.prog laid w) ∧ sizedMet enc Tryd.prog Tryd.f3 (OpenSpec.ofChange Rows.fnValuesSpec) false w args)
      (Rows.fnValuesSpec.post enc Tryd.prog Tryd.f3 false true false false) := by
  refine law_lifted_vars (C := Tryd.checked) (bt := 4) own laidOut started (by kernel_rfl) Tryd.func3 (by kernel_rfl) rfl Tryd.underlying4 (by kernel_rfl) ?_
    (ChangeSpec.witness_shaped (enc := enc) (C := Tryd.checked) (os := os) (X := fun w _ => laidMetH Tryd.prog laid w) false (World.laidAll Tryd.prog os laid) #[.slice none 0 0] 8 (World.laidAll_os _ _ _) (World.shaped_of_ZipB (by kernel_rfl) (by kernel_rfl)) (by kernel_rfl) (by kernel_rfl) (by kernel_rfl)
      (by rw [MakeChecks.laidMetH_plain _ _ _ (by kernel_rfl)]; exact laidMet_laidAll _ (by kernel_rfl) (by kernel_rfl))) ?_
  · intro ds gs hd hg
    have h1 : ds.length = 1 := hd
    have h2 : gs.length = 1 := hg
    match ds, gs, h1, h2 with
    | [d1], [g1], _, _ => rfl
  · intro W base args ds p hval0 hA0 hlt hL hsh
    have hval : ∀ (j : Nat) t v, Tryd.f3.params[j]? = some t → args[j]? = some v → Value.okWide Tryd.prog W .any base t v := hval0
    have hA : DataW.TrodAll enc Tryd.prog W 0 (fun _ => true) true Tryd.f3.params.toList args.toList ds p := hA0
    rw [Tryd.params3] at hA hval
    obtain ⟨v0, d0, rfl, rfl, h0⟩ := trodAll_one hA
    obtain ⟨A0, a0, c0, rfl, ra0, la0⟩ := open_bytes_arg Tryd.underlying22 Tryd.underlying5 (by kernel_rfl) (hval 0 22 v0 rfl rfl) h0 (fun x hx => hlt x (by simp [hx]))
    rw [MakeChecks.laidMetH_plain _ _ _ (by kernel_rfl)] at hL
    exact walk A0 a0 c0 W ra0 la0 (formsAt_of (L := laid) (by unfold laid; exact List.mem_cons_self) hL)

theorem over : Rows.FnValuesSaid :=
  OpenClaim.holds_of_wide 3 Tryd.f3 rfl rfl rfl rfl rfl rfl rfl ⟨rfl, rfl, rfl, rfl, rfl⟩ rfl rfl rfl rfl rfl (by kernel_rfl) Tryd.func3 (by kernel_rfl)
    (of_decide_eq_true (by kernel_rfl)) (by unfold Func.isWrapper; rw [if_neg (of_decide_eq_false (by kernel_rfl))]; exact ⟨rfl, rfl⟩)
    (fun os started H enc _ => lifted os started H enc)

theorem proved : Rows.FnValuesCardSaid :=
  Claim7.holds_tied_plain_at .later [] Rows.fnValuesCard.laidKinds true Rows.fnValuesCard.stood.harness true
    over (fun _ h => by cases h) (by kernel_rfl) (fun _ h => by cases h) fnValues_row_tie rfl ⟨rfl, rfl⟩ (by kernel_rfl) rfl
    (fun f fn hf hfn => by
      obtain rfl : f = 3 := Option.some.inj ((show Tryd.prog.funcNamed "loop.example/g00592/laws.FnValues" = some 3 by kernel_rfl).symm.trans hf) |>.symm
      obtain rfl : fn = Tryd.f3 := (Option.some.inj (Tryd.func3.symm.trans hfn)).symm
      exact ⟨by kernel_rfl, fun j t ht => by
        rw [Tryd.params3] at ht
        have hm := Array.mem_of_getElem? ht
        have hall : (#[22].toList.all fun u => !Tryd.prog.wantsStandIn u) = true := by kernel_rfl
        exact (show Tryd.prog.wantsStandIn t = false by simpa using List.all_eq_true.1 hall t (by simpa using hm))⟩)
    (by kernel_rfl)

end Go.Proofs.YtlmbnefoobameaaDoor.lawFnValues
