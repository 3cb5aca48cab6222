/- FnOpticText: for every code the law of the syntax of optics hands back true. No condition. (The card ties the variables to the program's text; the tie is given.) -/
import Derived.Test.YtlmbnefoobameaaGreatDoorRows
import Derived.Test.YtlmbnefoobameaaGreatDoorLawFnOpticText_1
import Derived.Test.YtlmbnefoobameaaGreatDoorCards
import Derived.Test.YtlmbnefoobameaaGreatDoorTie
import Derived.Test.YtlmbnefoobameaaGreatDoorLawFnOpticText_2
import Derived.Test.YtlmbnefoobameaaGreatDoorLawFnOpticText_4
import Derived.Test.YtlmbnefoobameaaGreatDoorLawFnOpticText_5
import Derived.Test.YtlmbnefoobameaaGreatDoorLawFnOpticText_8
import Derived.Test.YtlmbnefoobameaaGreatDoorLawFnOpticText_12
import Derived.Test.YtlmbnefoobameaaGreatDoorLawFnOpticText_13
import Derived.Test.YtlmbnefoobameaaGreatDoorLawFnOpticText_14
import Derived.Test.YtlmbnefoobameaaGreatDoorLawFnOpticText_6
import Derived.SevenTiedAt

namespace Go.Proofs.YtlmbnefoobameaaGreatDoor.lawFnOpticText
open Go.ChangeShapes Go.WideShapes Go.ChangeAt Go.RowKit
open Go.ChangeMaps (open_string shut_string)

/-- The tables lie below the world's size. -/
def NumsUp (w : World) : Prop := OI.NumsO w w.heap.size
theorem NumsUp.up {w w' : World} (h : NumsUp w) (hb : Below w.heap.size w w') : NumsUp w' :=
  have h1 := OI.NumsO.below h hb
  ⟨h1.pow, h1.errs, Nat.lt_of_lt_of_le h1.b1 hb.size, Nat.lt_of_lt_of_le h1.b2 hb.size, Nat.lt_of_lt_of_le h1.b3 hb.size⟩

set_option maxHeartbeats 8000000 in
set_option maxRecDepth 100000 in
theorem walk (A : Option Addr) (n cap : Nat) (w : World) (hd : BytesAt w w.heap.size A n) (hn : n ≤ maxLen) (hN0 : NumsUp w) (hT0 : TabO w) :
    Calls Tryz.prog 3 #[.slice A n cap] w (TrueBelow w) := by
  unfold maxLen at hn
  by_cases h1 : (1048576 : Int) < n
  · clear hd hN0 hT0
    go_enter Tryz.func3, Tryz.ntmps3
    go_wp2
    go_ret
    exact ⟨rfl, Below.refl _ _⟩
  · skip
    have HD := Lib.hid hd
    have HN := Lib.hid hN0
    have HT := Lib.hid hT0
    clear hd hN0 hT0
    go_enter Tryz.func3, Tryz.ntmps3
    go_wp2_with (first | (go_at_call 4; go_in) | fail)
    refine (drawFormatOptic_any A n cap w HD.out (by omega)).mono ?_
    rintro e w1 ⟨⟨v, t, rfl, hI1, hz1⟩, hb1⟩
    obtain ⟨A1, a1, rfl, _⟩ := hI1.open
    have oT1 := OwnO.of hI1
    have cb1 := hb1
    obtain ⟨hx2, bT2, hs2⟩ := boxes1 w1 26 #[.int .i64 t.kind, .string t.name, .int .i64 t.num, .slice A1 t.args.length a1]
    have oT2 := oT1.up hx2
    have cb2 := cb1.trans (hx2.mono cb1.size)
    clear hI1 hb1 oT1 hs2
    go_upto_region 4 with fail
    generalize w1.alloc (.cells #[.int .i64 t.kind, .string t.name, .int .i64 t.num, .slice A1 t.args.length a1] 26) = w2 at *
    have ct0 : w2.cell? ⟨w1.heap.size, 0, none⟩ = some (.int .i64 t.kind) := bT2.cell 0
    have ct1 : w2.cell? ⟨w1.heap.size, 1, none⟩ = some (.string t.name) := bT2.cell 1
    have ct2 : w2.cell? ⟨w1.heap.size, 2, none⟩ = some (.int .i64 t.num) := bT2.cell 2
    have ct3 : w2.cell? ⟨w1.heap.size, 3, none⟩ = some (.slice A1 t.args.length a1) := bT2.cell 3
    go_wp2_with fail
    refine (implFormatO_any t _ w2 oT2 (by omega) (HT.out.below cb2)).mono ?_
    rintro e w3 ⟨rfl, hb3⟩
    have oT3 := oT2.up hb3
    have bT3 := bT2.below hb3 bT2.lt
    have cb3 := cb2.trans (hb3.mono cb2.size)
    have hfl := formatO_len t
    clear ct0 ct1 ct2 ct3 oT2 bT2
    go_wp2_with fail
    refine (implParseO_any (formatOB t) w3 (by omega) (HN.out.up cb3)).mono ?_
    rintro e w4 ⟨vx, rfl, hIx, hb4⟩
    have oT4 := oT3.up hb4
    have bT4 := bT3.below hb4 bT3.lt
    have cb4 := cb3.trans (hb4.mono cb3.size)
    clear oT3 bT3
    cases hvb : opticB t
    · have HPB : Hid (parseOB (formatOB t) = none) := Lib.hid (by
        cases hp : parseOB (formatOB t) with
        | none => rfl
        | some u =>
          have h1 : formatOB t = ⟨#[]⟩ := by unfold formatOB; rw [hvb]; rfl
          have h2 := (parseOB_some hp).2
          have h3 := txtO_pos u
          rw [h2, h1] at h3
          simp at h3)
      rw [HPB.out] at hIx
      obtain ⟨A2, a2, rfl, _⟩ := hIx.open
      have oX4 := OwnO.of hIx
      obtain ⟨hx5, bX5, hs5⟩ := boxes1 w4 26 #[.int .i64 zeroOt.kind, .string zeroOt.name, .int .i64 zeroOt.num, .slice A2 zeroOt.args.length a2]
      have oX5 := oX4.up hx5
      have oT5 := oT4.up hx5
      have bT5 := bT4.below hx5 bT4.lt
      have cb5 := cb4.trans (hx5.mono cb4.size)
      clear hIx oX4 oT4 bT4 hs5
      go_upto_region 6 with fail
      generalize w4.alloc (.cells #[.int .i64 zeroOt.kind, .string zeroOt.name, .int .i64 zeroOt.num, .slice A2 zeroOt.args.length a2] 26) = w5 at *
      rw [HPB.out]
      have ct0 : w5.cell? ⟨w1.heap.size, 0, none⟩ = some (.int .i64 t.kind) := bT5.cell 0
      have ct1 : w5.cell? ⟨w1.heap.size, 1, none⟩ = some (.string t.name) := bT5.cell 1
      have ct2 : w5.cell? ⟨w1.heap.size, 2, none⟩ = some (.int .i64 t.num) := bT5.cell 2
      have ct3 : w5.cell? ⟨w1.heap.size, 3, none⟩ = some (.slice A1 t.args.length a1) := bT5.cell 3
      go_wp2_with fail
      refine (specFormatO_any t _ w5 oT5.here (by omega)).mono ?_
      rintro e w6 ⟨rfl, hb6⟩
      have hqf : ((formatOB t).toList == (formatOB t).toList) = true := by simp
      have oT6 := oT5.up hb6
      have oX6 := oX5.up hb6
      have bT6 := bT5.below hb6 bT5.lt
      have bX6 := bX5.below hb6 bX5.lt
      have cb6 := cb5.trans (hb6.mono cb5.size)
      clear ct0 ct1 ct2 ct3 oT5 oX5 bT5 bX5
      generalize formatOB t = ft at *
      have ct0 : w6.cell? ⟨w1.heap.size, 0, none⟩ = some (.int .i64 t.kind) := bT6.cell 0
      have ct1 : w6.cell? ⟨w1.heap.size, 1, none⟩ = some (.string t.name) := bT6.cell 1
      have ct2 : w6.cell? ⟨w1.heap.size, 2, none⟩ = some (.int .i64 t.num) := bT6.cell 2
      have ct3 : w6.cell? ⟨w1.heap.size, 3, none⟩ = some (.slice A1 t.args.length a1) := bT6.cell 3
      go_wp2_with fail
      refine (specIsOptic_any t _ w6 oT6.here (by omega)).mono ?_
      rintro e w7 ⟨rfl, hb7⟩
      rw [hvb]
      have cb7 := cb6.trans (hb7.mono cb6.size)
      clear ct0 ct1 ct2 ct3 oT6 oX6 bT6 bX6 hvb
      go_wp2_with fail
      refine (drawParseOptic_any A n cap w7 (HD.out.below cb7 |>.keepMore cb7.size) (by omega)).mono ?_
      rintro e wD ⟨⟨tx, rfl, htx⟩, hbD⟩
      have cbD := cb7.trans (hbD.mono cb7.size)
      go_wp2_with fail
      refine (implParseO_any tx wD (by omega) (HN.out.up cbD)).mono ?_
      rintro e wP ⟨vy, rfl, hIy, hbP⟩
      have cbP := cbD.trans (hbP.mono cbD.size)
      cases hp : parseOB tx with
      | none =>
        rw [hp] at hIy
        obtain ⟨A5, a5, rfl, _⟩ := hIy.open
        have oY := OwnO.of hIy
        obtain ⟨hxY, bY, hsY⟩ := boxes1 wP 26 #[.int .i64 zeroOt.kind, .string zeroOt.name, .int .i64 zeroOt.num, .slice A5 zeroOt.args.length a5]
        have oY2 := oY.up hxY
        have cbY := cbP.trans (hxY.mono cbP.size)
        clear hIy oY hsY
        go_upto_region 10 with fail
        generalize wP.alloc (.cells #[.int .i64 zeroOt.kind, .string zeroOt.name, .int .i64 zeroOt.num, .slice A5 zeroOt.args.length a5] 26) = wY at *
        go_wp2_with fail
        refine (specParseO_any tx wY (by omega)).mono ?_
        rintro e wQ ⟨vq, rfl, hIq, hbQ⟩
        rw [hp] at hIq
        obtain ⟨A6, a6, rfl, _⟩ := hIq.open
        have cbQ := cbY.trans (hbQ.mono cbY.size)
        have oY3 := oY2.up hbQ
        have bY3 := bY.below hbQ bY.lt
        obtain ⟨hxR, bR, hsR⟩ := boxes1 wQ 26 #[.int .i64 zeroOt.kind, .string zeroOt.name, .int .i64 zeroOt.num, .slice A6 zeroOt.args.length a6]
        have oY4 := oY3.up hxR
        have bY4 := bY3.below hxR bY3.lt
        have cbR := cbQ.trans (hxR.mono cbQ.size)
        have HPB := Lib.hid hp
        clear hIq bY oY2 oY3 bY3 hsR bR hp
        go_upto_region 11 with fail
        generalize wQ.alloc (.cells #[.int .i64 zeroOt.kind, .string zeroOt.name, .int .i64 zeroOt.num, .slice A6 zeroOt.args.length a6] 26) = wR at *
        rw [HPB.out]
        go_wp2
        go_ret
        exact ⟨rfl, cbR⟩
      | some u =>
        rw [hp] at hIy
        obtain ⟨A5, a5, rfl, _⟩ := hIy.open
        have oY := OwnO.of hIy
        obtain ⟨hxY, bY, hsY⟩ := boxes1 wP 26 #[.int .i64 u.kind, .string u.name, .int .i64 u.num, .slice A5 u.args.length a5]
        have oY2 := oY.up hxY
        have cbY := cbP.trans (hxY.mono cbP.size)
        clear hIy oY hsY
        go_upto_region 10 with fail
        generalize wP.alloc (.cells #[.int .i64 u.kind, .string u.name, .int .i64 u.num, .slice A5 u.args.length a5] 26) = wY at *
        go_wp2_with fail
        refine (specParseO_any tx wY (by omega)).mono ?_
        rintro e wQ ⟨vq, rfl, hIq, hbQ⟩
        rw [hp] at hIq
        obtain ⟨A6, a6, rfl, _⟩ := hIq.open
        have cbQ := cbY.trans (hbQ.mono cbY.size)
        have oY3 := oY2.up hbQ
        have bY3 := bY.below hbQ bY.lt
        obtain ⟨hxR, bR, hsR⟩ := boxes1 wQ 26 #[.int .i64 u.kind, .string u.name, .int .i64 u.num, .slice A6 u.args.length a6]
        have oY4 := oY3.up hxR
        have bY4 := bY3.below hxR bY3.lt
        have cbR := cbQ.trans (hxR.mono cbQ.size)
        have HPB := Lib.hid hp
        clear hIq bY oY2 oY3 bY3 hsR bR hp
        go_upto_region 11 with fail
        generalize wQ.alloc (.cells #[.int .i64 u.kind, .string u.name, .int .i64 u.num, .slice A6 u.args.length a6] 26) = wR at *
        rw [HPB.out]
        have cy0 : wR.cell? ⟨wP.heap.size, 0, none⟩ = some (.int .i64 u.kind) := bY4.cell 0
        have cy1 : wR.cell? ⟨wP.heap.size, 1, none⟩ = some (.string u.name) := bY4.cell 1
        have cy2 : wR.cell? ⟨wP.heap.size, 2, none⟩ = some (.int .i64 u.num) := bY4.cell 2
        have cy3 : wR.cell? ⟨wP.heap.size, 3, none⟩ = some (.slice A5 u.args.length a5) := bY4.cell 3
        have hps := parseOB_some HPB.out
        have hfu : formatOB u = tx := by
          unfold formatOB
          rw [hps.1, if_pos rfl]
          apply ByteArray.ext
          apply Array.toList_inj.1
          rw [← hps.2]
        have hsu : szOt u ≤ 1048576 := by
          have h1 := parseO_sz tx
          rw [HPB.out] at h1
          have h2 : szOt u ≤ tx.size := h1
          omega
        have HFU := Lib.hid hfu
        have hq : (tx.toList == tx.toList) = true := by simp
        clear hps hfu
        go_wp2_with fail
        refine (implFormatO_any u _ wR oY4 hsu (HT.out.below cbR)).mono ?_
        rintro e wZ ⟨rfl, hbZ⟩
        rw [HFU.out]
        go_wp2
        go_ret
        exact ⟨rfl, cbR.trans (hbZ.mono cbR.size)⟩
    · have HPB : Hid (parseOB (formatOB t) = some t) := Lib.hid (parseOB_of hvb (by unfold formatOB; rw [hvb]; rfl))
      rw [HPB.out] at hIx
      obtain ⟨A2, a2, rfl, _⟩ := hIx.open
      have oX4 := OwnO.of hIx
      obtain ⟨hx5, bX5, hs5⟩ := boxes1 w4 26 #[.int .i64 t.kind, .string t.name, .int .i64 t.num, .slice A2 t.args.length a2]
      have oX5 := oX4.up hx5
      have oT5 := oT4.up hx5
      have bT5 := bT4.below hx5 bT4.lt
      have cb5 := cb4.trans (hx5.mono cb4.size)
      clear hIx oX4 oT4 bT4 hs5
      go_upto_region 6 with fail
      generalize w4.alloc (.cells #[.int .i64 t.kind, .string t.name, .int .i64 t.num, .slice A2 t.args.length a2] 26) = w5 at *
      rw [HPB.out]
      have ct0 : w5.cell? ⟨w1.heap.size, 0, none⟩ = some (.int .i64 t.kind) := bT5.cell 0
      have ct1 : w5.cell? ⟨w1.heap.size, 1, none⟩ = some (.string t.name) := bT5.cell 1
      have ct2 : w5.cell? ⟨w1.heap.size, 2, none⟩ = some (.int .i64 t.num) := bT5.cell 2
      have ct3 : w5.cell? ⟨w1.heap.size, 3, none⟩ = some (.slice A1 t.args.length a1) := bT5.cell 3
      go_wp2_with fail
      refine (specFormatO_any t _ w5 oT5.here (by omega)).mono ?_
      rintro e w6 ⟨rfl, hb6⟩
      have hqf : ((formatOB t).toList == (formatOB t).toList) = true := by simp
      have oT6 := oT5.up hb6
      have oX6 := oX5.up hb6
      have bT6 := bT5.below hb6 bT5.lt
      have bX6 := bX5.below hb6 bX5.lt
      have cb6 := cb5.trans (hb6.mono cb5.size)
      clear ct0 ct1 ct2 ct3 oT5 oX5 bT5 bX5
      generalize formatOB t = ft at *
      have ct0 : w6.cell? ⟨w1.heap.size, 0, none⟩ = some (.int .i64 t.kind) := bT6.cell 0
      have ct1 : w6.cell? ⟨w1.heap.size, 1, none⟩ = some (.string t.name) := bT6.cell 1
      have ct2 : w6.cell? ⟨w1.heap.size, 2, none⟩ = some (.int .i64 t.num) := bT6.cell 2
      have ct3 : w6.cell? ⟨w1.heap.size, 3, none⟩ = some (.slice A1 t.args.length a1) := bT6.cell 3
      go_wp2_with fail
      refine (specIsOptic_any t _ w6 oT6.here (by omega)).mono ?_
      rintro e w7 ⟨rfl, hb7⟩
      rw [hvb]
      have cb7 := cb6.trans (hb7.mono cb6.size)
      have oT7 := oT6.up hb7
      have oX7 := oX6.up hb7
      have bT7 := bT6.below hb7 bT6.lt
      have bX7 := bX6.below hb7 bX6.lt
      clear ct0 ct1 ct2 ct3 oT6 oX6 bT6 bX6 hvb
      have ct0 : w7.cell? ⟨w1.heap.size, 0, none⟩ = some (.int .i64 t.kind) := bT7.cell 0
      have ct1 : w7.cell? ⟨w1.heap.size, 1, none⟩ = some (.string t.name) := bT7.cell 1
      have ct2 : w7.cell? ⟨w1.heap.size, 2, none⟩ = some (.int .i64 t.num) := bT7.cell 2
      have ct3 : w7.cell? ⟨w1.heap.size, 3, none⟩ = some (.slice A1 t.args.length a1) := bT7.cell 3
      have cx0 : w7.cell? ⟨w4.heap.size, 0, none⟩ = some (.int .i64 t.kind) := bX7.cell 0
      have cx1 : w7.cell? ⟨w4.heap.size, 1, none⟩ = some (.string t.name) := bX7.cell 1
      have cx2 : w7.cell? ⟨w4.heap.size, 2, none⟩ = some (.int .i64 t.num) := bX7.cell 2
      have cx3 : w7.cell? ⟨w4.heap.size, 3, none⟩ = some (.slice A2 t.args.length a2) := bX7.cell 3
      go_wp2_with fail
      refine (O.implEqualO_any t t _ _ w7 oX7 oT7 (by have := size_le_szO t; omega)).mono ?_
      rintro e w8 ⟨rfl, hb8⟩
      rw [eqOtB_yes (rfl : t = t)]
      have cb8 := cb7.trans (hb8.mono cb7.size)
      clear ct0 ct1 ct2 ct3 cx0 cx1 cx2 cx3 oT7 oX7 bT7 bX7
      go_wp2_with fail
      refine (drawParseOptic_any A n cap w8 (HD.out.below cb8 |>.keepMore cb8.size) (by omega)).mono ?_
      rintro e wD ⟨⟨tx, rfl, htx⟩, hbD⟩
      have cbD := cb8.trans (hbD.mono cb8.size)
      go_wp2_with fail
      refine (implParseO_any tx wD (by omega) (HN.out.up cbD)).mono ?_
      rintro e wP ⟨vy, rfl, hIy, hbP⟩
      have cbP := cbD.trans (hbP.mono cbD.size)
      cases hp : parseOB tx with
      | none =>
        rw [hp] at hIy
        obtain ⟨A5, a5, rfl, _⟩ := hIy.open
        have oY := OwnO.of hIy
        obtain ⟨hxY, bY, hsY⟩ := boxes1 wP 26 #[.int .i64 zeroOt.kind, .string zeroOt.name, .int .i64 zeroOt.num, .slice A5 zeroOt.args.length a5]
        have oY2 := oY.up hxY
        have cbY := cbP.trans (hxY.mono cbP.size)
        clear hIy oY hsY
        go_upto_region 10 with fail
        generalize wP.alloc (.cells #[.int .i64 zeroOt.kind, .string zeroOt.name, .int .i64 zeroOt.num, .slice A5 zeroOt.args.length a5] 26) = wY at *
        go_wp2_with fail
        refine (specParseO_any tx wY (by omega)).mono ?_
        rintro e wQ ⟨vq, rfl, hIq, hbQ⟩
        rw [hp] at hIq
        obtain ⟨A6, a6, rfl, _⟩ := hIq.open
        have cbQ := cbY.trans (hbQ.mono cbY.size)
        have oY3 := oY2.up hbQ
        have bY3 := bY.below hbQ bY.lt
        obtain ⟨hxR, bR, hsR⟩ := boxes1 wQ 26 #[.int .i64 zeroOt.kind, .string zeroOt.name, .int .i64 zeroOt.num, .slice A6 zeroOt.args.length a6]
        have oY4 := oY3.up hxR
        have bY4 := bY3.below hxR bY3.lt
        have cbR := cbQ.trans (hxR.mono cbQ.size)
        have HPB := Lib.hid hp
        clear hIq bY oY2 oY3 bY3 hsR bR hp
        go_upto_region 11 with fail
        generalize wQ.alloc (.cells #[.int .i64 zeroOt.kind, .string zeroOt.name, .int .i64 zeroOt.num, .slice A6 zeroOt.args.length a6] 26) = wR at *
        rw [HPB.out]
        go_wp2
        go_ret
        exact ⟨rfl, cbR⟩
      | some u =>
        rw [hp] at hIy
        obtain ⟨A5, a5, rfl, _⟩ := hIy.open
        have oY := OwnO.of hIy
        obtain ⟨hxY, bY, hsY⟩ := boxes1 wP 26 #[.int .i64 u.kind, .string u.name, .int .i64 u.num, .slice A5 u.args.length a5]
        have oY2 := oY.up hxY
        have cbY := cbP.trans (hxY.mono cbP.size)
        clear hIy oY hsY
        go_upto_region 10 with fail
        generalize wP.alloc (.cells #[.int .i64 u.kind, .string u.name, .int .i64 u.num, .slice A5 u.args.length a5] 26) = wY at *
        go_wp2_with fail
        refine (specParseO_any tx wY (by omega)).mono ?_
        rintro e wQ ⟨vq, rfl, hIq, hbQ⟩
        rw [hp] at hIq
        obtain ⟨A6, a6, rfl, _⟩ := hIq.open
        have cbQ := cbY.trans (hbQ.mono cbY.size)
        have oY3 := oY2.up hbQ
        have bY3 := bY.below hbQ bY.lt
        obtain ⟨hxR, bR, hsR⟩ := boxes1 wQ 26 #[.int .i64 u.kind, .string u.name, .int .i64 u.num, .slice A6 u.args.length a6]
        have oY4 := oY3.up hxR
        have bY4 := bY3.below hxR bY3.lt
        have cbR := cbQ.trans (hxR.mono cbQ.size)
        have HPB := Lib.hid hp
        clear hIq bY oY2 oY3 bY3 hsR bR hp
        go_upto_region 11 with fail
        generalize wQ.alloc (.cells #[.int .i64 u.kind, .string u.name, .int .i64 u.num, .slice A6 u.args.length a6] 26) = wR at *
        rw [HPB.out]
        have cy0 : wR.cell? ⟨wP.heap.size, 0, none⟩ = some (.int .i64 u.kind) := bY4.cell 0
        have cy1 : wR.cell? ⟨wP.heap.size, 1, none⟩ = some (.string u.name) := bY4.cell 1
        have cy2 : wR.cell? ⟨wP.heap.size, 2, none⟩ = some (.int .i64 u.num) := bY4.cell 2
        have cy3 : wR.cell? ⟨wP.heap.size, 3, none⟩ = some (.slice A5 u.args.length a5) := bY4.cell 3
        have hps := parseOB_some HPB.out
        have hfu : formatOB u = tx := by
          unfold formatOB
          rw [hps.1, if_pos rfl]
          apply ByteArray.ext
          apply Array.toList_inj.1
          rw [← hps.2]
        have hsu : szOt u ≤ 1048576 := by
          have h1 := parseO_sz tx
          rw [HPB.out] at h1
          have h2 : szOt u ≤ tx.size := h1
          omega
        have HFU := Lib.hid hfu
        have hq : (tx.toList == tx.toList) = true := by simp
        clear hps hfu
        go_wp2_with fail
        refine (implFormatO_any u _ wR oY4 hsu (HT.out.below cbR)).mono ?_
        rintro e wZ ⟨rfl, hbZ⟩
        rw [HFU.out]
        go_wp2
        go_ret
        exact ⟨rfl, cbR.trans (hbZ.mono cbR.size)⟩

theorem own : ownKnob Tryz.prog.godebug = none := by kernel_rfl
theorem laidOut : laidOutB Tryz.prog = true := by kernel_rfl

/-- What the row lists. -/
def laid : List (String × DataW Unit) := Rows.fnOpticTextRow.laid

set_option maxRecDepth 100000 in
theorem lifted (os : Os) (started : os.Started) (H : Type) (enc : TypeId × Value → H) :
    ReturnsInHanded {} Tryz.checked os 3 .any (fun w args => (Rows.fnOpticTextSpec.pre enc Tryz.prog Tryz.f3 [] false w args ∧ laidMetH Tryz.prog laid w) ∧ sizedMet enc Tryz.prog Tryz.f3 (OpenSpec.ofChange Rows.fnOpticTextSpec) false w args)
      (Rows.fnOpticTextSpec.post enc Tryz.prog Tryz.f3 false true false false) := by
  refine law_lifted_laid (C := Tryz.checked) (bt := 4) own laidOut started (by kernel_rfl) Tryz.func3 rfl rfl Tryz.underlying4 (by kernel_rfl) ?_
    (ChangeSpec.witness_shaped (enc := enc) (C := Tryz.checked) (os := os) (X := fun w _ => laidMetH Tryz.prog laid w) false (World.laidAll Tryz.prog os laid) #[.slice none 0 0] 8 (World.laidAll_os _ _ _) (World.shaped_of_ZipB (by kernel_rfl) (by kernel_rfl)) (by kernel_rfl) (by kernel_rfl) (by kernel_rfl)
      (by rw [MakeChecks.laidMetH_plain _ _ _ (by kernel_rfl)]; exact laidMet_laidAll _ (by kernel_rfl) (by kernel_rfl))) ?_
  · intro ds hd
    have : ds.length = 1 := hd
    match ds, this with
    | [d1], _ => rfl
  · intro W base args ds p hval0 hA0 hlt hL hsh
    have hval : ∀ (j : Nat) t v, Tryz.f3.params[j]? = some t → args[j]? = some v → Value.okWide Tryz.prog W .any base t v := hval0
    have hA : DataW.TrodAll enc Tryz.prog W 0 (fun _ => true) true Tryz.f3.params.toList args.toList ds p := hA0
    rw [Tryz.params3] at hA hval
    obtain ⟨v0, d0, rfl, rfl, h0⟩ := trodAll_one hA
    obtain ⟨A0, a0, c0, rfl, ra0, la0⟩ := open_bytes_arg Tryz.underlying22 Tryz.underlying5 (by kernel_rfl) (hval 0 22 v0 rfl rfl) h0 (fun x hx => hlt x (by simp [hx]))
    rw [MakeChecks.laidMetH_plain _ _ _ (by kernel_rfl)] at hL
    have ht : Pow10At W := tab_of_laid (g := 0) (t := 128) (e := 118) (n := 20) (by kernel_rfl) (by kernel_rfl) Tryz.underlying128 Tryz.underlying118 (by kernel_rfl) (by kernel_rfl) hL (by simp only [laid, Rows.fnOpticTextRow]; exact List.mem_of_getElem? (i := 2) rfl)
    have hsz := block_lt_of_cell (Lib.TabIs.cell ht (g := 0) (by kernel_rfl) 0 (by decide))
    have hE : ErrsAt W := ⟨iface_of_laid (g := 3) (t := 124) (by kernel_rfl) (by kernel_rfl) Tryz.underlying124 hL (by simp only [laid, Rows.fnOpticTextRow]; exact List.mem_of_getElem? (i := 4) rfl),
      iface_of_laid (g := 4) (t := 124) (by kernel_rfl) (by kernel_rfl) Tryz.underlying124 hL (by simp only [laid, Rows.fnOpticTextRow]; exact List.mem_of_getElem? (i := 3) rfl)⟩
    have hsz2 : 3 < W.heap.size ∧ 4 < W.heap.size := by
      obtain ⟨⟨t1, p1, e1⟩, ⟨t2, p2, e2⟩⟩ := hE
      exact ⟨var_lt (by kernel_rfl) e1, var_lt (by kernel_rfl) e2⟩
    exact walk A0 a0 c0 W ra0 la0 ⟨ht, hE, hsz, hsz2.1, hsz2.2⟩ ⟨ht, hsz⟩

theorem over : Rows.FnOpticTextSaid :=
  OpenClaim.holds_of_wide 3 Tryz.f3 rfl rfl rfl rfl rfl rfl rfl ⟨rfl, rfl, rfl, rfl, rfl⟩ rfl rfl rfl rfl rfl (by kernel_rfl) Tryz.func3 (by kernel_rfl)
    (of_decide_eq_true (by kernel_rfl)) (by unfold Func.isWrapper; rw [if_neg (of_decide_eq_false (by kernel_rfl))]; exact ⟨rfl, rfl⟩)
    (fun os started H enc _ => lifted os started H enc)

theorem proved : Rows.FnOpticTextCardSaid :=
  Claim7.holds_tied_plain_at .later [] Rows.fnOpticTextCard.laidKinds true Rows.fnOpticTextCard.stood.harness true
    over (fun _ h => by cases h) (by kernel_rfl) (fun _ h => by cases h) fnOpticText_row_tie rfl ⟨rfl, rfl⟩ (by kernel_rfl) rfl
    (fun f fn hf hfn => by
      obtain rfl : f = 3 := Option.some.inj ((show Tryz.prog.funcNamed "loop.example/g00592/laws.FnOpticText" = some 3 by kernel_rfl).symm.trans hf) |>.symm
      obtain rfl : fn = Tryz.f3 := (Option.some.inj (Tryz.func3.symm.trans hfn)).symm
      exact ⟨by kernel_rfl, fun j t ht => by
        rw [Tryz.params3] at ht
        have hm := Array.mem_of_getElem? ht
        have hall : (#[22].toList.all fun u => !Tryz.prog.wantsStandIn u) = true := by kernel_rfl
        exact (show Tryz.prog.wantsStandIn t = false by simpa using List.all_eq_true.1 hall t (by simpa using hm))⟩)
    (by kernel_rfl)

end Go.Proofs.YtlmbnefoobameaaGreatDoor.lawFnOpticText
