/- FnTypeText: for every code the law of the syntax of types hands back true. No condition. -/
import Derived.Test.YtmacbkcjeamaeaaRows
import Derived.Test.YtmacbkcjeamaeaaLaw
import Derived.Test.YtmacbkcjeamaeaaOpenBytes
import Derived.Test.YtmacbkcjeamaeaaDraw4
import Derived.Test.YtmacbkcjeamaeaaSpecParse
import Derived.Test.YtmacbkcjeamaeaaImplEqual
import Derived.Test.YtmacbkcjeamaeaaImplFormatT
import Derived.Test.YtmacbkcjeamaeaaImplParseT
namespace Go.Proofs.Ytmacbkcjeamaeaa.lawFnTypeText
open Go.ChangeShapes Go.WideShapes Go.ChangeAt Go.RowKit
open Go.ChangeMaps (open_string shut_string)

theorem parse_sz (s : ByteArray) : szTy ((parseB s).getD zeroTy) ≤ s.size := by
  cases h : parseB s with
  | none => simp [zeroTy, szTy, szTys, sumSizes]
  | some t =>
    have h1 := parseB_some h
    have h2 : s.data.toList.length = s.size := by simp
    have h3 := rdTy_full 8 t (by have := h1.1; unfold validB at this; simp only [Bool.and_eq_true, decide_eq_true_eq] at this; exact this.2) (by have := h1.1; unfold validB at this; simp only [Bool.and_eq_true, decide_eq_true_eq] at this; exact this.1.2) []
    have h4 := (rdTy_sound 8 _ _ _ h3).2
    rw [h1.2] at h4
    show szTy t ≤ s.size
    omega

set_option maxHeartbeats 4000000 in
set_option maxRecDepth 100000 in
theorem walk (A : Option Addr) (n cap : Nat) (w : World) (hd : BytesAt w w.heap.size A n) (hn : n ≤ maxLen) :
    Calls Try.prog 3 #[.slice A n cap] w (TrueBelow w) := by
  unfold maxLen at hn
  by_cases h1 : (1048576 : Int) < n
  · clear hd
    go_enter Try.func3, Try.ntmps3
    go_wp2
    go_ret
    exact ⟨rfl, Below.refl _ _⟩
  · skip
    have HD := Lib.hid hd
    clear hd
    go_enter Try.func3, Try.ntmps3
    go_wp2_with (first | (go_at_call 8; go_in) | fail)
    refine (drawFormatType_any A n cap w HD.out (by omega)).mono ?_
    rintro e w1 ⟨⟨v, t, rfl, hI1, hz1⟩, hb1⟩
    obtain ⟨L1, l1, A1, a1, _, rfl, _⟩ := hI1.open
    have oT1 := OwnT.of hI1
    have cb1 := hb1
    obtain ⟨hx2, bT2, hs2⟩ := boxes1 w1 27 #[.int .i64 t.kind, .slice L1 t.labels.length l1, .slice A1 t.args.length a1]
    have oT2 := oT1.up hx2
    have cb2 := cb1.trans (hx2.mono cb1.size)
    clear hI1 hb1 oT1 hs2
    go_upto_region 4 with fail
    generalize w1.alloc (.cells #[.int .i64 t.kind, .slice L1 t.labels.length l1, .slice A1 t.args.length a1] 27) = w2 at *
    have ct0 : w2.cell? ⟨w1.heap.size, 0, none⟩ = some (.int .i64 t.kind) := bT2.cell 0
    have ct1 : w2.cell? ⟨w1.heap.size, 1, none⟩ = some (.slice L1 t.labels.length l1) := bT2.cell 1
    have ct2 : w2.cell? ⟨w1.heap.size, 2, none⟩ = some (.slice A1 t.args.length a1) := bT2.cell 2
    go_wp2_with fail
    refine (implFormat_any t _ w2 oT2 (by omega)).mono ?_
    rintro e w3 ⟨rfl, hb3⟩
    have oT3 := oT2.up hb3
    have bT3 := bT2.below hb3 bT2.lt
    have cb3 := cb2.trans (hb3.mono cb2.size)
    have hfl := format_len t
    clear ct0 ct1 ct2 oT2 bT2
    go_wp2_with fail
    refine (implParse_any (formatB t) w3 (by omega)).mono ?_
    rintro e w4 ⟨vx, rfl, hIx, hb4⟩
    have oT4 := oT3.up hb4
    have bT4 := bT3.below hb4 bT3.lt
    have cb4 := cb3.trans (hb4.mono cb3.size)
    clear oT3 bT3
    cases hvb : validB t
    · have HPB : Hid (parseB (formatB t) = none) := Lib.hid (parseB_none fun u hu he => by
        have h1 : formatB t = ⟨#[]⟩ := by unfold formatB; rw [hvb]; rfl
        rw [h1] at he
        unfold validB at hu
        simp only [Bool.and_eq_true, decide_eq_true_eq] at hu
        have h2 := (rdTy_sound 8 _ _ _ (rdTy_full 8 u hu.2 hu.1.2 [])).2
        rw [he] at h2
        simp at h2)
      rw [HPB.out] at hIx
      obtain ⟨L2, l2, A2, a2, _, rfl, _⟩ := hIx.open
      have oX4 := OwnT.of hIx
      obtain ⟨hx5, bX5, hs5⟩ := boxes1 w4 27 #[.int .i64 zeroTy.kind, .slice L2 zeroTy.labels.length l2, .slice A2 zeroTy.args.length a2]
      have oX5 := oX4.up hx5
      have oT5 := oT4.up hx5
      have bT5 := bT4.below hx5 bT4.lt
      have cb5 := cb4.trans (hx5.mono cb4.size)
      clear hIx oX4 oT4 bT4 hs5
      go_upto_region 6 with fail
      generalize w4.alloc (.cells #[.int .i64 zeroTy.kind, .slice L2 zeroTy.labels.length l2, .slice A2 zeroTy.args.length a2] 27) = w5 at *
      rw [HPB.out]
      have ct0 : w5.cell? ⟨w1.heap.size, 0, none⟩ = some (.int .i64 t.kind) := bT5.cell 0
      have ct1 : w5.cell? ⟨w1.heap.size, 1, none⟩ = some (.slice L1 t.labels.length l1) := bT5.cell 1
      have ct2 : w5.cell? ⟨w1.heap.size, 2, none⟩ = some (.slice A1 t.args.length a1) := bT5.cell 2
      go_wp2_with fail
      refine (specFormat_any t _ w5 oT5.here (by omega)).mono ?_
      rintro e w6 ⟨rfl, hb6⟩
      have hqf : ((formatB t).toList == (formatB t).toList) = true := by simp
      have oT6 := oT5.up hb6
      have oX6 := oX5.up hb6
      have bT6 := bT5.below hb6 bT5.lt
      have bX6 := bX5.below hb6 bX5.lt
      have cb6 := cb5.trans (hb6.mono cb5.size)
      clear ct0 ct1 ct2 oT5 oX5 bT5 bX5
      generalize formatB t = ft at *
      have ct0 : w6.cell? ⟨w1.heap.size, 0, none⟩ = some (.int .i64 t.kind) := bT6.cell 0
      have ct1 : w6.cell? ⟨w1.heap.size, 1, none⟩ = some (.slice L1 t.labels.length l1) := bT6.cell 1
      have ct2 : w6.cell? ⟨w1.heap.size, 2, none⟩ = some (.slice A1 t.args.length a1) := bT6.cell 2
      go_wp2_with fail
      refine (specValid_any t _ w6 oT6.here (by omega)).mono ?_
      rintro e w7 ⟨rfl, hb7⟩
      rw [hvb]
      have cb7 := cb6.trans (hb7.mono cb6.size)
      clear ct0 ct1 ct2 oT6 oX6 bT6 bX6 hvb
      go_wp2_with fail
      refine (drawParseType_any A n cap w7 (HD.out.below cb7 |>.keepMore cb7.size) (by omega)).mono ?_
      rintro e wD ⟨⟨tx, rfl, htx⟩, hbD⟩
      have cbD := cb7.trans (hbD.mono cb7.size)
      go_wp2_with fail
      refine (implParse_any tx wD (by omega)).mono ?_
      rintro e wP ⟨vy, rfl, hIy, hbP⟩
      have cbP := cbD.trans (hbP.mono cbD.size)
      cases hp : parseB tx with
      | none =>
        rw [hp] at hIy
        obtain ⟨L5, l5, A5, a5, _, rfl, _⟩ := hIy.open
        have oY := OwnT.of hIy
        obtain ⟨hxY, bY, hsY⟩ := boxes1 wP 27 #[.int .i64 zeroTy.kind, .slice L5 zeroTy.labels.length l5, .slice A5 zeroTy.args.length a5]
        have oY2 := oY.up hxY
        have cbY := cbP.trans (hxY.mono cbP.size)
        clear hIy oY hsY
        go_upto_region 10 with fail
        generalize wP.alloc (.cells #[.int .i64 zeroTy.kind, .slice L5 zeroTy.labels.length l5, .slice A5 zeroTy.args.length a5] 27) = wY at *
        go_wp2_with fail
        refine (specParse_any tx wY (by omega)).mono ?_
        rintro e wQ ⟨vq, rfl, hIq, hbQ⟩
        rw [hp] at hIq
        obtain ⟨L6, l6, A6, a6, _, rfl, _⟩ := hIq.open
        have cbQ := cbY.trans (hbQ.mono cbY.size)
        have oY3 := oY2.up hbQ
        have bY3 := bY.below hbQ bY.lt
        obtain ⟨hxR, bR, hsR⟩ := boxes1 wQ 27 #[.int .i64 zeroTy.kind, .slice L6 zeroTy.labels.length l6, .slice A6 zeroTy.args.length a6]
        have oY4 := oY3.up hxR
        have bY4 := bY3.below hxR bY3.lt
        have cbR := cbQ.trans (hxR.mono cbQ.size)
        have HPB := Lib.hid hp
        clear hIq bY oY2 oY3 bY3 hsR bR hp
        go_upto_region 11 with fail
        generalize wQ.alloc (.cells #[.int .i64 zeroTy.kind, .slice L6 zeroTy.labels.length l6, .slice A6 zeroTy.args.length a6] 27) = wR at *
        rw [HPB.out]
        go_wp2
        go_ret
        exact ⟨rfl, cbR⟩
      | some u =>
        rw [hp] at hIy
        obtain ⟨L5, l5, A5, a5, _, rfl, _⟩ := hIy.open
        have oY := OwnT.of hIy
        obtain ⟨hxY, bY, hsY⟩ := boxes1 wP 27 #[.int .i64 u.kind, .slice L5 u.labels.length l5, .slice A5 u.args.length a5]
        have oY2 := oY.up hxY
        have cbY := cbP.trans (hxY.mono cbP.size)
        clear hIy oY hsY
        go_upto_region 10 with fail
        generalize wP.alloc (.cells #[.int .i64 u.kind, .slice L5 u.labels.length l5, .slice A5 u.args.length a5] 27) = wY at *
        go_wp2_with fail
        refine (specParse_any tx wY (by omega)).mono ?_
        rintro e wQ ⟨vq, rfl, hIq, hbQ⟩
        rw [hp] at hIq
        obtain ⟨L6, l6, A6, a6, _, rfl, _⟩ := hIq.open
        have cbQ := cbY.trans (hbQ.mono cbY.size)
        have oY3 := oY2.up hbQ
        have bY3 := bY.below hbQ bY.lt
        obtain ⟨hxR, bR, hsR⟩ := boxes1 wQ 27 #[.int .i64 u.kind, .slice L6 u.labels.length l6, .slice A6 u.args.length a6]
        have oY4 := oY3.up hxR
        have bY4 := bY3.below hxR bY3.lt
        have cbR := cbQ.trans (hxR.mono cbQ.size)
        have HPB := Lib.hid hp
        clear hIq bY oY2 oY3 bY3 hsR bR hp
        go_upto_region 11 with fail
        generalize wQ.alloc (.cells #[.int .i64 u.kind, .slice L6 u.labels.length l6, .slice A6 u.args.length a6] 27) = wR at *
        rw [HPB.out]
        have cy0 : wR.cell? ⟨wP.heap.size, 0, none⟩ = some (.int .i64 u.kind) := bY4.cell 0
        have cy1 : wR.cell? ⟨wP.heap.size, 1, none⟩ = some (.slice L5 u.labels.length l5) := bY4.cell 1
        have cy2 : wR.cell? ⟨wP.heap.size, 2, none⟩ = some (.slice A5 u.args.length a5) := bY4.cell 2
        have hps := parseB_some HPB.out
        have hfu : formatB u = tx := by
          unfold formatB
          rw [hps.1, if_pos rfl]
          apply ByteArray.ext
          apply Array.toList_inj.1
          rw [← hps.2]
        have hsu : szTy u ≤ 1048576 := by
          have h1 := parse_sz tx
          rw [HPB.out] at h1
          have h2 : szTy u ≤ tx.size := h1
          omega
        have HFU := Lib.hid hfu
        have hq : (tx.toList == tx.toList) = true := by simp
        clear hps hfu
        go_wp2_with fail
        refine (implFormat_any u _ wR oY4 hsu).mono ?_
        rintro e wZ ⟨rfl, hbZ⟩
        rw [HFU.out]
        go_wp2
        go_ret
        exact ⟨rfl, cbR.trans (hbZ.mono cbR.size)⟩
    · have HPB : Hid (parseB (formatB t) = some t) := Lib.hid (parseB_of hvb (by unfold formatB; rw [hvb]; rfl))
      rw [HPB.out] at hIx
      obtain ⟨L2, l2, A2, a2, _, rfl, _⟩ := hIx.open
      have oX4 := OwnT.of hIx
      obtain ⟨hx5, bX5, hs5⟩ := boxes1 w4 27 #[.int .i64 t.kind, .slice L2 t.labels.length l2, .slice A2 t.args.length a2]
      have oX5 := oX4.up hx5
      have oT5 := oT4.up hx5
      have bT5 := bT4.below hx5 bT4.lt
      have cb5 := cb4.trans (hx5.mono cb4.size)
      clear hIx oX4 oT4 bT4 hs5
      go_upto_region 6 with fail
      generalize w4.alloc (.cells #[.int .i64 t.kind, .slice L2 t.labels.length l2, .slice A2 t.args.length a2] 27) = w5 at *
      rw [HPB.out]
      have ct0 : w5.cell? ⟨w1.heap.size, 0, none⟩ = some (.int .i64 t.kind) := bT5.cell 0
      have ct1 : w5.cell? ⟨w1.heap.size, 1, none⟩ = some (.slice L1 t.labels.length l1) := bT5.cell 1
      have ct2 : w5.cell? ⟨w1.heap.size, 2, none⟩ = some (.slice A1 t.args.length a1) := bT5.cell 2
      go_wp2_with fail
      refine (specFormat_any t _ w5 oT5.here (by omega)).mono ?_
      rintro e w6 ⟨rfl, hb6⟩
      have hqf : ((formatB t).toList == (formatB t).toList) = true := by simp
      have oT6 := oT5.up hb6
      have oX6 := oX5.up hb6
      have bT6 := bT5.below hb6 bT5.lt
      have bX6 := bX5.below hb6 bX5.lt
      have cb6 := cb5.trans (hb6.mono cb5.size)
      clear ct0 ct1 ct2 oT5 oX5 bT5 bX5
      generalize formatB t = ft at *
      have ct0 : w6.cell? ⟨w1.heap.size, 0, none⟩ = some (.int .i64 t.kind) := bT6.cell 0
      have ct1 : w6.cell? ⟨w1.heap.size, 1, none⟩ = some (.slice L1 t.labels.length l1) := bT6.cell 1
      have ct2 : w6.cell? ⟨w1.heap.size, 2, none⟩ = some (.slice A1 t.args.length a1) := bT6.cell 2
      go_wp2_with fail
      refine (specValid_any t _ w6 oT6.here (by omega)).mono ?_
      rintro e w7 ⟨rfl, hb7⟩
      rw [hvb]
      have cb7 := cb6.trans (hb7.mono cb6.size)
      have oT7 := oT6.up hb7
      have oX7 := oX6.up hb7
      have bT7 := bT6.below hb7 bT6.lt
      have bX7 := bX6.below hb7 bX6.lt
      clear ct0 ct1 ct2 oT6 oX6 bT6 bX6 hvb
      have ct0 : w7.cell? ⟨w1.heap.size, 0, none⟩ = some (.int .i64 t.kind) := bT7.cell 0
      have ct1 : w7.cell? ⟨w1.heap.size, 1, none⟩ = some (.slice L1 t.labels.length l1) := bT7.cell 1
      have ct2 : w7.cell? ⟨w1.heap.size, 2, none⟩ = some (.slice A1 t.args.length a1) := bT7.cell 2
      have cx0 : w7.cell? ⟨w4.heap.size, 0, none⟩ = some (.int .i64 t.kind) := bX7.cell 0
      have cx1 : w7.cell? ⟨w4.heap.size, 1, none⟩ = some (.slice L2 t.labels.length l2) := bX7.cell 1
      have cx2 : w7.cell? ⟨w4.heap.size, 2, none⟩ = some (.slice A2 t.args.length a2) := bX7.cell 2
      go_wp2_with fail
      refine (implEqual_any t t _ _ w7 oX7 oT7 (by have := size_le_sz t; omega)).mono ?_
      rintro e w8 ⟨rfl, hb8⟩
      rw [eqTyB_yes (rfl : t = t)]
      have cb8 := cb7.trans (hb8.mono cb7.size)
      clear ct0 ct1 ct2 cx0 cx1 cx2 oT7 oX7 bT7 bX7
      go_wp2_with fail
      refine (drawParseType_any A n cap w8 (HD.out.below cb8 |>.keepMore cb8.size) (by omega)).mono ?_
      rintro e wD ⟨⟨tx, rfl, htx⟩, hbD⟩
      have cbD := cb8.trans (hbD.mono cb8.size)
      go_wp2_with fail
      refine (implParse_any tx wD (by omega)).mono ?_
      rintro e wP ⟨vy, rfl, hIy, hbP⟩
      have cbP := cbD.trans (hbP.mono cbD.size)
      cases hp : parseB tx with
      | none =>
        rw [hp] at hIy
        obtain ⟨L5, l5, A5, a5, _, rfl, _⟩ := hIy.open
        have oY := OwnT.of hIy
        obtain ⟨hxY, bY, hsY⟩ := boxes1 wP 27 #[.int .i64 zeroTy.kind, .slice L5 zeroTy.labels.length l5, .slice A5 zeroTy.args.length a5]
        have oY2 := oY.up hxY
        have cbY := cbP.trans (hxY.mono cbP.size)
        clear hIy oY hsY
        go_upto_region 10 with fail
        generalize wP.alloc (.cells #[.int .i64 zeroTy.kind, .slice L5 zeroTy.labels.length l5, .slice A5 zeroTy.args.length a5] 27) = wY at *
        go_wp2_with fail
        refine (specParse_any tx wY (by omega)).mono ?_
        rintro e wQ ⟨vq, rfl, hIq, hbQ⟩
        rw [hp] at hIq
        obtain ⟨L6, l6, A6, a6, _, rfl, _⟩ := hIq.open
        have cbQ := cbY.trans (hbQ.mono cbY.size)
        have oY3 := oY2.up hbQ
        have bY3 := bY.below hbQ bY.lt
        obtain ⟨hxR, bR, hsR⟩ := boxes1 wQ 27 #[.int .i64 zeroTy.kind, .slice L6 zeroTy.labels.length l6, .slice A6 zeroTy.args.length a6]
        have oY4 := oY3.up hxR
        have bY4 := bY3.below hxR bY3.lt
        have cbR := cbQ.trans (hxR.mono cbQ.size)
        have HPB := Lib.hid hp
        clear hIq bY oY2 oY3 bY3 hsR bR hp
        go_upto_region 11 with fail
        generalize wQ.alloc (.cells #[.int .i64 zeroTy.kind, .slice L6 zeroTy.labels.length l6, .slice A6 zeroTy.args.length a6] 27) = wR at *
        rw [HPB.out]
        go_wp2
        go_ret
        exact ⟨rfl, cbR⟩
      | some u =>
        rw [hp] at hIy
        obtain ⟨L5, l5, A5, a5, _, rfl, _⟩ := hIy.open
        have oY := OwnT.of hIy
        obtain ⟨hxY, bY, hsY⟩ := boxes1 wP 27 #[.int .i64 u.kind, .slice L5 u.labels.length l5, .slice A5 u.args.length a5]
        have oY2 := oY.up hxY
        have cbY := cbP.trans (hxY.mono cbP.size)
        clear hIy oY hsY
        go_upto_region 10 with fail
        generalize wP.alloc (.cells #[.int .i64 u.kind, .slice L5 u.labels.length l5, .slice A5 u.args.length a5] 27) = wY at *
        go_wp2_with fail
        refine (specParse_any tx wY (by omega)).mono ?_
        rintro e wQ ⟨vq, rfl, hIq, hbQ⟩
        rw [hp] at hIq
        obtain ⟨L6, l6, A6, a6, _, rfl, _⟩ := hIq.open
        have cbQ := cbY.trans (hbQ.mono cbY.size)
        have oY3 := oY2.up hbQ
        have bY3 := bY.below hbQ bY.lt
        obtain ⟨hxR, bR, hsR⟩ := boxes1 wQ 27 #[.int .i64 u.kind, .slice L6 u.labels.length l6, .slice A6 u.args.length a6]
        have oY4 := oY3.up hxR
        have bY4 := bY3.below hxR bY3.lt
        have cbR := cbQ.trans (hxR.mono cbQ.size)
        have HPB := Lib.hid hp
        clear hIq bY oY2 oY3 bY3 hsR bR hp
        go_upto_region 11 with fail
        generalize wQ.alloc (.cells #[.int .i64 u.kind, .slice L6 u.labels.length l6, .slice A6 u.args.length a6] 27) = wR at *
        rw [HPB.out]
        have cy0 : wR.cell? ⟨wP.heap.size, 0, none⟩ = some (.int .i64 u.kind) := bY4.cell 0
        have cy1 : wR.cell? ⟨wP.heap.size, 1, none⟩ = some (.slice L5 u.labels.length l5) := bY4.cell 1
        have cy2 : wR.cell? ⟨wP.heap.size, 2, none⟩ = some (.slice A5 u.args.length a5) := bY4.cell 2
        have hps := parseB_some HPB.out
        have hfu : formatB u = tx := by
          unfold formatB
          rw [hps.1, if_pos rfl]
          apply ByteArray.ext
          apply Array.toList_inj.1
          rw [← hps.2]
        have hsu : szTy u ≤ 1048576 := by
          have h1 := parse_sz tx
          rw [HPB.out] at h1
          have h2 : szTy u ≤ tx.size := h1
          omega
        have HFU := Lib.hid hfu
        have hq : (tx.toList == tx.toList) = true := by simp
        clear hps hfu
        go_wp2_with fail
        refine (implFormat_any u _ wR oY4 hsu).mono ?_
        rintro e wZ ⟨rfl, hbZ⟩
        rw [HFU.out]
        go_wp2
        go_ret
        exact ⟨rfl, cbR.trans (hbZ.mono cbR.size)⟩

theorem own : ownKnob Try.prog.godebug = none := by kernel_rfl
theorem laidOut : laidOutB Try.prog = true := by kernel_rfl

set_option maxRecDepth 100000 in
theorem lifted (os : Os) (started : os.Started) (H : Type) (enc : TypeId × Value → H) :
    ReturnsInHanded {} Try.checked os 3 .any (Rows.fnTypeTextSpec.pre6 enc Try.prog Try.f3 Rows.fnTypeTextRow.domain false) (Rows.fnTypeTextSpec.post enc Try.prog Try.f3 false true false false) := by
  refine law_lifted (C := Try.checked) (bt := 4) own laidOut started (by kernel_rfl) Try.func3 rfl rfl Try.underlying4 (by kernel_rfl) ?_
    (ChangeSpec.witness6 (enc := enc) (C := Try.checked) false ⟨#[], #[.slice none 0 0], []⟩ 8 (by kernel_rfl) (by kernel_rfl) (by kernel_rfl) (by kernel_rfl)) ?_
  · intro ds hd
    have : ds.length = 1 := hd
    match ds, this with
    | [d1], _ => rfl
  · intro W base args ds p hval0 hA0 hlt
    have hval : ∀ (j : Nat) t v, Try.f3.params[j]? = some t → args[j]? = some v → Value.okWide Try.prog W .any base t v := hval0
    have hA : DataW.TrodAll enc Try.prog W 0 (fun _ => true) true Try.f3.params.toList args.toList ds p := hA0
    rw [Try.params3] at hA hval
    obtain ⟨v0, d0, rfl, rfl, h0⟩ := trodAll_one hA
    obtain ⟨A0, a0, c0, rfl, ra0, la0⟩ := open_bytes_arg Try.underlying22 Try.underlying5 (by kernel_rfl) (hval 0 22 v0 rfl rfl) h0 (fun x hx => hlt x (by simp [hx]))
    exact walk A0 a0 c0 W ra0 la0

theorem over : Rows.FnTypeTextSaid :=
  OpenClaim.holds_of_wide 3 Try.f3 rfl rfl rfl rfl rfl rfl rfl ⟨rfl, rfl, rfl, rfl, rfl⟩ rfl rfl rfl rfl rfl (by kernel_rfl) Try.func3 (by kernel_rfl)
    (of_decide_eq_true (by kernel_rfl)) (by unfold Func.isWrapper; rw [if_neg (of_decide_eq_false (by kernel_rfl))]; exact ⟨rfl, rfl⟩)
    (fun os started H enc _ => lifted os started H enc)

theorem proved : Rows.FnTypeTextSaid := over

end Go.Proofs.Ytmacbkcjeamaeaa.lawFnTypeText
