/- FnNames: for every code the law of names hands back true. No condition. -/
import Derived.Test.YtghipacdhpglcaaRows
import Derived.Test.YtghipacdhpglcaaLaw
import Derived.Test.YtghipacdhpglcaaOpenBytes
import Derived.Test.YtghipacdhpglcaaSameTexts
import Derived.Test.YtghipacdhpglcaaDraw2b
import Derived.Test.YtghipacdhpglcaaImplIsName
import Derived.Test.YtghipacdhpglcaaImplWithout
namespace Go.Proofs.Ytghipacdhpglcaa.lawFnNames
open Go.ChangeShapes Go.WideShapes Go.ChangeAt Go.RowKit
open Go.ChangeMaps (open_string shut_string)

set_option maxHeartbeats 4000000 in
set_option maxRecDepth 100000 in
theorem walk (A : Option Addr) (n cap : Nat) (w : World) (hd : BytesAt w w.heap.size A n) (hn : n ≤ maxLen) :
    Calls Try.prog 3 #[.slice A n cap] w (TrueBelow w) := by
  unfold maxLen at hn
  by_cases h1 : (1048576 : Int) < n
  · clear hd
    go_enter Try.func3, Try.ntmps3
    go_wp2
    go_ret
    exact ⟨rfl, Below.refl _ _⟩
  · skip
    have HIN := Lib.hid (fun A n cap W h hn => drawInsertName_any A n cap W h hn)
    have HIX := Lib.hid (fun A n cap W h hn => drawIndexOf_any A n cap W h hn)
    have HAS := Lib.hid (fun A n cap W h hn => drawAreAscending_any A n cap W h hn)
    have HWI := Lib.hid (fun A n cap W h hn => drawWithoutName_any A n cap W h hn)
    have HNA := Lib.hid (fun A n cap W h hn => drawIsName_any A n cap W h hn)
    have HD := Lib.hid hd
    clear hd
    go_enter Try.func3, Try.ntmps3
    have hA0 : BytesAt w w.heap.size A n := HD.out
    go_wp2_with (first | (go_at_call 13; go_in) | fail)
    refine (HIN.out A n cap w hA0 (by omega)).mono ?_
    rintro e w1 ⟨⟨gl, cl, ss, s, rfl, hlc, ls1, hsh, hl5, hs8⟩, hb1⟩
    have cb1 := hb1
    have hA1 := hA0.up hb1
    clear hA0
    have hss := Lib.hid (fun i h => hsh.at i h)
    have hil := insertB_len ss s
    have hwl := withoutB_len ss s
    have hwi := Lib.hid (without_insert ss s)
    have hai := Lib.hid (ascB_insert ss s)
    have hix := idxOf_mem _ s (mem_insert ss s)
    have hish := Lib.hid (hsh.insert s hs8)
    have hsh' := Lib.hid hsh
    clear hsh
    go_wp2_with fail
    refine (implInsert_any _ _ ss s w1 ls1 (by omega) hss.out (by omega)).mono ?_
    rintro e w2 ⟨gx, cx, rfl, hgx, rx, hb2⟩
    have cb2 := cb1.trans (hb2.mono cb1.size)
    have hA2 := hA1.up hb2
    have ls2 := ls1.up hb2
    clear hA1 ls1
    have lx2 := rx.at _ rx.lt
    clear rx
    generalize hxs : insertB ss s = xs at *
    have HXS := Lib.hid hxs
    clear hxs
    go_wp2_with fail
    refine (HIX.out A n cap w2 hA2 (by omega)).mono ?_
    rintro e w3 ⟨⟨A2, c2, s2, t2, rfl, l23, h2sh, h2l, h2t⟩, hb3⟩
    have cb3 := cb2.trans (hb3.mono cb2.size)
    have hA3 := hA2.up hb3
    have ls3 := ls2.up hb3
    have lx3 := lx2.up hb3
    clear hA2 ls2 lx2
    go_wp2_with fail
    refine (HAS.out A n cap w3 hA3 (by omega)).mono ?_
    rintro e w4 ⟨⟨A3, c3, s3, rfl, l34, h3sh, h3l⟩, hb4⟩
    have cb4 := cb3.trans (hb4.mono cb3.size)
    have hA4 := hA3.up hb4
    have ls4 := ls3.up hb4
    have lx4 := lx3.up hb4
    have l24 := l23.up hb4
    clear hA3 ls3 lx3 l23
    go_wp2_with fail
    refine (HWI.out A n cap w4 hA4 (by omega)).mono ?_
    rintro e w5 ⟨⟨A4, c4, s4, t4, rfl, l45, h4sh, h4l, h4t⟩, hb5⟩
    have cb5 := cb4.trans (hb5.mono cb4.size)
    have hA5 := hA4.up hb5
    have ls5 := ls4.up hb5
    have lx5 := lx4.up hb5
    have l25 := l24.up hb5
    have l35 := l34.up hb5
    clear hA4 ls4 lx4 l24 l34
    go_wp2_with fail
    refine (HNA.out A n cap w5 hA5 (by omega)).mono ?_
    rintro e w6 ⟨⟨nm, rfl, hnm⟩, hb6⟩
    have cb6 := cb5.trans (hb6.mono cb5.size)
    have hA6 := hA5.up hb6
    have ls6 := ls5.up hb6
    have lx6 := lx5.up hb6
    have l26 := l25.up hb6
    have l36 := l35.up hb6
    have l46 := l45.up hb6
    clear hA5 ls5 lx5 l25 l35 l45
    have h2sh' := Lib.hid h2sh
    have h3sh' := Lib.hid h3sh
    have h4s := Lib.hid (fun i h => h4sh.at i h)
    clear h2sh h3sh h4sh
    go_wp2_with fail
    refine (specInsertName_cons gl 0 cl ss s w6 ls6 (by omega) hlc).mono ?_
    rintro e w7 ⟨v7, rfl, o7, hb7⟩
    have cb7 := cb6.trans (hb7.mono cb6.size)
    have hA7 := hA6.up hb7
    have ls7 := ls6.up hb7
    have lx7 := lx6.up hb7
    have l27 := l26.up hb7
    have l37 := l36.up hb7
    have l47 := l46.up hb7
    clear hA6 ls6 lx6 l26 l36 l46
    rw [HXS.out] at o7
    obtain ⟨A7, c7, rfl, l77⟩ := StrsAt.of_own o7
    clear o7
    go_wp2_with fail
    refine (sameTexts_same _ _ _ _ _ _ xs w7 lx7 l77 (by unfold maxLen; omega)).mono ?_
    rintro e w8 ⟨rfl, nd8, rfl⟩
    have hb8 : Below w7.heap.size w7 (w7.drewN nd8) := ⟨rfl, rfl, rfl, Nat.le_refl _, fun _ _ => rfl⟩
    have cb8 := cb7.trans (hb8.mono cb7.size)
    have hA8 := hA7.up hb8
    have ls8 := ls7.up hb8
    have lx8 := lx7.up hb8
    have l28 := l27.up hb8
    have l38 := l37.up hb8
    have l48 := l47.up hb8
    have l78 := l77.up hb8
    clear hA7 ls7 lx7 l27 l37 l47 l77
    generalize w7.drewN nd8 = w8 at *
    clear l78
    go_wp2_with fail
    refine (implIndexOf_any _ _ _ s2 t2 w8 l28 (by unfold maxLen; omega)).mono ?_
    rintro e w9 ⟨rfl, rfl⟩
    go_wp2_with fail
    refine (specIndexOf_any _ _ _ s2 t2 w8 l28 (by unfold maxLen; omega)).mono ?_
    rintro e w9 ⟨rfl, rfl⟩
    generalize idxOf s2 t2 = ix at *
    have hixx : (ix != ix) = false := by simp
    go_wp2_with fail
    refine (implAreAscending_any _ _ _ s3 w8 l38 (by unfold maxLen; omega)).mono ?_
    rintro e w9 ⟨rfl, nd9, rfl⟩
    have hb9 : Below w8.heap.size w8 (w8.drewN nd9) := ⟨rfl, rfl, rfl, Nat.le_refl _, fun _ _ => rfl⟩
    have cb9 := cb8.trans (hb9.mono cb8.size)
    have hA9 := hA8.up hb9
    have ls9 := ls8.up hb9
    have lx9 := lx8.up hb9
    have l29 := l28.up hb9
    have l39 := l38.up hb9
    have l49 := l48.up hb9
    clear hA8 ls8 lx8 l28 l38 l48
    generalize w8.drewN nd9 = w9 at *
    go_wp2_with fail
    refine (specAreAscending_any _ _ _ s3 w9 l39 (by unfold maxLen; omega)).mono ?_
    rintro e w10 ⟨rfl, nd10, rfl⟩
    have hb10 : Below w9.heap.size w9 (w9.drewN nd10) := ⟨rfl, rfl, rfl, Nat.le_refl _, fun _ _ => rfl⟩
    have cb10 := cb9.trans (hb10.mono cb9.size)
    have hA10 := hA9.up hb10
    have ls10 := ls9.up hb10
    have lx10 := lx9.up hb10
    have l210 := l29.up hb10
    have l310 := l39.up hb10
    have l410 := l49.up hb10
    clear hA9 ls9 lx9 l29 l39 l49
    generalize w9.drewN nd10 = w10 at *
    generalize ascB s3 = b3 at *
    have hb33 : (b3 != b3) = false := by simp
    go_wp2_with fail
    refine (implWithout_any _ _ s4 t4 w10 l410 (by omega) h4s.out).mono ?_
    rintro e w11 ⟨A5, g5, c5, rfl, _, r5, hb11⟩
    have cb11 := cb10.trans (hb11.mono cb10.size)
    have hA11 := hA10.up hb11
    have ls11 := ls10.up hb11
    have lx11 := lx10.up hb11
    have l211 := l210.up hb11
    have l311 := l310.up hb11
    have l411 := l410.up hb11
    clear hA10 ls10 lx10 l210 l310 l410
    have l511 := r5.at _ r5.lt
    clear r5
    have hw4 := withoutB_len s4 t4
    go_wp2_with fail
    refine (specWithoutName_any _ _ s4 t4 w11 l411 (by omega)).mono ?_
    rintro e w12 ⟨v6, rfl, o6, hb12⟩
    have cb12 := cb11.trans (hb12.mono cb11.size)
    have hA12 := hA11.up hb12
    have ls12 := ls11.up hb12
    have lx12 := lx11.up hb12
    have l212 := l211.up hb12
    have l312 := l311.up hb12
    have l412 := l411.up hb12
    have l512 := l511.up hb12
    clear hA11 ls11 lx11 l211 l311 l411 l511
    generalize withoutB s4 t4 = s5 at *
    obtain ⟨A6, c6, rfl, l612⟩ := StrsAt.of_own o6
    clear o6
    go_wp2_with fail
    refine (sameTexts_same _ _ _ _ _ _ s5 w12 l512 l612 (by unfold maxLen; omega)).mono ?_
    rintro e w13 ⟨rfl, nd13, rfl⟩
    have hb13 : Below w12.heap.size w12 (w12.drewN nd13) := ⟨rfl, rfl, rfl, Nat.le_refl _, fun _ _ => rfl⟩
    have cb13 := cb12.trans (hb13.mono cb12.size)
    have hA13 := hA12.up hb13
    have ls13 := ls12.up hb13
    have lx13 := lx12.up hb13
    have l213 := l212.up hb13
    have l313 := l312.up hb13
    have l413 := l412.up hb13
    have l513 := l512.up hb13
    clear hA12 ls12 lx12 l212 l312 l412 l512
    generalize w12.drewN nd13 = w13 at *
    go_wp2_with fail
    refine (implIsName_any nm w13 (by unfold maxLen; omega)).mono ?_
    rintro e w14 ⟨rfl, hb14⟩
    have cb14 := cb13.trans (hb14.mono cb13.size)
    have hA14 := hA13.up hb14
    have ls14 := ls13.up hb14
    have lx14 := lx13.up hb14
    have l214 := l213.up hb14
    have l314 := l313.up hb14
    have l414 := l413.up hb14
    have l514 := l513.up hb14
    clear hA13 ls13 lx13 l213 l313 l413 l513
    go_wp2_with fail
    refine (specIsName_any nm w14 (by unfold maxLen; omega)).mono ?_
    rintro e w15 ⟨rfl, rfl⟩
    generalize isNameB nm = bn at *
    have hbnn : (bn != bn) = false := by simp
    cases hasc : ascB ss
    · have hAS := Lib.hid (implAreAscending_any (some ⟨gl, 0, none⟩) cl _ ss w14 ls14 (by unfold maxLen; omega))
      rw [hasc] at hAS
      clear hasc
      go_wp2_with fail
      refine (hAS.out).mono ?_
      rintro e w15 ⟨rfl, nd15, rfl⟩
      have hb15 : Below w14.heap.size w14 (w14.drewN nd15) := ⟨rfl, rfl, rfl, Nat.le_refl _, fun _ _ => rfl⟩
      have cb15 := cb14.trans (hb15.mono cb14.size)
      have hA15 := hA14.up hb15
      have ls15 := ls14.up hb15
      have lx15 := lx14.up hb15
      have l215 := l214.up hb15
      have l315 := l314.up hb15
      have l415 := l414.up hb15
      have l515 := l514.up hb15
      clear hA14 ls14 lx14 l214 l314 l414 l514
      generalize w14.drewN nd15 = w15 at *
      go_wp2
      go_ret
      exact ⟨rfl, cb15⟩
    · have hAS := Lib.hid (implAreAscending_any (some ⟨gl, 0, none⟩) cl _ ss w14 ls14 (by unfold maxLen; omega))
      rw [hasc] at hAS
      have haix := hai.out hasc
      have hasi := Lib.hid (fun W h => implAreAscending_any (some ⟨gx, 0, none⟩) cx W.heap.size xs W h (by unfold maxLen; omega))
      rw [haix] at hasi
      clear hasc haix
      go_wp2_with fail
      refine (hAS.out).mono ?_
      rintro e w15 ⟨rfl, nd15, rfl⟩
      have hb15 : Below w14.heap.size w14 (w14.drewN nd15) := ⟨rfl, rfl, rfl, Nat.le_refl _, fun _ _ => rfl⟩
      have cb15 := cb14.trans (hb15.mono cb14.size)
      have hA15 := hA14.up hb15
      have ls15 := ls14.up hb15
      have lx15 := lx14.up hb15
      have l215 := l214.up hb15
      have l315 := l314.up hb15
      have l415 := l414.up hb15
      have l515 := l514.up hb15
      clear hA14 ls14 lx14 l214 l314 l414 l514
      generalize w14.drewN nd15 = w15 at *
      go_wp2_with fail
      refine (hasi.out w15 lx15).mono ?_
      rintro e w16 ⟨rfl, nd16, rfl⟩
      have hb16 : Below w15.heap.size w15 (w15.drewN nd16) := ⟨rfl, rfl, rfl, Nat.le_refl _, fun _ _ => rfl⟩
      have cb16 := cb15.trans (hb16.mono cb15.size)
      have hA16 := hA15.up hb16
      have ls16 := ls15.up hb16
      have lx16 := lx15.up hb16
      have l216 := l215.up hb16
      have l316 := l315.up hb16
      have l416 := l415.up hb16
      have l516 := l515.up hb16
      clear hA15 ls15 lx15 l215 l315 l415 l515
      generalize w15.drewN nd16 = w16 at *
      go_wp2_with fail
      refine (implIndexOf_any _ _ _ xs s w16 lx16 (by unfold maxLen; omega)).mono ?_
      rintro e w17 ⟨rfl, rfl⟩
      generalize idxOf xs s = iy at *
      go_wp2_with fail
      refine (implWithout_any _ _ xs s w16 lx16 (by omega) (fun i h => hish.out.at i h)).mono ?_
      rintro e w17 ⟨A8, g8, c8, rfl, _, r8, hb17⟩
      have cb17 := cb16.trans (hb17.mono cb16.size)
      have hA17 := hA16.up hb17
      have ls17 := ls16.up hb17
      have lx17 := lx16.up hb17
      have l217 := l216.up hb17
      have l317 := l316.up hb17
      have l417 := l416.up hb17
      have l517 := l516.up hb17
      clear hA16 ls16 lx16 l216 l316 l416 l516
      have l817 := r8.at _ r8.lt
      clear r8
      go_wp2_with fail
      refine (implWithout_any _ _ ss s w17 ls17 (by omega) hss.out).mono ?_
      rintro e w18 ⟨A9, g9, c9, rfl, _, r9, hb18⟩
      have cb18 := cb17.trans (hb18.mono cb17.size)
      have hA18 := hA17.up hb18
      have ls18 := ls17.up hb18
      have lx18 := lx17.up hb18
      have l218 := l217.up hb18
      have l318 := l317.up hb18
      have l418 := l417.up hb18
      have l518 := l517.up hb18
      have l818 := l817.up hb18
      clear hA17 ls17 lx17 l217 l317 l417 l517 l817
      have l918 := r9.at _ r9.lt
      clear r9
      rw [hwi.out] at *
      generalize withoutB ss s = s6 at *
      go_wp2_with fail
      refine (sameTexts_same _ _ _ _ _ _ s6 w18 l818 l918 (by unfold maxLen; omega)).mono ?_
      rintro e w19 ⟨rfl, nd19, rfl⟩
      have hb19 : Below w18.heap.size w18 (w18.drewN nd19) := ⟨rfl, rfl, rfl, Nat.le_refl _, fun _ _ => rfl⟩
      have cb19 := cb18.trans (hb19.mono cb18.size)
      have hA19 := hA18.up hb19
      have ls19 := ls18.up hb19
      have lx19 := lx18.up hb19
      have l219 := l218.up hb19
      have l319 := l318.up hb19
      have l419 := l418.up hb19
      have l519 := l518.up hb19
      have l819 := l818.up hb19
      have l919 := l918.up hb19
      clear hA18 ls18 lx18 l218 l318 l418 l518 l818 l918
      generalize w18.drewN nd19 = w19 at *
      go_wp2
      go_ret
      exact ⟨rfl, cb19⟩

theorem own : ownKnob Try.prog.godebug = none := by kernel_rfl
theorem laidOut : laidOutB Try.prog = true := by kernel_rfl

set_option maxRecDepth 100000 in
theorem lifted (os : Os) (started : os.Started) (H : Type) (enc : TypeId × Value → H) :
    ReturnsInHanded {} Try.checked os 3 .any (Rows.fnNamesSpec.pre6 enc Try.prog Try.f3 Rows.fnNamesRow.domain false) (Rows.fnNamesSpec.post enc Try.prog Try.f3 false true false false) := by
  refine law_lifted (C := Try.checked) (bt := 4) own laidOut started (by kernel_rfl) Try.func3 rfl rfl Try.underlying4 (by kernel_rfl) ?_
    (ChangeSpec.witness6 (enc := enc) (C := Try.checked) false ⟨#[], #[.slice none 0 0], []⟩ 8 (by kernel_rfl) (by kernel_rfl) (by kernel_rfl) (by kernel_rfl)) ?_
  · intro ds hd
    have : ds.length = 1 := hd
    match ds, this with
    | [d1], _ => rfl
  · intro W base args ds p hval0 hA0 hlt
    have hval : ∀ (j : Nat) t v, Try.f3.params[j]? = some t → args[j]? = some v → Value.okWide Try.prog W .any base t v := hval0
    have hA : DataW.TrodAll enc Try.prog W 0 (fun _ => true) true Try.f3.params.toList args.toList ds p := hA0
    rw [Try.params3] at hA hval
    obtain ⟨v0, d0, rfl, rfl, h0⟩ := trodAll_one hA
    obtain ⟨A0, a0, c0, rfl, ra0, la0⟩ := open_bytes_arg Try.underlying22 Try.underlying5 (by kernel_rfl) (hval 0 22 v0 rfl rfl) h0 (fun x hx => hlt x (by simp [hx]))
    exact walk A0 a0 c0 W ra0 la0

theorem over : Rows.FnNamesSaid :=
  OpenClaim.holds_of_wide 3 Try.f3 rfl rfl rfl rfl rfl rfl rfl ⟨rfl, rfl, rfl, rfl, rfl⟩ rfl rfl rfl rfl rfl (by kernel_rfl) Try.func3 (by kernel_rfl)
    (of_decide_eq_true (by kernel_rfl)) (by unfold Func.isWrapper; rw [if_neg (of_decide_eq_false (by kernel_rfl))]; exact ⟨rfl, rfl⟩)
    (fun os started H enc _ => lifted os started H enc)

theorem proved : Rows.FnNamesSaid := over

end Go.Proofs.Ytghipacdhpglcaa.lawFnNames
