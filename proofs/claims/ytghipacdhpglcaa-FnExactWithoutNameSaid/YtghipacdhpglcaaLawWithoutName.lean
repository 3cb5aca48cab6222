/- FnExactWithoutName: for every list of strings and every string the law of WithoutName hands back true, and its arguments read as they did. No condition. -/
import Derived.Test.YtghipacdhpglcaaRows
import Derived.Test.YtghipacdhpglcaaLaw
import Derived.Test.YtghipacdhpglcaaOpenStrs
import Derived.Test.YtghipacdhpglcaaSz
import Derived.Test.YtghipacdhpglcaaToS
import Derived.Test.YtghipacdhpglcaaEqS
import Derived.Test.YtghipacdhpglcaaRowS
import Derived.Test.YtghipacdhpglcaaSpecWithout
import Derived.Test.YtghipacdhpglcaaImplWithout
namespace Go.Proofs.Ytghipacdhpglcaa.lawWithoutName
open Go.ChangeShapes Go.WideShapes Go.ChangeAt Go.RowKit
open Go.ChangeMaps (open_string shut_string)

set_option maxHeartbeats 1000000 in
theorem walk (A : Option Addr) (c : Nat) (ss : List ByteArray) (s : ByteArray) (w : World) (hA : StrsAt w w.heap.size A ss) (hn : ss.length ≤ maxLen) (hs : ∀ i, (h : i < ss.length) → ss[i].size ≤ maxLen) (hsz : s.size ≤ maxLen) :
    Calls Try.prog 6 #[.slice A ss.length c, .string s] w (TrueBelow w) := by
  have hsep' := hsz
  unfold maxLen at hsep'
  by_cases h1 : 1048576 < s.size
  · go_enter Try.func6, Try.ntmps6
    go_wp2
    go_ret
    exact ⟨rfl, Below.refl _ _⟩
  go_enter Try.func6, Try.ntmps6
  go_wp2_with fail
  refine (szStringS_any A c _ ss _ w hA hn hs (by omega) (by omega)).mono ?_
  rintro e w' ⟨rfl, rfl⟩
  by_cases h2 : (1048576 : Int) - ss.length - sumSizes ss < 0
  · rw [show szStrs 1048576 ss = -1 from by unfold szStrs; rw [if_pos h2]]
    go_wp2
    go_ret
    exact ⟨rfl, Below.refl _ _⟩
  · have hz : szStrs 1048576 ss = 1048576 - ss.length - sumSizes ss := by unfold szStrs; rw [if_neg h2]
    rw [hz]
    clear hz
    have hn1 : ss.length ≤ 1048576 := by omega
    have hsum : sumSizes ss ≤ 1048576 := by omega
    have hs1 : ∀ i, (h : i < ss.length) → ss[i].size ≤ 1048576 := fun i h => by have := size_le_sumSizes ss i h; omega
    have HS := Lib.hid (fun g W h => specWithoutName_any (some ⟨g, 0, none⟩) ss.length ss s W h hn1)
    have HI := Lib.hid (fun A c W h => implWithout_any A c ss s W h hn1 hs1)
    have hrl := withoutB_len ss s
    generalize withoutB ss s = rs at *
    have hrm : rs.length ≤ maxLen := by unfold maxLen; omega
    go_wp2_with fail
    refine (toStringS_any A c ss w hA hn1).mono ?_
    rintro e w1 ⟨g1, rfl, hg1, hw1, hb1⟩
    have hb1' := hb1
    go_wp2_with fail
    refine (HS.out g1 w1 (StrsAt.of_whole hw1 _ hw1.lt)).mono ?_
    rintro e w2 ⟨v2, rfl, ho2, hb2⟩
    obtain ⟨A2, c2, rfl, hA2⟩ := StrsAt.of_own ho2
    have hb2' := hb1'.trans (hb2.mono hb1'.size)
    clear ho2 hw1
    go_wp2_with fail
    refine (toStringS_any A c ss w2 ((hA.below hb2').more hb2'.size) hn1).mono ?_
    rintro e w3 ⟨g3, rfl, hg3, hw3, hb3⟩
    have hb3' := hb2'.trans (hb3.mono hb2'.size)
    have hA3 := hA2.below hb3
    clear hA2
    go_wp2_with fail
    refine (HI.out _ _ w3 (StrsAt.of_whole hw3 _ hw3.lt)).mono ?_
    rintro e w4 ⟨A4, g4, c4, rfl, hg4, hr4, hb4⟩
    have hb4' := hb3'.trans (hb4.mono hb3'.size)
    have hx4 := hw3.below hb4 hw3.lt
    have hA4 := hA3.below (hb4.mono (by have := hw3.lt; omega))
    clear hA3
    go_wp2_with fail
    refine (eqStringS_same _ _ _ _ _ _ rs w4 (hr4.at _ hr4.lt) hA4 hrm).mono ?_
    rintro e w5 ⟨rfl, n5, rfl⟩
    have hr5 := hr4.drewN n5
    have hx5 := hx4.drewN n5
    have hA5 := hA4.drewN n5
    have hb5' : Below w.heap.size w (w4.drewN n5) := hb4'.trans ⟨rfl, rfl, rfl, Nat.le_refl _, fun _ _ => rfl⟩
    clear hr4 hx4 hA4
    generalize w4.drewN n5 = w5 at *
    go_wp2_with fail
    refine (toStringS_any A c ss w5 ((hA.below hb5').more hb5'.size) hn1).mono ?_
    rintro e w6 ⟨g6, rfl, hg6, hw6, hb6⟩
    have hb6' := hb5'.trans (hb6.mono hb5'.size)
    have hr6 := hr5.below hb6 hr5.lt
    have hx6 := hx5.below hb6 hx5.lt
    have hA6 := hA5.below (hb6.mono (by have := hx5.lt; omega))
    clear hr5 hx5 hA5
    go_wp2_with fail
    refine (eqStringS_same _ _ _ _ _ _ ss w6 (StrsAt.of_whole hx6 _ hx6.lt) (StrsAt.of_whole hw6 _ hw6.lt) hn).mono ?_
    rintro e w7 ⟨rfl, n7, rfl⟩
    have hr7 := hr6.drewN n7
    have hx7 := hx6.drewN n7
    have hA7 := hA6.drewN n7
    have hb7' : Below w.heap.size w (w6.drewN n7) := hb6'.trans ⟨rfl, rfl, rfl, Nat.le_refl _, fun _ _ => rfl⟩
    clear hr6 hx6 hA6 hw6
    generalize w6.drewN n7 = w7 at *
    have hne : g4 ≠ g3 := by have := hw3.lt; omega
    go_wp2_with fail
    refine (markStringS_row g3 _ 1 ss w7 (RowStrs.of_whole hx7) (by omega) (by omega)).mono ?_
    rintro e w8 ⟨rfl, _, ho8⟩
    have hb8' : Below w.heap.size w w8 := hb7'.grown ho8 hb7'.size (fun q hq => by cases hq; have := hb2'.size; omega)
    have hr8 := hr7.keep ho8 hne
    have hA8 : StrsAt w8 w2.heap.size A2 rs := hA7.keep fun p hp => World.cell?_of_block (w := w7) (ho8.block p.block (by have := hx7.lt; omega) (fun e => by injection e with e; omega))
    clear hr7 hA7 hx7 ho8
    go_wp2_with fail
    refine (eqStringS_same _ _ _ _ _ _ rs w8 (hr8.at _ hr8.lt) hA8 hrm).mono ?_
    rintro e w9 ⟨rfl, n9, rfl⟩
    have hr9 := hr8.drewN n9
    have hA9 := hA8.drewN n9
    have hb9' : Below w.heap.size w (w8.drewN n9) := hb8'.trans ⟨rfl, rfl, rfl, Nat.le_refl _, fun _ _ => rfl⟩
    clear hr8 hA8
    generalize w8.drewN n9 = w9 at *
    go_wp2_with fail
    refine (markStringS_rowN A4 g4 _ 1 rs w9 hr9 (by omega) (by omega)).mono ?_
    rintro e w10 ⟨rfl, hr10, ho10⟩
    have hb10' : Below w.heap.size w w10 := hb9'.grown ho10 hb9'.size (fun q hq => by cases hq; have := hb3'.size; omega)
    have hA10 : StrsAt w10 w2.heap.size A2 rs := hA9.keep fun p hp => World.cell?_of_block (w := w9) (ho10.block p.block (by have := hr9.lt; have := hb3.size; omega) (fun e => by injection e with e; have := hb3.size; omega))
    clear hr9 hA9 ho10
    go_wp2_with fail
    refine (heldStringS_rowN A4 g4 _ 1 rs.length w10 hr10 (by omega) (by omega)).mono ?_
    rintro e w11 ⟨rfl, hb11⟩
    have hb11' := hb10'.trans (hb11.mono hb10'.size)
    have hr11 := hr10.below hb11 hr10.lt
    have hA11 := hA10.below (hb11.mono (by have := hr10.lt; have := hb3.size; omega))
    clear hr10 hA10
    go_wp2_with fail
    refine (toStringS_any A c ss w11 ((hA.below hb11').more hb11'.size) hn1).mono ?_
    rintro e w12 ⟨g12, rfl, hg12, hw12, hb12⟩
    have hb12' := hb11'.trans (hb12.mono hb11'.size)
    have hr12 := hr11.below hb12 hr11.lt
    have hA12 := hA11.below (hb12.mono (by have := hr11.lt; have := hb3.size; omega))
    clear hr11 hA11
    go_wp2_with fail
    refine (HI.out _ _ w12 (StrsAt.of_whole hw12 _ hw12.lt)).mono ?_
    rintro e w13 ⟨A13, g13, c13, rfl, hg13, hr13, hb13⟩
    have hb13' := hb12'.trans (hb13.mono hb12'.size)
    have hq13 := hr12.below hb13 hr12.lt
    have hA13 := hA12.below (hb13.mono (by have := hr12.lt; have := hb3.size; omega))
    clear hr12 hA12 hw12
    go_wp2_with fail
    refine (eqStringS_same _ _ _ _ _ _ rs w13 (hr13.at _ hr13.lt) hA13 hrm).mono ?_
    rintro e w14 ⟨rfl, n14, rfl⟩
    have hq14 := hq13.drewN n14
    have hb14' : Below w.heap.size w (w13.drewN n14) := hb13'.trans ⟨rfl, rfl, rfl, Nat.le_refl _, fun _ _ => rfl⟩
    clear hr13 hA13 hq13
    generalize w13.drewN n14 = w14 at *
    go_wp2_with fail
    refine (heldStringS_rowN A4 g4 _ 1 rs.length w14 hq14 (by omega) (by omega)).mono ?_
    rintro e w15 ⟨rfl, hb15⟩
    go_wp2
    go_ret
    exact ⟨rfl, hb14'.trans (hb15.mono hb14'.size)⟩

theorem own : ownKnob Try.prog.godebug = none := by kernel_rfl
theorem laidOut : laidOutB Try.prog = true := by kernel_rfl

set_option maxRecDepth 100000 in
theorem lifted (os : Os) (started : os.Started) (H : Type) (enc : TypeId × Value → H) :
    ReturnsInHanded {} Try.checked os 6 .any (Rows.fnExactWithoutNameSpec.pre6 enc Try.prog Try.f6 Rows.fnExactWithoutNameRow.domain false) (Rows.fnExactWithoutNameSpec.post enc Try.prog Try.f6 false true false false) := by
  refine law_lifted (C := Try.checked) (bt := 4) own laidOut started (by kernel_rfl) Try.func6 rfl rfl Try.underlying4 (by kernel_rfl) ?_
    (ChangeSpec.witness6 (enc := enc) (C := Try.checked) false ⟨#[], #[.slice none 0 0, .string ⟨#[]⟩], []⟩ 8 (by kernel_rfl) (by kernel_rfl) (by kernel_rfl) (by kernel_rfl)) ?_
  · intro ds hd
    have : ds.length = 2 := hd
    match ds, this with
    | [d1, d2], _ => rfl
  · intro W base args ds p hval0 hA0 hlt
    have hval : ∀ (j : Nat) t v, Try.f6.params[j]? = some t → args[j]? = some v → Value.okWide Try.prog W .any base t v := hval0
    have hA : DataW.TrodAll enc Try.prog W 0 (fun _ => true) true Try.f6.params.toList args.toList ds p := hA0
    rw [Try.params6] at hA hval
    obtain ⟨v0, v1, d0, d1, p0, p1, rfl, rfl, rfl, h0, h1⟩ := trodAll_two hA
    obtain ⟨A0, a0, c0, rfl, ra0, la0, wa0⟩ := open_strs_arg Try.underlying24 Try.underlying9 (by kernel_rfl) (hval 0 24 v0 rfl rfl) h0 (fun x hx => hlt x (by simp [hx]))
    obtain ⟨a1, rfl, rfl, rfl, wa1⟩ := open_string Try.underlying9 (hval 1 9 v1 rfl rfl) h1
    exact walk A0 c0 a0 a1 W ra0 la0 wa0 wa1

theorem over : Rows.FnExactWithoutNameSaid :=
  OpenClaim.holds_of_wide 6 Try.f6 rfl rfl rfl rfl rfl rfl rfl ⟨rfl, rfl, rfl, rfl, rfl⟩ rfl rfl rfl rfl rfl (by kernel_rfl) Try.func6 (by kernel_rfl)
    (of_decide_eq_true (by kernel_rfl)) (by unfold Func.isWrapper; rw [if_neg (of_decide_eq_false (by kernel_rfl))]; exact ⟨rfl, rfl⟩)
    (fun os started H enc _ => lifted os started H enc)

theorem proved : Rows.FnExactWithoutNameSaid := over

end Go.Proofs.Ytghipacdhpglcaa.lawWithoutName
