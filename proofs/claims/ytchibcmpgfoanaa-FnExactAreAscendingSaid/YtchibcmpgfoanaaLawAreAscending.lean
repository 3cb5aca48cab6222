/- FnExactAreAscending: for every list of strings the law of AreAscending hands back true, and its argument reads as it did. No condition. -/
import Derived.Test.YtchibcmpgfoanaaRows
import Derived.Test.YtchibcmpgfoanaaLaw
import Derived.Test.YtchibcmpgfoanaaOpenStrs
import Derived.Test.YtchibcmpgfoanaaSz
import Derived.Test.YtchibcmpgfoanaaToS
import Derived.Test.YtchibcmpgfoanaaEqS
import Derived.Test.YtchibcmpgfoanaaSpecNames
import Derived.Test.YtchibcmpgfoanaaImplNames
namespace Go.Proofs.Ytchibcmpgfoanaa.lawAreAscending
open Go.ChangeShapes Go.WideShapes Go.ChangeAt Go.RowKit
open Go.ChangeMaps (open_string shut_string)

set_option maxHeartbeats 1000000 in
theorem walk (A : Option Addr) (c : Nat) (ss : List ByteArray) (w : World) (hA : StrsAt w w.heap.size A ss) (hn : ss.length ≤ maxLen) (hs : ∀ i, (h : i < ss.length) → ss[i].size ≤ maxLen) :
    Calls Try.prog 6 #[.slice A ss.length c] w (TrueBelow w) := by
  go_enter Try.func6, Try.ntmps6
  go_wp2_with fail
  refine (szStringS_any A c _ ss _ w hA hn hs (by omega) (by omega)).mono ?_
  rintro e w' ⟨rfl, rfl⟩
  by_cases h2 : (1048576 : Int) - ss.length - sumSizes ss < 0
  · rw [show szStrs 1048576 ss = -1 from by unfold szStrs; rw [if_pos h2]]
    go_wp2
    go_ret
    exact ⟨rfl, Below.refl _ _⟩
  · have hz : szStrs 1048576 ss = 1048576 - ss.length - sumSizes ss := by unfold szStrs; rw [if_neg h2]
    rw [hz]
    clear hz
    have hn1 : ss.length ≤ 1048576 := by omega
    have hsum : sumSizes ss ≤ 1048576 := by omega
    have HS := Lib.hid (fun A c B W h => specAreAscending_any A c B ss W h (by unfold maxLen; omega))
    have HI := Lib.hid (fun A c B W h => implAreAscending_any A c B ss W h (by unfold maxLen; omega))
    generalize ascB ss = x at *
    cases x
    all_goals
      go_wp2_with fail
      refine (toStringS_any A c ss w hA hn1).mono ?_
      rintro e w1 ⟨g1, rfl, hg1, hw1, hb1⟩
      have hb1' := hb1
      go_wp2_with fail
      refine (HS.out _ _ _ w1 (StrsAt.of_whole hw1 _ hw1.lt)).mono ?_
      rintro e w2 ⟨rfl, n2, rfl⟩
      have hb2' : Below w.heap.size w (w1.drewN n2) := hb1'.trans ⟨rfl, rfl, rfl, Nat.le_refl _, fun _ _ => rfl⟩
      generalize w1.drewN n2 = w2 at *
      go_wp2_with fail
      refine (toStringS_any A c ss w2 ((hA.below hb2').more hb2'.size) hn1).mono ?_
      rintro e w3 ⟨g3, rfl, hg3, hw3, hb3⟩
      have hb3' := hb2'.trans (hb3.mono hb2'.size)
      go_wp2_with fail
      refine (HI.out _ _ _ w3 (StrsAt.of_whole hw3 _ hw3.lt)).mono ?_
      rintro e w4 ⟨rfl, n4, rfl⟩
      have hw4 := hw3.drewN n4
      have hb4' : Below w.heap.size w (w3.drewN n4) := hb3'.trans ⟨rfl, rfl, rfl, Nat.le_refl _, fun _ _ => rfl⟩
      generalize w3.drewN n4 = w4 at *
      go_wp2_with fail
      refine (toStringS_any A c ss w4 ((hA.below hb4').more hb4'.size) hn1).mono ?_
      rintro e w5 ⟨g5, rfl, hg5, hw5, hb5⟩
      have hb5' := hb4'.trans (hb5.mono hb4'.size)
      have hx := hw4.below hb5 hw4.lt
      go_wp2_with fail
      refine (eqStringS_same _ _ _ _ _ _ ss w5 (StrsAt.of_whole hx _ hx.lt) (StrsAt.of_whole hw5 _ hw5.lt) hn).mono ?_
      rintro e w6 ⟨rfl, n, rfl⟩
      go_wp2
      go_ret
      exact ⟨rfl, hb5'.trans ⟨rfl, rfl, rfl, Nat.le_refl _, fun _ _ => rfl⟩⟩

theorem own : ownKnob Try.prog.godebug = none := by kernel_rfl
theorem laidOut : laidOutB Try.prog = true := by kernel_rfl

set_option maxRecDepth 100000 in
theorem lifted (os : Os) (started : os.Started) (H : Type) (enc : TypeId × Value → H) :
    ReturnsInHanded {} Try.checked os 6 .any (Rows.fnExactAreAscendingSpec.pre6 enc Try.prog Try.f6 Rows.fnExactAreAscendingRow.domain false) (Rows.fnExactAreAscendingSpec.post enc Try.prog Try.f6 false true false false) := by
  refine law_lifted (C := Try.checked) (bt := 4) own laidOut started (by kernel_rfl) Try.func6 rfl rfl Try.underlying4 (by kernel_rfl) ?_
    (ChangeSpec.witness6 (enc := enc) (C := Try.checked) false ⟨#[], #[.slice none 0 0], []⟩ 8 (by kernel_rfl) (by kernel_rfl) (by kernel_rfl) (by kernel_rfl)) ?_
  · intro ds hd
    have : ds.length = 1 := hd
    match ds, this with
    | [d1], _ => rfl
  · intro W base args ds p hval0 hA0 hlt
    have hval : ∀ (j : Nat) t v, Try.f6.params[j]? = some t → args[j]? = some v → Value.okWide Try.prog W .any base t v := hval0
    have hA : DataW.TrodAll enc Try.prog W 0 (fun _ => true) true Try.f6.params.toList args.toList ds p := hA0
    rw [Try.params6] at hA hval
    obtain ⟨v0, d0, rfl, rfl, h0⟩ := trodAll_one hA
    obtain ⟨A0, a0, c0, rfl, ra0, la0, wa0⟩ := open_strs_arg Try.underlying24 Try.underlying9 (by kernel_rfl) (hval 0 24 v0 rfl rfl) h0 (fun x hx => hlt x (by simp [hx]))
    exact walk A0 c0 a0 W ra0 la0 wa0

theorem over : Rows.FnExactAreAscendingSaid :=
  OpenClaim.holds_of_wide 6 Try.f6 rfl rfl rfl rfl rfl rfl rfl ⟨rfl, rfl, rfl, rfl, rfl⟩ rfl rfl rfl rfl rfl (by kernel_rfl) Try.func6 (by kernel_rfl)
    (of_decide_eq_true (by kernel_rfl)) (by unfold Func.isWrapper; rw [if_neg (of_decide_eq_false (by kernel_rfl))]; exact ⟨rfl, rfl⟩)
    (fun os started H enc _ => lifted os started H enc)

theorem proved : Rows.FnExactAreAscendingSaid := over

end Go.Proofs.Ytchibcmpgfoanaa.lawAreAscending
