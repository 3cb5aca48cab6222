/- FnExactIndexOf: for every list of strings and every string the law of IndexOf hands back true, and its arguments read as they did. No condition. -/
import Derived.Test.YtchibcmpgfoanaaRows
import Derived.Test.YtchibcmpgfoanaaLaw
import Derived.Test.YtchibcmpgfoanaaOpenStrs
import Derived.Test.YtchibcmpgfoanaaSz
import Derived.Test.YtchibcmpgfoanaaToS
import Derived.Test.YtchibcmpgfoanaaEqS
import Derived.Test.YtchibcmpgfoanaaSpecNames
import Derived.Test.YtchibcmpgfoanaaImplNames
namespace Go.Proofs.Ytchibcmpgfoanaa.lawIndexOf
open Go.ChangeShapes Go.WideShapes Go.ChangeAt Go.RowKit
open Go.ChangeMaps (open_string shut_string)

set_option maxHeartbeats 1000000 in
theorem walk (A : Option Addr) (c : Nat) (ss : List ByteArray) (s : ByteArray) (w : World) (hA : StrsAt w w.heap.size A ss) (hn : ss.length ≤ maxLen) (hs : ∀ i, (h : i < ss.length) → ss[i].size ≤ maxLen) (hsz : s.size ≤ maxLen) :
    Calls Try.prog 5 #[.slice A ss.length c, .string s] w (TrueBelow w) := by
  have hsep' := hsz
  unfold maxLen at hsep'
  by_cases h1 : 1048576 < s.size
  · go_enter Try.func5, Try.ntmps5
    go_wp2
    go_ret
    exact ⟨rfl, Below.refl _ _⟩
  go_enter Try.func5, Try.ntmps5
  go_wp2_with fail
  refine (szStringS_any A c _ ss _ w hA hn hs (by omega) (by omega)).mono ?_
  rintro e w' ⟨rfl, rfl⟩
  by_cases h2 : (1048576 : Int) - ss.length - sumSizes ss < 0
  · rw [show szStrs 1048576 ss = -1 from by unfold szStrs; rw [if_pos h2]]
    go_wp2
    go_ret
    exact ⟨rfl, Below.refl _ _⟩
  · have hz : szStrs 1048576 ss = 1048576 - ss.length - sumSizes ss := by unfold szStrs; rw [if_neg h2]
    rw [hz]
    clear hz
    have hn1 : ss.length ≤ 1048576 := by omega
    have hsum : sumSizes ss ≤ 1048576 := by omega
    have hne : ∀ x : Int, (x != x) = false := fun x => by simp
    have hid := Lib.hid (hne (idxOf ss s))
    clear hne
    have HS := Lib.hid (fun A c B W h => specIndexOf_any A c B ss s W h hn)
    have HI := Lib.hid (fun A c B W h => implIndexOf_any A c B ss s W h hn)
    generalize idxOf ss s = x at *
    go_wp2_with fail
    refine (toStringS_any A c ss w hA hn1).mono ?_
    rintro e w1 ⟨g1, rfl, hg1, hw1, hb1⟩
    have hb1' := hb1
    go_wp2_with fail
    refine (HS.out _ _ _ w1 (StrsAt.of_whole hw1 _ hw1.lt)).mono ?_
    rintro e w2 ⟨rfl, rfl⟩
    go_wp2_with fail
    refine (toStringS_any A c ss w1 ((hA.below hb1').more hb1'.size) hn1).mono ?_
    rintro e w2 ⟨g2, rfl, hg2, hw2, hb2⟩
    have hb2' := hb1'.trans (hb2.mono hb1'.size)
    go_wp2_with fail
    refine (HI.out _ _ _ w2 (StrsAt.of_whole hw2 _ hw2.lt)).mono ?_
    rintro e w3 ⟨rfl, rfl⟩
    have hid' := hid.out
    go_wp2_with fail
    refine (toStringS_any A c ss w2 ((hA.below hb2').more hb2'.size) hn1).mono ?_
    rintro e w3 ⟨g3, rfl, hg3, hw3, hb3⟩
    have hb3' := hb2'.trans (hb3.mono hb2'.size)
    have hx := hw2.below hb3 hw2.lt
    go_wp2_with fail
    refine (eqStringS_same _ _ _ _ _ _ ss w3 (StrsAt.of_whole hx _ hx.lt) (StrsAt.of_whole hw3 _ hw3.lt) hn).mono ?_
    rintro e w4 ⟨rfl, n, rfl⟩
    go_wp2
    go_ret
    exact ⟨rfl, hb3'.trans ⟨rfl, rfl, rfl, Nat.le_refl _, fun _ _ => rfl⟩⟩

theorem own : ownKnob Try.prog.godebug = none := by kernel_rfl
theorem laidOut : laidOutB Try.prog = true := by kernel_rfl

set_option maxRecDepth 100000 in
theorem lifted (os : Os) (started : os.Started) (H : Type) (enc : TypeId × Value → H) :
    ReturnsInHanded {} Try.checked os 5 .any (Rows.fnExactIndexOfSpec.pre6 enc Try.prog Try.f5 Rows.fnExactIndexOfRow.domain false) (Rows.fnExactIndexOfSpec.post enc Try.prog Try.f5 false true false false) := by
  refine law_lifted (C := Try.checked) (bt := 4) own laidOut started (by kernel_rfl) Try.func5 rfl rfl Try.underlying4 (by kernel_rfl) ?_
    (ChangeSpec.witness6 (enc := enc) (C := Try.checked) false ⟨#[], #[.slice none 0 0, .string ⟨#[]⟩], []⟩ 8 (by kernel_rfl) (by kernel_rfl) (by kernel_rfl) (by kernel_rfl)) ?_
  · intro ds hd
    have : ds.length = 2 := hd
    match ds, this with
    | [d1, d2], _ => rfl
  · intro W base args ds p hval0 hA0 hlt
    have hval : ∀ (j : Nat) t v, Try.f5.params[j]? = some t → args[j]? = some v → Value.okWide Try.prog W .any base t v := hval0
    have hA : DataW.TrodAll enc Try.prog W 0 (fun _ => true) true Try.f5.params.toList args.toList ds p := hA0
    rw [Try.params5] at hA hval
    obtain ⟨v0, v1, d0, d1, p0, p1, rfl, rfl, rfl, h0, h1⟩ := trodAll_two hA
    obtain ⟨A0, a0, c0, rfl, ra0, la0, wa0⟩ := open_strs_arg Try.underlying24 Try.underlying9 (by kernel_rfl) (hval 0 24 v0 rfl rfl) h0 (fun x hx => hlt x (by simp [hx]))
    obtain ⟨a1, rfl, rfl, rfl, wa1⟩ := open_string Try.underlying9 (hval 1 9 v1 rfl rfl) h1
    exact walk A0 c0 a0 a1 W ra0 la0 wa0 wa1

theorem over : Rows.FnExactIndexOfSaid :=
  OpenClaim.holds_of_wide 5 Try.f5 rfl rfl rfl rfl rfl rfl rfl ⟨rfl, rfl, rfl, rfl, rfl⟩ rfl rfl rfl rfl rfl (by kernel_rfl) Try.func5 (by kernel_rfl)
    (of_decide_eq_true (by kernel_rfl)) (by unfold Func.isWrapper; rw [if_neg (of_decide_eq_false (by kernel_rfl))]; exact ⟨rfl, rfl⟩)
    (fun os started H enc _ => lifted os started H enc)

theorem proved : Rows.FnExactIndexOfSaid := over

end Go.Proofs.Ytchibcmpgfoanaa.lawIndexOf
