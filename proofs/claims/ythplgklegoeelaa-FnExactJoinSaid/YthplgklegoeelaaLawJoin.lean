/- FnExactJoin: for every list of strings and every separator the law of Join hands back true, and its arguments read as they did. No condition. -/
import Derived.Test.YthplgklegoeelaaRows
import Derived.Test.YthplgklegoeelaaOpenStrs
import Derived.Test.YthplgklegoeelaaSz
import Derived.Test.YthplgklegoeelaaToS
import Derived.Test.YthplgklegoeelaaEqS
import Derived.Test.YthplgklegoeelaaSpecJoin
import Derived.Test.YthplgklegoeelaaImplJoin
namespace Go.Proofs.Ythplgklegoeelaa
open Go.ChangeShapes Go.WideShapes Go.ChangeAt Go.RowKit
open Go.ChangeMaps (open_string shut_string)

set_option maxHeartbeats 800000 in
theorem join_law (A : Option Addr) (c : Nat) (ss : List ByteArray) (sep : ByteArray) (w : World) (hA : StrsAt w w.heap.size A ss) (hn : ss.length ≤ maxLen) (hs : ∀ i, (h : i < ss.length) → ss[i].size ≤ maxLen) (hsep : sep.size ≤ maxLen) :
    Calls Try.prog 3 #[.slice A ss.length c, .string sep] w (TrueBelow w) := by
  have hsep' := hsep
  unfold maxLen at hsep'
  by_cases h1 : 1048576 < sep.size
  · go_enter Try.func3, Try.ntmps3
    go_wp2
    go_ret
    exact ⟨rfl, Below.refl _ _⟩
  · go_enter Try.func3, Try.ntmps3
    go_wp2_with fail
    refine (szStringS_any A c _ ss _ w hA hn hs (by omega) (by omega)).mono ?_
    rintro e w' ⟨rfl, rfl⟩
    by_cases h2 : (1048576 : Int) - ss.length - sumSizes ss < 0
    · rw [show szStrs 1048576 ss = -1 from by unfold szStrs; rw [if_pos h2]]
      go_wp2
      go_ret
      exact ⟨rfl, Below.refl _ _⟩
    · have hz : szStrs 1048576 ss = 1048576 - ss.length - sumSizes ss := by unfold szStrs; rw [if_neg h2]
      rw [hz]
      clear hz
      have hn1 : ss.length ≤ 1048576 := by omega
      have hsum : sumSizes ss ≤ 1048576 := by omega
      go_wp2_with fail
      refine (toStringS_any A c ss w hA hn1).mono ?_
      rintro e w1 ⟨g1, rfl, hg1, hw1, hb1⟩
      go_wp2_with fail
      refine (specJoin_any _ _ ss sep w1 (StrsAt.of_whole hw1 _ hw1.lt) hn1 hsum (by omega)).mono ?_
      rintro e w2 ⟨rfl, hb2⟩
      have hb2' := hb1.trans (hb2.mono hb1.size)
      go_wp2_with fail
      refine (toStringS_any A c ss w2 ((hA.below hb2').more hb2'.size) hn1).mono ?_
      rintro e w3 ⟨g3, rfl, hg3, hw3, hb3⟩
      have hb3' := hb2'.trans (hb3.mono hb2'.size)
      go_wp2_with fail
      refine (implJoin_any _ _ ss sep w3 (StrsAt.of_whole hw3 _ hw3.lt) hn1 hsum (by omega)).mono ?_
      rintro e w4 ⟨rfl, hb4⟩
      have hb4' := hb3'.trans (hb4.mono hb3'.size)
      go_wp2_with fail
      refine (toStringS_any A c ss w4 ((hA.below hb4').more hb4'.size) hn1).mono ?_
      rintro e w5 ⟨g5, rfl, hg5, hw5, hb5⟩
      have hb5' := hb4'.trans (hb5.mono hb4'.size)
      have hx := (hw3.below hb4 hw3.lt).below hb5 (Nat.lt_of_lt_of_le hw3.lt hb4.size)
      go_wp2_with fail
      refine (eqStringS_same _ _ _ _ _ _ ss w5 (StrsAt.of_whole hx _ hx.lt) (StrsAt.of_whole hw5 _ hw5.lt) hn).mono ?_
      rintro e w6 ⟨rfl, n, rfl⟩
      go_wp2
      go_ret
      exact ⟨rfl, hb5'.trans ⟨rfl, rfl, rfl, Nat.le_refl _, fun _ _ => rfl⟩⟩

theorem own : ownKnob Try.prog.godebug = none := by kernel_rfl
theorem laidOut : laidOutB Try.prog = true := by kernel_rfl

set_option maxRecDepth 100000 in
theorem join_lifted (os : Os) (started : os.Started) (H : Type) (enc : TypeId × Value → H) :
    ReturnsInHanded {} Try.checked os 3 .any (Rows.fnExactJoinSpec.pre6 enc Try.prog Try.f3 Rows.fnExactJoinRow.domain false) (Rows.fnExactJoinSpec.post enc Try.prog Try.f3 false true false false) := by
  refine law_lifted (C := Try.checked) (bt := 4) own laidOut started (by kernel_rfl) Try.func3 rfl rfl Try.underlying4 (by kernel_rfl) ?_
    (ChangeSpec.witness6 (enc := enc) (C := Try.checked) false ⟨#[], #[.slice none 0 0, .string ⟨#[]⟩], []⟩ 8 (by kernel_rfl) (by kernel_rfl) (by kernel_rfl) (by kernel_rfl)) ?_
  · intro ds hd
    have : ds.length = 2 := hd
    match ds, this with
    | [d1, d2], _ => rfl
  · intro W base args ds p hval0 hA0 hlt
    have hval : ∀ (j : Nat) t v, Try.f3.params[j]? = some t → args[j]? = some v → Value.okWide Try.prog W .any base t v := hval0
    have hA : DataW.TrodAll enc Try.prog W 0 (fun _ => true) true Try.f3.params.toList args.toList ds p := hA0
    rw [Try.params3] at hA hval
    obtain ⟨v0, v1, d0, d1, p0, p1, rfl, rfl, rfl, h0, h1⟩ := trodAll_two hA
    obtain ⟨A, ss, c, rfl, hr, hl, hsz⟩ := open_strs_arg Try.underlying22 Try.underlying9 (by kernel_rfl) (hval 0 22 v0 rfl rfl) h0 (fun x hx => hlt x (by simp [hx]))
    obtain ⟨sep, rfl, rfl, rfl, hsep⟩ := open_string Try.underlying9 (hval 1 9 v1 rfl rfl) h1
    exact join_law A c ss sep W hr hl hsz hsep

theorem join_holds : Rows.FnExactJoinSaid :=
  OpenClaim.holds_of_wide 3 Try.f3 rfl rfl rfl rfl rfl rfl rfl ⟨rfl, rfl, rfl, rfl, rfl⟩ rfl rfl rfl rfl rfl (by kernel_rfl) Try.func3 (by kernel_rfl)
    (of_decide_eq_true (by kernel_rfl)) (by unfold Func.isWrapper; rw [if_neg (of_decide_eq_false (by kernel_rfl))]; exact ⟨rfl, rfl⟩)
    (fun os started H enc _ => join_lifted os started H enc)

end Go.Proofs.Ythplgklegoeelaa
