/- FnExactSplitByte: for every string and every byte the law of SplitByte hands back true. No condition. (The card ties utf8's tables to the program's text; the tie is given.) -/
import Derived.Test.YthplgklegoeelaaDoorRows
import Derived.Test.YthplgklegoeelaaDoorLaw
import Derived.Test.YthplgklegoeelaaDoorCards
import Derived.Test.YthplgklegoeelaaDoorTie
import Derived.Test.YthplgklegoeelaaDoorLawLaid
import Derived.Test.YthplgklegoeelaaDoorSpecSplit
import Derived.Test.YthplgklegoeelaaDoorImplSplit
import Derived.Test.YthplgklegoeelaaDoorEqS
import Derived.Test.YthplgklegoeelaaDoorMark
import Derived.SevenTiedAt
namespace Go.Proofs.YthplgklegoeelaaDoor.lawSplit
open Go.ChangeShapes Go.WideShapes Go.ChangeAt Go.RowKit
open Go.ChangeMaps (open_string shut_string)

set_option maxHeartbeats 1000000 in
theorem walk (s : ByteArray) (c : UInt8) (w : World) (hs : s.size ≤ maxLen) (hm : MaxLenAt w) :
    Calls Tryd.prog 8 #[.string s, .int .u8 (c.toNat : Int)] w (TrueBelow w) := by
  unfold maxLen at hs
  by_cases h1 : (1048576 : Int) < s.size
  · clear hm
    go_enter Tryd.func8, Tryd.ntmps8
    go_wp2
    go_ret
    exact ⟨rfl, Below.refl _ _⟩
  · have hs1 : s.size ≤ 1048576 := by omega
    have hlen := pieces_short c s
    have hsz := Lib.hid (pieces_size c s)
    have h1s := Lib.hid (specSplit_any s c w hs1)
    have HM := Lib.hid hm
    have hms := Lib.hid hm.lt
    have his := Lib.hid (fun W h => implSplit_any s c W hs1 h)
    clear hm
    generalize pieces c s = ps at *
    have hpl : ps.length ≤ maxLen := by unfold maxLen; omega
    go_enter Tryd.func8, Tryd.ntmps8
    go_wp2_with fail
    refine h1s.out.mono ?_
    rintro e w1 ⟨A0, c0, rfl, hA0, hb1⟩
    go_wp2_with fail
    refine (his.out w1 (HM.out.below hb1 hms.out)).mono ?_
    rintro e w2 ⟨g, rfl, hg, hw2, hb2⟩
    have hb2' := hb1.trans (hb2.mono hb1.size)
    have hA2 := hA0.below hb2
    go_wp2_with fail
    refine (eqStringS_same _ _ _ _ _ _ ps w2 (StrsAt.of_whole hw2 _ hw2.lt) hA2 hpl).mono ?_
    rintro e w3 ⟨rfl, n3, rfl⟩
    have hw3 := hw2.drewN n3
    have hA3 := hA2.drewN n3
    have hb3' : Below w.heap.size w (w2.drewN n3) := hb2'.trans ⟨rfl, rfl, rfl, Nat.le_refl _, fun _ _ => rfl⟩
    clear hw2 hA2 hA0 h1s
    generalize w2.drewN n3 = w3 at *
    go_wp2_with fail
    refine (markStringS_any g _ 1 ps w3 hw3 (by omega) (by omega)).mono ?_
    rintro e w4 ⟨rfl, hw4, ho4⟩
    have hb4' : Below w.heap.size w w4 := hb3'.grown ho4 hb3'.size (fun q hq => by cases hq; have := hb1.size; omega)
    have hA4 : StrsAt w4 w1.heap.size A0 ps := hA3.keep fun p hp => World.cell?_of_block (w := w3) (ho4.block p.block (by have := hw3.lt; omega) (fun e => by injection e with e; omega))
    clear hA3 hw3
    go_wp2_with fail
    refine (heldStringS_any g _ 1 ps.length w4 hw4 (by omega) (by omega)).mono ?_
    rintro e w5 ⟨rfl, hb5⟩
    have hb5' := hb4'.trans (hb5.mono hb4'.size)
    have hw5 := hw4.below hb5 hw4.lt
    have hA5 := hA4.below (hb5.mono (by have := hw4.lt; omega))
    clear hw4 hA4
    go_wp2_with fail
    refine (his.out w5 (HM.out.below hb5' hms.out)).mono ?_
    rintro e w6 ⟨g', rfl, hg', hw6, hb6⟩
    have hb6' := hb5'.trans (hb6.mono hb5'.size)
    have hA6 := hA5.below (hb6.mono (by have := hw5.lt; omega))
    have hw5' := hw5.below hb6 hw5.lt
    clear hA5
    go_wp2_with fail
    refine (eqStringS_same _ _ _ _ _ _ ps w6 (StrsAt.of_whole hw6 _ hw6.lt) hA6 hpl).mono ?_
    rintro e w7 ⟨rfl, n7, rfl⟩
    have hw7 := hw5'.drewN n7
    have hb7' : Below w.heap.size w (w6.drewN n7) := hb6'.trans ⟨rfl, rfl, rfl, Nat.le_refl _, fun _ _ => rfl⟩
    clear hw6 hw5 hw5' hA6
    generalize w6.drewN n7 = w7 at *
    go_wp2_with fail
    refine (heldStringS_any g _ 1 ps.length w7 hw7 (by omega) (by omega)).mono ?_
    rintro e w8 ⟨rfl, hb8⟩
    go_wp2
    go_ret
    exact ⟨rfl, hb7'.trans (hb8.mono hb7'.size)⟩

theorem own : ownKnob Tryd.prog.godebug = none := by kernel_rfl
theorem laidOut : laidOutB Tryd.prog = true := by kernel_rfl

/-- What the row lists. -/
def laid : List (String × DataW Unit) := Rows.fnExactSplitByteRow.laid

set_option maxRecDepth 100000 in
theorem lifted (os : Os) (started : os.Started) (H : Type) (enc : TypeId × Value → H) :
    ReturnsInHanded {} Tryd.checked os 8 .any (fun w args => (Rows.fnExactSplitByteSpec.pre enc Tryd.prog Tryd.f8 [] false w args ∧ laidMetH Tryd.prog laid w) ∧ sizedMet enc Tryd.prog Tryd.f8 (OpenSpec.ofChange Rows.fnExactSplitByteSpec) false w args)
      (Rows.fnExactSplitByteSpec.post enc Tryd.prog Tryd.f8 false true false false) := by
  refine law_lifted_laid (C := Tryd.checked) (bt := 4) own laidOut started (by kernel_rfl) Tryd.func8 rfl rfl Tryd.underlying4 (by kernel_rfl) ?_
    (ChangeSpec.witness_shaped (enc := enc) (C := Tryd.checked) (os := os) (X := fun w _ => laidMetH Tryd.prog laid w) false (World.laidAll Tryd.prog os laid) #[.string ⟨#[]⟩, .int .u8 0] 8 (World.laidAll_os _ _ _) (World.shaped_of_ZipB (by kernel_rfl) (by kernel_rfl)) (by kernel_rfl) (by kernel_rfl) (by kernel_rfl)
      (by rw [MakeChecks.laidMetH_plain _ _ _ (by kernel_rfl)]; exact laidMet_laidAll _ (by kernel_rfl) (by kernel_rfl))) ?_
  · intro ds hd
    have : ds.length = 2 := hd
    match ds, this with
    | [d1, d2], _ => rfl
  · intro W base args ds p hval0 hA0 hlt hL hsh
    have hval : ∀ (j : Nat) t v, Tryd.f8.params[j]? = some t → args[j]? = some v → Value.okWide Tryd.prog W .any base t v := hval0
    have hA : DataW.TrodAll enc Tryd.prog W 0 (fun _ => true) true Tryd.f8.params.toList args.toList ds p := hA0
    rw [Tryd.params8] at hA hval
    obtain ⟨v0, v1, d0, d1, p0, p1, rfl, rfl, rfl, h0, h1⟩ := trodAll_two hA
    obtain ⟨a0, rfl, rfl, rfl, wa0⟩ := open_string Tryd.underlying9 (hval 0 9 v0 rfl rfl) h0
    obtain ⟨a1, rfl, rfl, rfl, wa1⟩ := open_int Tryd.underlying5 (hval 1 5 v1 rfl rfl) h1
    have ba1 := bounds_byte wa1
    rw [MakeChecks.laidMetH_plain _ _ _ (by kernel_rfl)] at hL
    have hc : ∃ c : UInt8, a1 = (c.toNat : Int) := ⟨UInt8.ofNat a1.toNat, by rw [UInt8.toNat_ofNat']; omega⟩
    obtain ⟨c, rfl⟩ := hc
    exact walk a0 c W wa0 (MaxLenAt.of_shape hsh)

theorem over : Rows.FnExactSplitByteSaid :=
  OpenClaim.holds_of_wide 8 Tryd.f8 rfl rfl rfl rfl rfl rfl rfl ⟨rfl, rfl, rfl, rfl, rfl⟩ rfl rfl rfl rfl rfl (by kernel_rfl) Tryd.func8 (by kernel_rfl)
    (of_decide_eq_true (by kernel_rfl)) (by unfold Func.isWrapper; rw [if_neg (of_decide_eq_false (by kernel_rfl))]; exact ⟨rfl, rfl⟩)
    (fun os started H enc _ => lifted os started H enc)

theorem proved : Rows.FnExactSplitByteCardSaid :=
  Claim7.holds_tied_plain_at .later [] Rows.fnExactSplitByteCard.laidKinds true Rows.fnExactSplitByteCard.stood.harness true
    over (fun _ h => by cases h) (by kernel_rfl) (fun _ h => by cases h) fnExactSplitByte_row_tie rfl ⟨rfl, rfl⟩ (by kernel_rfl) rfl
    (fun f fn hf hfn => by
      obtain rfl : f = 8 := Option.some.inj ((show Tryd.prog.funcNamed "loop.example/g00592/laws.FnExactSplitByte" = some 8 by kernel_rfl).symm.trans hf) |>.symm
      obtain rfl : fn = Tryd.f8 := (Option.some.inj (Tryd.func8.symm.trans hfn)).symm
      exact ⟨by kernel_rfl, fun j t ht => by
        rw [Tryd.params8] at ht
        have hm := Array.mem_of_getElem? ht
        have hall : (#[9, 5].toList.all fun u => !Tryd.prog.wantsStandIn u) = true := by kernel_rfl
        exact (show Tryd.prog.wantsStandIn t = false by simpa using List.all_eq_true.1 hall t (by simpa using hm))⟩)
    (by kernel_rfl)

end Go.Proofs.YthplgklegoeelaaDoor.lawSplit
