/- FnSplit: for every code the law of splitting and joining hands back true. No condition. (The card ties utf8's tables to the program's text; the tie is given.) -/
import Derived.Test.YthplgklegoeelaaDoorRows
import Derived.Test.YthplgklegoeelaaDoorLaw
import Derived.Test.YthplgklegoeelaaDoorCards
import Derived.Test.YthplgklegoeelaaDoorTie
import Derived.Test.YthplgklegoeelaaDoorLawLaid
import Derived.Test.YthplgklegoeelaaDoorOpenBytes
import Derived.Test.YthplgklegoeelaaDoorSpecSplit
import Derived.Test.YthplgklegoeelaaDoorImplSplit
import Derived.Test.YthplgklegoeelaaDoorImplJoin
import Derived.Test.YthplgklegoeelaaDoorSplitJoin
import Derived.Test.YthplgklegoeelaaDoorDraw1
import Derived.SevenTiedAt
namespace Go.Proofs.YthplgklegoeelaaDoor.lawFnSplit
open Go.ChangeShapes Go.WideShapes Go.ChangeAt Go.RowKit
open Go.ChangeMaps (open_string shut_string)

set_option maxHeartbeats 1000000 in
theorem walk (A : Option Addr) (n cap : Nat) (w : World) (hA : BytesAt w w.heap.size A n) (hn : n ≤ maxLen) (hm : MaxLenAt w) :
    Calls Tryd.prog 4 #[.slice A n cap] w (TrueBelow w) := by
  unfold maxLen at hn
  by_cases h1 : (1048576 : Int) < n
  · clear hm
    go_enter Tryd.func4, Tryd.ntmps4
    go_wp2
    go_ret
    exact ⟨rfl, Below.refl _ _⟩
  · have hd := Lib.hid (drawSplitByte_any A n cap w hA (by omega))
    have HM := Lib.hid hm
    have hms := Lib.hid hm.lt
    have hcv := run_convert_byte (P := Tryd.prog) Tryd.underlying22 Tryd.underlying5 Tryd.underlying9
    clear hm hA
    go_enter Tryd.func4, Tryd.ntmps4
    go_wp2_with (first | (go_at_call 9; go_in) | fail)
    refine hd.out.mono ?_
    rintro e w1 ⟨⟨s, c, rfl, hs⟩, hb1⟩
    clear hd
    have hlen := pieces_short c s
    have hsum := pieces_sum c s
    have hjoin := Lib.hid (join_pieces c s)
    have halone := Lib.hid (piece_alone c s)
    have hsz := Lib.hid (pieces_size c s)
    have hspec := Lib.hid (fun W => specSplit_any s c W (by omega))
    have himpl := Lib.hid (fun W h => implSplit_any s c W (by omega) h)
    have hany := Lib.hid (fun x W hx h => implSplit_any x c W hx h)
    go_wp2_with fail
    refine (himpl.out w1 (HM.out.below hb1 hms.out)).mono ?_
    rintro e w2 ⟨g, rfl, hg, hw2, hb2⟩
    have hb2' := hb1.trans (hb2.mono hb1.size)
    clear himpl
    generalize hps : pieces c s = ps at *
    have HP := Lib.hid hps
    clear hps
    have hw3 := hw2.below ((Below.refl _ _).alloc (Nat.le_refl _) (.cells #[.int .u8 (c.toNat : Int)] 5)) hw2.lt
    go_wp2_with fail
    refine (implJoin_any _ _ ps ⟨#[c]⟩ _ (StrsAt.of_whole hw3 _ hw3.lt) (by omega) (by omega) (show (1 : Nat) ≤ 1048576 by omega)).mono ?_
    rintro e w4 ⟨rfl, hb4⟩
    have hw4 := hw3.below hb4 hw3.lt
    have hb4' := (hb2'.alloc hb2'.size (.cells #[.int .u8 (c.toNat : Int)] 5)).trans (hb4.mono (by have := hb2'.size; simp; omega))
    have hjs : (⟨(joinTo ps ⟨#[c]⟩ ps.length).toArray⟩ : ByteArray) = s := ext_data (by rw [hjoin.out])
    rw [hjs]
    clear hjs hw2 hw3
    go_wp2_with fail
    refine (hspec.out w4).mono ?_
    rintro e w5 ⟨A5, c5, rfl, hA5, hb5⟩
    have hw5 := hw4.below hb5 hw4.lt
    have hb5' := hb4'.trans (hb5.mono hb4'.size)
    have hle : ((ps.length : Int) != ps.length) = false := by simp
    clear hw4 hspec hA5
    go_wp2
    go_loopw [6] (fun i wr => ∃ j : Nat, j ≤ ps.length ∧ i = .int .i64 j ∧ Whole1 wr g 9 (strVals ps).toArray ∧ Below w.heap.size w wr) (fun i _ => ps.length - (intOf i).toNat)
    case atStart => exact ⟨0, Nat.zero_le _, rfl, hw5, hb5'⟩
    case round =>
      obtain ⟨j, hj, rfl, hw, hb⟩ := hrel
      clear hw5 hb5' hle
      by_cases hlt : j < ps.length
      · have hc1 : wr.cell? ⟨g, j, none⟩ = some (.string ps[j]) := by
          rw [hw.cell]
          simp [strVals, hlt]
        have hal := Lib.hid (halone.out j hlt)
        have hsj := hsz.out j hlt
        have HW := Lib.hid hw
        have hMr := Lib.hid (HM.out.below hb hms.out)
        clear hw
        go_wp2_with fail
        refine (hany.out ps[j] wr (by omega) hMr.out).mono ?_
        rintro e w7 ⟨g7, rfl, hg7, hw7, hb7⟩
        have hw7' := HW.out.below hb7 HW.out.lt
        have hb7' := hb.trans (hb7.mono hb.size)
        clear hw7
        have hone : ((pieces c ps[j]).length : Int) = 1 := by have := hal.out; omega
        go_wp2
        go_roundw
        case rel => exact ⟨j + 1, by omega, by go_num, hw7', hb7'⟩
        case measure => simp [intOf]; omega
      · go_wp2
        go_ret
        exact ⟨rfl, hb⟩

theorem own : ownKnob Tryd.prog.godebug = none := by kernel_rfl
theorem laidOut : laidOutB Tryd.prog = true := by kernel_rfl

/-- What the row lists. -/
def laid : List (String × DataW Unit) := Rows.fnSplitRow.laid

set_option maxRecDepth 100000 in
theorem lifted (os : Os) (started : os.Started) (H : Type) (enc : TypeId × Value → H) :
    ReturnsInHanded {} Tryd.checked os 4 .any (fun w args => (Rows.fnSplitSpec.pre enc Tryd.prog Tryd.f4 [] false w args ∧ laidMetH Tryd.prog laid w) ∧ sizedMet enc Tryd.prog Tryd.f4 (OpenSpec.ofChange Rows.fnSplitSpec) false w args)
      (Rows.fnSplitSpec.post enc Tryd.prog Tryd.f4 false true false false) := by
  refine law_lifted_laid (C := Tryd.checked) (bt := 4) own laidOut started (by kernel_rfl) Tryd.func4 rfl rfl Tryd.underlying4 (by kernel_rfl) ?_
    (ChangeSpec.witness_shaped (enc := enc) (C := Tryd.checked) (os := os) (X := fun w _ => laidMetH Tryd.prog laid w) false (World.laidAll Tryd.prog os laid) #[.slice none 0 0] 8 (World.laidAll_os _ _ _) (World.shaped_of_ZipB (by kernel_rfl) (by kernel_rfl)) (by kernel_rfl) (by kernel_rfl) (by kernel_rfl)
      (by rw [MakeChecks.laidMetH_plain _ _ _ (by kernel_rfl)]; exact laidMet_laidAll _ (by kernel_rfl) (by kernel_rfl))) ?_
  · intro ds hd
    have : ds.length = 1 := hd
    match ds, this with
    | [d1], _ => rfl
  · intro W base args ds p hval0 hA0 hlt hL hsh
    have hval : ∀ (j : Nat) t v, Tryd.f4.params[j]? = some t → args[j]? = some v → Value.okWide Tryd.prog W .any base t v := hval0
    have hA : DataW.TrodAll enc Tryd.prog W 0 (fun _ => true) true Tryd.f4.params.toList args.toList ds p := hA0
    rw [Tryd.params4] at hA hval
    obtain ⟨v0, d0, rfl, rfl, h0⟩ := trodAll_one hA
    obtain ⟨A0, a0, c0, rfl, ra0, la0⟩ := open_bytes_arg Tryd.underlying22 Tryd.underlying5 (by kernel_rfl) (hval 0 22 v0 rfl rfl) h0 (fun x hx => hlt x (by simp [hx]))
    rw [MakeChecks.laidMetH_plain _ _ _ (by kernel_rfl)] at hL
    exact walk A0 a0 c0 W ra0 la0 (MaxLenAt.of_shape hsh)

theorem over : Rows.FnSplitSaid :=
  OpenClaim.holds_of_wide 4 Tryd.f4 rfl rfl rfl rfl rfl rfl rfl ⟨rfl, rfl, rfl, rfl, rfl⟩ rfl rfl rfl rfl rfl (by kernel_rfl) Tryd.func4 (by kernel_rfl)
    (of_decide_eq_true (by kernel_rfl)) (by unfold Func.isWrapper; rw [if_neg (of_decide_eq_false (by kernel_rfl))]; exact ⟨rfl, rfl⟩)
    (fun os started H enc _ => lifted os started H enc)

theorem proved : Rows.FnSplitCardSaid :=
  Claim7.holds_tied_plain_at .later [] Rows.fnSplitCard.laidKinds true Rows.fnSplitCard.stood.harness true
    over (fun _ h => by cases h) (by kernel_rfl) (fun _ h => by cases h) fnSplit_row_tie rfl ⟨rfl, rfl⟩ (by kernel_rfl) rfl
    (fun f fn hf hfn => by
      obtain rfl : f = 4 := Option.some.inj ((show Tryd.prog.funcNamed "loop.example/g00592/laws.FnSplit" = some 4 by kernel_rfl).symm.trans hf) |>.symm
      obtain rfl : fn = Tryd.f4 := (Option.some.inj (Tryd.func4.symm.trans hfn)).symm
      exact ⟨by kernel_rfl, fun j t ht => by
        rw [Tryd.params4] at ht
        have hm := Array.mem_of_getElem? ht
        have hall : (#[22].toList.all fun u => !Tryd.prog.wantsStandIn u) = true := by kernel_rfl
        exact (show Tryd.prog.wantsStandIn t = false by simpa using List.all_eq_true.1 hall t (by simpa using hm))⟩)
    (by kernel_rfl)

end Go.Proofs.YthplgklegoeelaaDoor.lawFnSplit
