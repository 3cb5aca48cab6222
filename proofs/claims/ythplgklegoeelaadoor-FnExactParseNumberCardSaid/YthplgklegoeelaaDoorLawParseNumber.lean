/- FnExactParseNumber: for every string the law of ParseNumber hands back true. No condition. (The card ties strconv's and math/bits' variables to the program's text; the tie is given.) -/
import Derived.Test.YthplgklegoeelaaDoorRows
import Derived.Test.YthplgklegoeelaaDoorLaw
import Derived.Test.YthplgklegoeelaaDoorCards
import Derived.Test.YthplgklegoeelaaDoorTie
import Derived.Test.YthplgklegoeelaaDoorLawLaid
import Derived.Test.YthplgklegoeelaaDoorImplParse
import Derived.Test.YthplgklegoeelaaDoorRead
import Derived.SevenTiedAt
namespace Go.Proofs.YthplgklegoeelaaDoor.lawParseNumber
open Go.ChangeShapes Go.WideShapes Go.ChangeAt Go.RowKit
open Go.ChangeMaps (open_string shut_string)

/-- What the model answers. -/
def SpecPost (l : List UInt8) (w : World) (e : Ending) (w' : World) : Prop :=
  ((∃ n : Int, e = .returned (.tuple #[.int .i64 n, .bool true]) ∧ l = Lib.itoa n ∧ 0 ≤ n ∧ n ≤ 999999) ∨
    (e = .returned (.tuple #[.int .i64 0, .bool false]) ∧ ∀ n : Int, 0 ≤ n → n ≤ 999999 → l ≠ Lib.itoa n)) ∧ Below w.heap.size w w'

set_option maxHeartbeats 400000 in
theorem spec_any (s : ByteArray) (w : World) (hs : s.size ≤ 1048576) :
    Calls Tryd.prog 16 #[.string s] w (SpecPost s.data.toList w) := by
  have hr := Lib.hid (read_any s 5 w hs (by omega))
  go_enter Tryd.func16, Tryd.ntmps16
  go_wp2_with fail
  refine hr.out.mono ?_
  rintro e w1 ⟨⟨n, rfl, hn, hb⟩ | ⟨rfl, hno⟩, hb1⟩
  · have H := Lib.hid hn
    clear hn
    by_cases h0 : n < 0
    · go_wp2
      go_ret2
      exact ⟨.inr ⟨rfl, fun m h1 h2 e => by
        have := itoa_inj n m (by omega) (by omega) (by omega) (by omega) (H.out.symm.trans e)
        omega⟩, hb1⟩
    · go_wp2
      go_ret2
      exact ⟨.inl ⟨n, rfl, H.out, by omega, by omega⟩, hb1⟩
  · have H := Lib.hid hno
    clear hno
    go_wp2
    go_ret2
    exact ⟨.inr ⟨rfl, fun n h0 h1 => H.out n (by omega)⟩, hb1⟩

set_option maxHeartbeats 400000 in
theorem walk (s : ByteArray) (w : World) (hs : s.size ≤ maxLen) (ht : Pow10At w) (hE : ErrsAt w) (hsz : 0 < w.heap.size) (hsz2 : 1 < w.heap.size ∧ 2 < w.heap.size) :
    Calls Tryd.prog 6 #[.string s] w (TrueBelow w) := by
  unfold maxLen at hs
  by_cases h1 : (1048576 : Int) < s.size
  · clear ht hE
    go_enter Tryd.func6, Tryd.ntmps6
    go_wp2
    go_ret
    exact ⟨rfl, Below.refl _ _⟩
  · have hr := Lib.hid (spec_any s w (by omega))
    have ht' := Lib.hid ht
    have hE' := Lib.hid hE
    clear ht hE
    go_enter Tryd.func6, Tryd.ntmps6
    go_wp2_with fail
    refine hr.out.mono ?_
    rintro e w1 ⟨⟨n, rfl, hn, h0, h1⟩ | ⟨rfl, hno⟩, hb1⟩
    · have hi := Lib.hid (implParseNumber_yes s n w1 (by omega) h0 h1 hn (ht'.out.below hb1 hsz) (Nat.lt_of_lt_of_le hsz hb1.size))
      have H := Lib.hid hn
      clear hn
      go_wp2_with fail
      refine hi.out.mono ?_
      rintro e w2 ⟨rfl, hb2⟩
      go_wp2
      go_ret
      exact ⟨rfl, hb1.trans (hb2.mono hb1.size)⟩
    · have hi := Lib.hid (implParseNumber_no s w1 (by omega) hno (ht'.out.below hb1 hsz) (hE'.out.below hb1 hsz2) (Nat.lt_of_lt_of_le hsz hb1.size))
      have H := Lib.hid hno
      clear hno
      go_wp2_with fail
      refine hi.out.mono ?_
      rintro e w2 ⟨rfl, hb2⟩
      go_wp2
      go_ret
      exact ⟨rfl, hb1.trans (hb2.mono hb1.size)⟩

theorem own : ownKnob Tryd.prog.godebug = none := by kernel_rfl
theorem laidOut : laidOutB Tryd.prog = true := by kernel_rfl

/-- What the row lists. -/
def laid : List (String × DataW Unit) := Rows.fnExactParseNumberRow.laid

theorem door_met (os : Os) (args : Array Value) : laidMetH Tryd.prog laid ((World.doorLaid Tryd.prog 400 os).forCall (fun _ _ => 0) ⟨#[], args, []⟩).memory :=
  laidMetH_of_parts3 (fuel := 8) (laidMet_of_run' 8 (by kernel_rfl) (by kernel_rfl)) (by kernel_rfl) (by kernel_rfl)

set_option maxRecDepth 100000 in
theorem lifted (os : Os) (started : os.Started) (H : Type) (enc : TypeId × Value → H) :
    ReturnsInHanded {} Tryd.checked os 6 .any (fun w args => (Rows.fnExactParseNumberSpec.pre enc Tryd.prog Tryd.f6 [] false w args ∧ laidMetH Tryd.prog laid w) ∧ sizedMet enc Tryd.prog Tryd.f6 (OpenSpec.ofChange Rows.fnExactParseNumberSpec) false w args)
      (Rows.fnExactParseNumberSpec.post enc Tryd.prog Tryd.f6 false true false false) := by
  refine law_lifted_laid (C := Tryd.checked) (bt := 4) own laidOut started (by kernel_rfl) Tryd.func6 rfl rfl Tryd.underlying4 (by kernel_rfl) ?_
    (ChangeSpec.witness_shaped (enc := enc) (C := Tryd.checked) (os := os) (X := fun w _ => laidMetH Tryd.prog laid w) false (World.doorLaid Tryd.prog 400 os) #[.string ⟨#[]⟩] 8 rfl (World.shaped_of_RefB (by kernel_rfl) (by kernel_rfl)) (by kernel_rfl) (by kernel_rfl) (by kernel_rfl) (door_met os _)) ?_
  · intro ds hd
    have : ds.length = 1 := hd
    match ds, this with
    | [d1], _ => rfl
  · intro W base args ds p hval0 hA0 hlt hL hsh
    have hval : ∀ (j : Nat) t v, Tryd.f6.params[j]? = some t → args[j]? = some v → Value.okWide Tryd.prog W .any base t v := hval0
    have hA : DataW.TrodAll enc Tryd.prog W 0 (fun _ => true) true Tryd.f6.params.toList args.toList ds p := hA0
    rw [Tryd.params6] at hA hval
    obtain ⟨v0, d0, rfl, rfl, h0⟩ := trodAll_one hA
    obtain ⟨a0, rfl, rfl, rfl, wa0⟩ := open_string Tryd.underlying9 (hval 0 9 v0 rfl rfl) h0
    rw [MakeChecks.laidMetH_plain _ _ _ (by kernel_rfl)] at hL
    have ht : Pow10At W := tab_of_laid (g := 0) (t := 88) (e := 71) (n := 20) (by kernel_rfl) (by kernel_rfl) Tryd.underlying88 Tryd.underlying71 (by kernel_rfl) (by kernel_rfl) hL (by simp only [laid, Rows.fnExactParseNumberRow]; exact List.mem_of_getElem? (i := 2) rfl)
    have hsz := block_lt_of_cell (Lib.TabIs.cell ht (g := 0) (by kernel_rfl) 0 (by decide))
    have hE : ErrsAt W := ⟨iface_of_laid (g := 1) (t := 54) (by kernel_rfl) (by kernel_rfl) Tryd.underlying54 hL (by simp only [laid, Rows.fnExactParseNumberRow]; exact List.mem_of_getElem? (i := 4) rfl),
      iface_of_laid (g := 2) (t := 54) (by kernel_rfl) (by kernel_rfl) Tryd.underlying54 hL (by simp only [laid, Rows.fnExactParseNumberRow]; exact List.mem_of_getElem? (i := 3) rfl)⟩
    have hsz2 : 1 < W.heap.size ∧ 2 < W.heap.size := by
      obtain ⟨⟨t1, p1, e1⟩, ⟨t2, p2, e2⟩⟩ := hE
      exact ⟨var_lt (by kernel_rfl) e1, var_lt (by kernel_rfl) e2⟩
    exact walk a0 W wa0 ht hE hsz hsz2

theorem over : Rows.FnExactParseNumberSaid :=
  OpenClaim.holds_of_wide 6 Tryd.f6 rfl rfl rfl rfl rfl rfl rfl ⟨rfl, rfl, rfl, rfl, rfl⟩ rfl rfl rfl rfl rfl (by kernel_rfl) Tryd.func6 (by kernel_rfl)
    (of_decide_eq_true (by kernel_rfl)) (by unfold Func.isWrapper; rw [if_neg (of_decide_eq_false (by kernel_rfl))]; exact ⟨rfl, rfl⟩)
    (fun os started H enc _ => lifted os started H enc)

theorem proved : Rows.FnExactParseNumberCardSaid :=
  Claim7.holds_tied_plain_at .later [] Rows.fnExactParseNumberCard.laidKinds true Rows.fnExactParseNumberCard.stood.harness true
    over (fun _ h => by cases h) (by kernel_rfl) (fun _ h => by cases h) fnExactParseNumber_row_tie rfl ⟨rfl, rfl⟩ (by kernel_rfl) rfl
    (fun f fn hf hfn => by
      obtain rfl : f = 6 := Option.some.inj ((show Tryd.prog.funcNamed "loop.example/g00592/laws.FnExactParseNumber" = some 6 by kernel_rfl).symm.trans hf) |>.symm
      obtain rfl : fn = Tryd.f6 := (Option.some.inj (Tryd.func6.symm.trans hfn)).symm
      exact ⟨by kernel_rfl, fun j t ht => by
        rw [Tryd.params6] at ht
        have hm := Array.mem_of_getElem? ht
        have hall : (#[9].toList.all fun u => !Tryd.prog.wantsStandIn u) = true := by kernel_rfl
        exact (show Tryd.prog.wantsStandIn t = false by simpa using List.all_eq_true.1 hall t (by simpa using hm))⟩)
    (by kernel_rfl)

end Go.Proofs.YthplgklegoeelaaDoor.lawParseNumber
