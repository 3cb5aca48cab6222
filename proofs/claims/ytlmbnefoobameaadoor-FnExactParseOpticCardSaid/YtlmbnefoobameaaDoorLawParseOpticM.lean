/- FnExactParseOptic: for every text the law of ParseOptic hands back true. No condition. (The card ties the variables to the program's text; the tie is given.) -/
import Derived.Test.YtlmbnefoobameaaDoorRows
import Derived.Test.YtlmbnefoobameaaDoorLawParseOptic_1
import Derived.Test.YtlmbnefoobameaaDoorCards
import Derived.Test.YtlmbnefoobameaaDoorTie
import Derived.Test.YtlmbnefoobameaaDoorLawParseOptic_2
import Derived.Test.YtlmbnefoobameaaDoorLawParseOptic_4
import Derived.Test.YtlmbnefoobameaaDoorLawParseOptic_12
import Derived.Test.YtlmbnefoobameaaDoorLawParseOptic_13
import Derived.SevenTiedAt

namespace Go.Proofs.YtlmbnefoobameaaDoor.lawParseOptic
open Go.ChangeShapes Go.WideShapes Go.ChangeAt Go.RowKit
open Go.ChangeMaps (open_string shut_string)

/-- The tables lie below the world's size. -/
def NumsUp (w : World) : Prop := OI.NumsO w w.heap.size
theorem NumsUp.up {w w' : World} (h : NumsUp w) (hb : Below w.heap.size w w') : NumsUp w' :=
  have h1 := OI.NumsO.below h hb
  ⟨h1.pow, h1.errs, Nat.lt_of_lt_of_le h1.b1 hb.size, Nat.lt_of_lt_of_le h1.b2 hb.size, Nat.lt_of_lt_of_le h1.b3 hb.size⟩

set_option maxHeartbeats 4000000 in
set_option maxRecDepth 100000 in
theorem walk (l : ByteArray) (w : World) (hsl : l.size ≤ maxLen) (hN0 : NumsUp w) :
    Calls Tryd.prog 5 #[.string l] w (TrueBelow w) := by
  have hsl' := hsl
  unfold maxLen at hsl'
  by_cases hbig : 1048576 < l.size
  · go_enter Tryd.func5, Tryd.ntmps5
    go_wp2
    go_ret
    exact ⟨rfl, Below.refl _ _⟩
  · have hl1 : l.size ≤ 1048576 := by omega
    have HN := Lib.hid hN0
    clear hN0
    have HS := Lib.hid (fun W => specParseO_any l W hl1)
    have HI := Lib.hid (fun W (h : NumsUp W) => implParseO_any l W hl1 h)
    have hrs := parseO_sz l
    generalize hrd : (parseOB l).getD zeroOt = r at *
    have hcr := cnt_le_szO r
    unfold ParsePostO at HS HI
    rw [hrd] at HS HI
    have HRD := Lib.hid hrd
    clear hrd
    generalize (parseOB l).isSome = x at *
    have HEr := Lib.hid (fun V V' W h h' => eqOptic_any r V V' W h h')
    have hxx : (x != x) = false := by simp
    clear hsl'
    go_enter Tryd.func5, Tryd.ntmps5
    go_wp2_with fail
    refine (HS.out w).mono ?_
    rintro e w1 ⟨u2, rfl, hw1, hb1⟩
    have cb1 := hb1
    have sz1 := hb1.size
    obtain ⟨A2, a2, rfl, _⟩ := hw1.open
    have hwT := hw1.here
    clear hw1
    have kW1 : Below w1.heap.size w1 w1 := Below.refl _ _
    obtain ⟨hb2, bW2, hz2⟩ := boxes1 w1 50 #[.int .i64 r.kind, .string r.name, .int .i64 r.num, .slice A2 r.args.length a2]
    go_wp2_with fail
    generalize w1.alloc (.cells #[.int .i64 r.kind, .string r.name, .int .i64 r.num, .slice A2 r.args.length a2] 50) = w2 at *
    have zz2 : w1.heap.size < w2.heap.size := by omega
    clear hz2
    have cb2 := cb1.trans (hb2.mono cb1.size)
    have sz2 := hb2.size
    have kW2 := kW1.trans (hb2.mono kW1.size)
    clear kW1
    refine (HI.out w2 (HN.out.up cb2)).mono ?_
    rintro e w3 ⟨u4, rfl, gI3, hb3⟩
    have cb3 := cb2.trans (hb3.mono cb2.size)
    have sz3 := hb3.size
    have kW3 := kW2.trans (hb3.mono kW2.size)
    have bW3 := bW2.below hb3 bW2.lt
    clear kW2 bW2
    obtain ⟨A4, a4, rfl, _⟩ := gI3.open
    obtain ⟨hb4, bG4, hz4⟩ := boxes1 w3 50 #[.int .i64 r.kind, .string r.name, .int .i64 r.num, .slice A4 r.args.length a4]
    have dW := bW3.below hb4 bW3.lt
    have cW0 : (w3.alloc (.cells #[.int .i64 r.kind, .string r.name, .int .i64 r.num, .slice A4 r.args.length a4] 50)).cell? ⟨w1.heap.size, 0, none⟩ = some (.int .i64 r.kind) := dW.cell 0
    have cW1 : (w3.alloc (.cells #[.int .i64 r.kind, .string r.name, .int .i64 r.num, .slice A4 r.args.length a4] 50)).cell? ⟨w1.heap.size, 1, none⟩ = some (.string r.name) := dW.cell 1
    have cW2 : (w3.alloc (.cells #[.int .i64 r.kind, .string r.name, .int .i64 r.num, .slice A4 r.args.length a4] 50)).cell? ⟨w1.heap.size, 2, none⟩ = some (.int .i64 r.num) := dW.cell 2
    have cW3 : (w3.alloc (.cells #[.int .i64 r.kind, .string r.name, .int .i64 r.num, .slice A4 r.args.length a4] 50)).cell? ⟨w1.heap.size, 3, none⟩ = some (.slice A2 r.args.length a2) := dW.cell 3
    go_wp2_with fail
    clear dW cW0 cW1 cW2 cW3
    generalize w3.alloc (.cells #[.int .i64 r.kind, .string r.name, .int .i64 r.num, .slice A4 r.args.length a4] 50) = w4 at *
    have zz4 : w3.heap.size < w4.heap.size := by omega
    clear hz4
    have cb4 := cb3.trans (hb4.mono cb3.size)
    have sz4 := hb4.size
    have kW4 := kW3.trans (hb4.mono kW3.size)
    have bW4 := bW3.below hb4 bW3.lt
    have gI4 := gI3.keep (fun q _ hq => hb4.block q hq)
    clear kW3 bW3 gI3
    refine (HEr.out _ _ w4 gI4.here ((hwT.lift kW4).more kW4.size)).mono ?_
    rintro e w5 ⟨rfl, hb5⟩
    have cb5 := cb4.trans (hb5.mono cb4.size)
    have sz5 := hb5.size
    have kW5 := kW4.trans (hb5.mono kW4.size)
    have bW5 := bW4.below hb5 bW4.lt
    have gI5 := gI4.keep (fun q _ hq => hb5.block q hq)
    have bG5 := bG4.below hb5 bG4.lt
    clear kW4 bW4 gI4 bG4
    have cG0 : w5.cell? ⟨w3.heap.size, 0, none⟩ = some (.int .i64 r.kind) := bG5.cell 0
    have cG1 : w5.cell? ⟨w3.heap.size, 1, none⟩ = some (.string r.name) := bG5.cell 1
    have cG2 : w5.cell? ⟨w3.heap.size, 2, none⟩ = some (.int .i64 r.num) := bG5.cell 2
    have cG3 : w5.cell? ⟨w3.heap.size, 3, none⟩ = some (.slice A4 r.args.length a4) := bG5.cell 3
    go_wp2_with fail
    clear cG0 cG1 cG2 cG3
    refine (markOptic_any r _ _ 1 w5 gI5 (by omega) (by omega)).mono ?_
    rintro e w6 ⟨rfl, gM6, ho6⟩
    have sz6 := ho6.size
    have cb6 := OnlyIn.below cb5 ho6 cb5.size (fun q hq => by have := hq.1; omega)
    have bW6 : Whole1 w6 (w1.heap.size) _ _ := (ho6.block (w1.heap.size) bW5.lt (fun h => by have := h.1; have := h.2; omega)).trans bW5
    have bG6 : Whole1 w6 (w3.heap.size) _ _ := (ho6.block (w3.heap.size) bG5.lt (fun h => by have := h.1; have := h.2; omega)).trans bG5
    have kW6 := OnlyIn.below kW5 ho6 kW5.size (fun q hq => by have := hq.1; omega)
    clear kW5 bW5 gI5 bG5
    have cG0 : w6.cell? ⟨w3.heap.size, 0, none⟩ = some (.int .i64 r.kind) := bG6.cell 0
    have cG1 : w6.cell? ⟨w3.heap.size, 1, none⟩ = some (.string r.name) := bG6.cell 1
    have cG2 : w6.cell? ⟨w3.heap.size, 2, none⟩ = some (.int .i64 r.num) := bG6.cell 2
    have cG3 : w6.cell? ⟨w3.heap.size, 3, none⟩ = some (.slice A4 r.args.length a4) := bG6.cell 3
    go_wp2_with fail
    clear cG0 cG1 cG2 cG3
    refine (heldOptic_any r _ 1 w6 gM6.here (by omega) (by omega)).mono ?_
    rintro e w7 ⟨rfl, hb7⟩
    have cb7 := cb6.trans (hb7.mono cb6.size)
    have sz7 := hb7.size
    have bW7 := bW6.below hb7 bW6.lt
    have bG7 := bG6.below hb7 bG6.lt
    have kW7 := kW6.trans (hb7.mono kW6.size)
    have gM7 := gM6.keep (fun q _ hq => hb7.block q hq)
    clear bW6 bG6 kW6 gM6
    go_wp2_with fail
    refine (HI.out w7 (HN.out.up cb7)).mono ?_
    rintro e w8 ⟨u6, rfl, hh8, hb8⟩
    have cb8 := cb7.trans (hb8.mono cb7.size)
    have sz8 := hb8.size
    have bW8 := bW7.below hb8 bW7.lt
    have bG8 := bG7.below hb8 bG7.lt
    have kW8 := kW7.trans (hb8.mono kW7.size)
    have gM8 := gM7.keep (fun q _ hq => hb8.block q hq)
    clear bW7 bG7 kW7 gM7
    obtain ⟨A5, a5, rfl, _⟩ := hh8.open
    have hhT8 := hh8.here
    clear hh8
    obtain ⟨hb9, bH9, hz9⟩ := boxes1 w8 50 #[.int .i64 r.kind, .string r.name, .int .i64 r.num, .slice A5 r.args.length a5]
    have dW := bW8.below hb9 bW8.lt
    have cW0 : (w8.alloc (.cells #[.int .i64 r.kind, .string r.name, .int .i64 r.num, .slice A5 r.args.length a5] 50)).cell? ⟨w1.heap.size, 0, none⟩ = some (.int .i64 r.kind) := dW.cell 0
    have cW1 : (w8.alloc (.cells #[.int .i64 r.kind, .string r.name, .int .i64 r.num, .slice A5 r.args.length a5] 50)).cell? ⟨w1.heap.size, 1, none⟩ = some (.string r.name) := dW.cell 1
    have cW2 : (w8.alloc (.cells #[.int .i64 r.kind, .string r.name, .int .i64 r.num, .slice A5 r.args.length a5] 50)).cell? ⟨w1.heap.size, 2, none⟩ = some (.int .i64 r.num) := dW.cell 2
    have cW3 : (w8.alloc (.cells #[.int .i64 r.kind, .string r.name, .int .i64 r.num, .slice A5 r.args.length a5] 50)).cell? ⟨w1.heap.size, 3, none⟩ = some (.slice A2 r.args.length a2) := dW.cell 3
    go_wp2_with fail
    clear dW cW0 cW1 cW2 cW3
    generalize w8.alloc (.cells #[.int .i64 r.kind, .string r.name, .int .i64 r.num, .slice A5 r.args.length a5] 50) = w9 at *
    have zz9 : w8.heap.size < w9.heap.size := by omega
    clear hz9
    have cb9 := cb8.trans (hb9.mono cb8.size)
    have sz9 := hb9.size
    have bW9 := bW8.below hb9 bW8.lt
    have bG9 := bG8.below hb9 bG8.lt
    have kW9 := kW8.trans (hb9.mono kW8.size)
    have gM9 := gM8.keep (fun q _ hq => hb9.block q hq)
    have hhT9 := hhT8.up hb9
    clear bW8 bG8 kW8 gM8 hhT8
    refine (HEr.out _ _ w9 hhT9 ((hwT.lift kW9).more kW9.size)).mono ?_
    rintro e w10 ⟨rfl, hb10⟩
    have cb10 := cb9.trans (hb10.mono cb9.size)
    have sz10 := hb10.size
    have bW10 := bW9.below hb10 bW9.lt
    have bG10 := bG9.below hb10 bG9.lt
    have kW10 := kW9.trans (hb10.mono kW9.size)
    have gM10 := gM9.keep (fun q _ hq => hb10.block q hq)
    have hhT10 := hhT9.up hb10
    have bH10 := bH9.below hb10 bH9.lt
    clear bW9 bG9 kW9 gM9 hhT9 bH9
    have cG0 : w10.cell? ⟨w3.heap.size, 0, none⟩ = some (.int .i64 r.kind) := bG10.cell 0
    have cG1 : w10.cell? ⟨w3.heap.size, 1, none⟩ = some (.string r.name) := bG10.cell 1
    have cG2 : w10.cell? ⟨w3.heap.size, 2, none⟩ = some (.int .i64 r.num) := bG10.cell 2
    have cG3 : w10.cell? ⟨w3.heap.size, 3, none⟩ = some (.slice A4 r.args.length a4) := bG10.cell 3
    go_wp2_with fail
    clear cG0 cG1 cG2 cG3
    refine (heldOptic_any r _ 1 w10 gM10.here (by omega) (by omega)).mono ?_
    rintro e w11 ⟨rfl, hb11⟩
    have cb11 := cb10.trans (hb11.mono cb10.size)
    have sz11 := hb11.size
    have bW11 := bW10.below hb11 bW10.lt
    have bG11 := bG10.below hb11 bG10.lt
    have kW11 := kW10.trans (hb11.mono kW10.size)
    have gM11 := gM10.keep (fun q _ hq => hb11.block q hq)
    have hhT11 := hhT10.up hb11
    have bH11 := bH10.below hb11 bH10.lt
    clear bW10 bG10 kW10 gM10 hhT10 bH10
    go_wp2
    go_ret
    exact ⟨rfl, cb11⟩

theorem own : ownKnob Tryd.prog.godebug = none := by kernel_rfl
theorem laidOut : laidOutB Tryd.prog = true := by kernel_rfl

/-- What the row lists. -/
def laid : List (String × DataW Unit) := Rows.fnExactParseOpticRow.laid

set_option maxRecDepth 100000 in
theorem lifted (os : Os) (started : os.Started) (H : Type) (enc : TypeId × Value → H) :
    ReturnsInHanded {} Tryd.checked os 5 .any (fun w args => (Rows.fnExactParseOpticSpec.pre enc Tryd.prog Tryd.f5 [] false w args ∧ laidMetH Tryd.prog laid w) ∧ sizedMet enc Tryd.prog Tryd.f5 (OpenSpec.ofChange Rows.fnExactParseOpticSpec) false w args)
      (Rows.fnExactParseOpticSpec.post enc Tryd.prog Tryd.f5 false true false false) := by
  refine law_lifted_laid (C := Tryd.checked) (bt := 4) own laidOut started (by kernel_rfl) Tryd.func5 rfl rfl Tryd.underlying4 (by kernel_rfl) ?_
    (ChangeSpec.witness_shaped (enc := enc) (C := Tryd.checked) (os := os) (X := fun w _ => laidMetH Tryd.prog laid w) false (World.laidAll Tryd.prog os laid) #[.string ⟨#[]⟩] 8 (World.laidAll_os _ _ _) (World.shaped_of_ZipB (by kernel_rfl) (by kernel_rfl)) (by kernel_rfl) (by kernel_rfl) (by kernel_rfl)
      (by rw [MakeChecks.laidMetH_plain _ _ _ (by kernel_rfl)]; exact laidMet_laidAll _ (by kernel_rfl) (by kernel_rfl))) ?_
  · intro ds hd
    have : ds.length = 1 := hd
    match ds, this with
    | [d1], _ => rfl
  · intro W base args ds p hval0 hA0 hlt hL hsh
    have hval : ∀ (j : Nat) t v, Tryd.f5.params[j]? = some t → args[j]? = some v → Value.okWide Tryd.prog W .any base t v := hval0
    have hA : DataW.TrodAll enc Tryd.prog W 0 (fun _ => true) true Tryd.f5.params.toList args.toList ds p := hA0
    rw [Tryd.params5] at hA hval
    obtain ⟨v0, d0, rfl, rfl, h0⟩ := trodAll_one hA
    obtain ⟨a0, rfl, rfl, rfl, wa0⟩ := open_string Tryd.underlying9 (hval 0 9 v0 rfl rfl) h0
    rw [MakeChecks.laidMetH_plain _ _ _ (by kernel_rfl)] at hL
    have ht : Pow10At W := tab_of_laid (g := 1) (t := 205) (e := 196) (n := 20) (by kernel_rfl) (by kernel_rfl) Tryd.underlying205 Tryd.underlying196 (by kernel_rfl) (by kernel_rfl) hL (by simp only [laid, Rows.fnExactParseOpticRow]; exact List.mem_of_getElem? (i := 2) rfl)
    have hsz := block_lt_of_cell (Lib.TabIs.cell ht (g := 1) (by kernel_rfl) 0 (by decide))
    have hE : ErrsAt W := ⟨iface_of_laid (g := 4) (t := 202) (by kernel_rfl) (by kernel_rfl) Tryd.underlying202 hL (by simp only [laid, Rows.fnExactParseOpticRow]; exact List.mem_of_getElem? (i := 4) rfl),
      iface_of_laid (g := 5) (t := 202) (by kernel_rfl) (by kernel_rfl) Tryd.underlying202 hL (by simp only [laid, Rows.fnExactParseOpticRow]; exact List.mem_of_getElem? (i := 3) rfl)⟩
    have hsz2 : 4 < W.heap.size ∧ 5 < W.heap.size := by
      obtain ⟨⟨t1, p1, e1⟩, ⟨t2, p2, e2⟩⟩ := hE
      exact ⟨var_lt (by kernel_rfl) e1, var_lt (by kernel_rfl) e2⟩
    exact walk a0 W wa0 ⟨ht, hE, hsz, hsz2.1, hsz2.2⟩

theorem over : Rows.FnExactParseOpticSaid :=
  OpenClaim.holds_of_wide 5 Tryd.f5 rfl rfl rfl rfl rfl rfl rfl ⟨rfl, rfl, rfl, rfl, rfl⟩ rfl rfl rfl rfl rfl (by kernel_rfl) Tryd.func5 (by kernel_rfl)
    (of_decide_eq_true (by kernel_rfl)) (by unfold Func.isWrapper; rw [if_neg (of_decide_eq_false (by kernel_rfl))]; exact ⟨rfl, rfl⟩)
    (fun os started H enc _ => lifted os started H enc)

theorem proved : Rows.FnExactParseOpticCardSaid :=
  Claim7.holds_tied_plain_at .later [] Rows.fnExactParseOpticCard.laidKinds true Rows.fnExactParseOpticCard.stood.harness true
    over (fun _ h => by cases h) (by kernel_rfl) (fun _ h => by cases h) fnExactParseOptic_row_tie rfl ⟨rfl, rfl⟩ (by kernel_rfl) rfl
    (fun f fn hf hfn => by
      obtain rfl : f = 5 := Option.some.inj ((show Tryd.prog.funcNamed "loop.example/g00592/laws.FnExactParseOptic" = some 5 by kernel_rfl).symm.trans hf) |>.symm
      obtain rfl : fn = Tryd.f5 := (Option.some.inj (Tryd.func5.symm.trans hfn)).symm
      exact ⟨by kernel_rfl, fun j t ht => by
        rw [Tryd.params5] at ht
        have hm := Array.mem_of_getElem? ht
        have hall : (#[9].toList.all fun u => !Tryd.prog.wantsStandIn u) = true := by kernel_rfl
        exact (show Tryd.prog.wantsStandIn t = false by simpa using List.all_eq_true.1 hall t (by simpa using hm))⟩)
    (by kernel_rfl)

end Go.Proofs.YtlmbnefoobameaaDoor.lawParseOptic
