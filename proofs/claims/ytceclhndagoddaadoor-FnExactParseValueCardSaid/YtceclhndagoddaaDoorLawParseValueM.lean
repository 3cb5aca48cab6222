/- FnExactParseValue: for every text the law of ParseValue hands back true. No condition. (The card ties the variables to the program's text; the tie is given.) -/
import Derived.Test.YtceclhndagoddaaDoorRows
import Derived.Test.YtceclhndagoddaaDoorLawParseValue_1
import Derived.Test.YtceclhndagoddaaDoorCards
import Derived.Test.YtceclhndagoddaaDoorTie
import Derived.Test.YtceclhndagoddaaDoorLawParseValue_2
import Derived.Test.YtceclhndagoddaaDoorLawParseValue_3
import Derived.Test.YtceclhndagoddaaDoorLawParseValue_4
import Derived.Test.YtceclhndagoddaaDoorLawParseValue_15
import Derived.Test.YtceclhndagoddaaDoorLawParseValue_24
import Derived.Test.YtceclhndagoddaaDoorLawParseValue_28
import Derived.SevenTiedAt

namespace Go.Proofs.YtceclhndagoddaaDoor.lawParseValue
open Go.ChangeShapes Go.WideShapes Go.ChangeAt Go.RowKit
open Go.ChangeMaps (open_string shut_string)

/-- The tables lie below the world's size. -/
def NumsUp (w : World) : Prop := NumsAt w w.heap.size
theorem NumsUp.up {w w' : World} (h : NumsUp w) (hb : Below w.heap.size w w') : NumsUp w' :=
  have h1 := NumsAt.below h hb
  ⟨h1.pow, h1.errs, Nat.lt_of_lt_of_le h1.b1 hb.size, Nat.lt_of_lt_of_le h1.b2 hb.size, Nat.lt_of_lt_of_le h1.b3 hb.size⟩
theorem parseV_sz (s : ByteArray) : szVa ((parseVB s).getD zeroVa) ≤ s.size := by
  unfold parseVB
  split
  · rename_i t e
    have h1 := congrArg List.length (rdVa_sound 300 _ _ _ e)
    have h2 := rdVa_sz 300 _ _ _ e
    have h3 : s.data.toList.length = s.size := by simp
    rw [List.append_nil, h3] at h1
    split
    · show szVa t ≤ s.size
      omega
    · simp [zeroVa, szVa, szVas, sumSizes, emptySize0]
  · simp [zeroVa, szVa, szVas, sumSizes, emptySize0]

set_option maxHeartbeats 4000000 in
set_option maxRecDepth 100000 in
theorem walk (l : ByteArray) (w : World) (hsl : l.size ≤ maxLen) (hN0 : NumsUp w) (hF0 : FormsAt w) :
    Calls Tryd.prog 3 #[.string l] w (TrueBelow w) := by
  have hR := valR_all 300 (by omega) 300 (Nat.le_refl _)
  have hsl' := hsl
  unfold maxLen at hsl'
  by_cases hbig : 1048576 < l.size
  · go_enter Tryd.func3, Tryd.ntmps3
    go_wp2
    go_ret
    exact ⟨rfl, Below.refl _ _⟩
  · have hl1 : l.size ≤ 1048576 := by omega
    have HN := Lib.hid hN0
    have HF := Lib.hid hF0
    clear hN0 hF0
    have HS := Lib.hid (fun W => specParseV_any l W hl1)
    have HI := Lib.hid (fun W (h : NumsUp W) h2 => implParseV_any hR l W hl1 h h2)
    have hrs := parseV_sz l
    generalize hrd : (parseVB l).getD zeroVa = r at *
    have hcr := cnt_le_szV r
    unfold ParsePostV at HS HI
    rw [hrd] at HS HI
    have HRD := Lib.hid hrd
    clear hrd hR
    generalize (parseVB l).isSome = x at *
    have HEr := Lib.hid (fun V V' W h h' => eqValue_any r V V' W h h')
    have hxx : (x != x) = false := by simp
    clear hsl'
    go_enter Tryd.func3, Tryd.ntmps3
    go_wp2_with fail
    refine (HS.out w).mono ?_
    rintro e w1 ⟨u2, rfl, hw1, hb1⟩
    have cb1 := hb1
    have sz1 := hb1.size
    obtain ⟨L2, l2, A2, a2, _, rfl, _⟩ := hw1.open
    have hwT := hw1.here
    clear hw1
    have kW1 : Below w1.heap.size w1 w1 := Below.refl _ _
    obtain ⟨hb2, bW2, hz2⟩ := boxes1 w1 25 #[.int .i64 r.kind, .int .i64 r.num, .string r.name, .slice L2 r.labels.length l2, .slice A2 r.args.length a2]
    go_wp2_with fail
    generalize w1.alloc (.cells #[.int .i64 r.kind, .int .i64 r.num, .string r.name, .slice L2 r.labels.length l2, .slice A2 r.args.length a2] 25) = w2 at *
    have zz2 : w1.heap.size < w2.heap.size := by omega
    clear hz2
    have cb2 := cb1.trans (hb2.mono cb1.size)
    have sz2 := hb2.size
    have kW2 := kW1.trans (hb2.mono kW1.size)
    clear kW1
    refine (HI.out w2 (HN.out.up cb2) (HF.out.below cb2)).mono ?_
    rintro e w3 ⟨u4, rfl, gI3, hb3⟩
    have cb3 := cb2.trans (hb3.mono cb2.size)
    have sz3 := hb3.size
    have kW3 := kW2.trans (hb3.mono kW2.size)
    have bW3 := bW2.below hb3 bW2.lt
    clear kW2 bW2
    obtain ⟨L4, l4, A4, a4, _, rfl, _⟩ := gI3.open
    obtain ⟨hb4, bG4, hz4⟩ := boxes1 w3 25 #[.int .i64 r.kind, .int .i64 r.num, .string r.name, .slice L4 r.labels.length l4, .slice A4 r.args.length a4]
    have dW := bW3.below hb4 bW3.lt
    have cW0 : (w3.alloc (.cells #[.int .i64 r.kind, .int .i64 r.num, .string r.name, .slice L4 r.labels.length l4, .slice A4 r.args.length a4] 25)).cell? ⟨w1.heap.size, 0, none⟩ = some (.int .i64 r.kind) := dW.cell 0
    have cW1 : (w3.alloc (.cells #[.int .i64 r.kind, .int .i64 r.num, .string r.name, .slice L4 r.labels.length l4, .slice A4 r.args.length a4] 25)).cell? ⟨w1.heap.size, 1, none⟩ = some (.int .i64 r.num) := dW.cell 1
    have cW2 : (w3.alloc (.cells #[.int .i64 r.kind, .int .i64 r.num, .string r.name, .slice L4 r.labels.length l4, .slice A4 r.args.length a4] 25)).cell? ⟨w1.heap.size, 2, none⟩ = some (.string r.name) := dW.cell 2
    have cW3 : (w3.alloc (.cells #[.int .i64 r.kind, .int .i64 r.num, .string r.name, .slice L4 r.labels.length l4, .slice A4 r.args.length a4] 25)).cell? ⟨w1.heap.size, 3, none⟩ = some (.slice L2 r.labels.length l2) := dW.cell 3
    have cW4 : (w3.alloc (.cells #[.int .i64 r.kind, .int .i64 r.num, .string r.name, .slice L4 r.labels.length l4, .slice A4 r.args.length a4] 25)).cell? ⟨w1.heap.size, 4, none⟩ = some (.slice A2 r.args.length a2) := dW.cell 4
    go_wp2_with fail
    clear dW cW0 cW1 cW2 cW3 cW4
    generalize w3.alloc (.cells #[.int .i64 r.kind, .int .i64 r.num, .string r.name, .slice L4 r.labels.length l4, .slice A4 r.args.length a4] 25) = w4 at *
    have zz4 : w3.heap.size < w4.heap.size := by omega
    clear hz4
    have cb4 := cb3.trans (hb4.mono cb3.size)
    have sz4 := hb4.size
    have kW4 := kW3.trans (hb4.mono kW3.size)
    have bW4 := bW3.below hb4 bW3.lt
    have gI4 := gI3.keep (fun q _ hq => hb4.block q hq)
    clear kW3 bW3 gI3
    refine (HEr.out _ _ w4 gI4.here ((hwT.lift kW4).more kW4.size)).mono ?_
    rintro e w5 ⟨rfl, hb5⟩
    have cb5 := cb4.trans (hb5.mono cb4.size)
    have sz5 := hb5.size
    have kW5 := kW4.trans (hb5.mono kW4.size)
    have bW5 := bW4.below hb5 bW4.lt
    have gI5 := gI4.keep (fun q _ hq => hb5.block q hq)
    have bG5 := bG4.below hb5 bG4.lt
    clear kW4 bW4 gI4 bG4
    have cG0 : w5.cell? ⟨w3.heap.size, 0, none⟩ = some (.int .i64 r.kind) := bG5.cell 0
    have cG1 : w5.cell? ⟨w3.heap.size, 1, none⟩ = some (.int .i64 r.num) := bG5.cell 1
    have cG2 : w5.cell? ⟨w3.heap.size, 2, none⟩ = some (.string r.name) := bG5.cell 2
    have cG3 : w5.cell? ⟨w3.heap.size, 3, none⟩ = some (.slice L4 r.labels.length l4) := bG5.cell 3
    have cG4 : w5.cell? ⟨w3.heap.size, 4, none⟩ = some (.slice A4 r.args.length a4) := bG5.cell 4
    go_wp2_with fail
    clear cG0 cG1 cG2 cG3 cG4
    refine (markValue_any r _ _ 1 w5 gI5 (by omega) (by omega) (fun q hq => by have := hq.2; omega)).mono ?_
    rintro e w6 ⟨rfl, gM6, ho6⟩
    have sz6 := ho6.size
    have cb6 := OnlyIn.below cb5 ho6 cb5.size (fun q hq => by have := hq.1; omega)
    have bW6 : Whole1 w6 (w1.heap.size) _ _ := (ho6.block (w1.heap.size) bW5.lt (fun h => by have := h.1; have := h.2; omega)).trans bW5
    have bG6 : Whole1 w6 (w3.heap.size) _ _ := (ho6.block (w3.heap.size) bG5.lt (fun h => by have := h.1; have := h.2; omega)).trans bG5
    have kW6 := OnlyIn.below kW5 ho6 kW5.size (fun q hq => by have := hq.1; omega)
    clear kW5 bW5 gI5 bG5
    have cG0 : w6.cell? ⟨w3.heap.size, 0, none⟩ = some (.int .i64 r.kind) := bG6.cell 0
    have cG1 : w6.cell? ⟨w3.heap.size, 1, none⟩ = some (.int .i64 r.num) := bG6.cell 1
    have cG2 : w6.cell? ⟨w3.heap.size, 2, none⟩ = some (.string r.name) := bG6.cell 2
    have cG3 : w6.cell? ⟨w3.heap.size, 3, none⟩ = some (.slice L4 r.labels.length l4) := bG6.cell 3
    have cG4 : w6.cell? ⟨w3.heap.size, 4, none⟩ = some (.slice A4 r.args.length a4) := bG6.cell 4
    go_wp2_with fail
    clear cG0 cG1 cG2 cG3 cG4
    refine (heldValue_any r _ 1 w6 gM6.here (by omega) (by omega)).mono ?_
    rintro e w7 ⟨rfl, hb7⟩
    have cb7 := cb6.trans (hb7.mono cb6.size)
    have sz7 := hb7.size
    have bW7 := bW6.below hb7 bW6.lt
    have bG7 := bG6.below hb7 bG6.lt
    have kW7 := kW6.trans (hb7.mono kW6.size)
    have gM7 := gM6.keep (fun q _ hq => hb7.block q hq)
    clear bW6 bG6 kW6 gM6
    go_wp2_with fail
    refine (HI.out w7 (HN.out.up cb7) (HF.out.below cb7)).mono ?_
    rintro e w8 ⟨u6, rfl, hh8, hb8⟩
    have cb8 := cb7.trans (hb8.mono cb7.size)
    have sz8 := hb8.size
    have bW8 := bW7.below hb8 bW7.lt
    have bG8 := bG7.below hb8 bG7.lt
    have kW8 := kW7.trans (hb8.mono kW7.size)
    have gM8 := gM7.keep (fun q _ hq => hb8.block q hq)
    clear bW7 bG7 kW7 gM7
    obtain ⟨L5, l5, A5, a5, _, rfl, _⟩ := hh8.open
    have hhT8 := hh8.here
    clear hh8
    obtain ⟨hb9, bH9, hz9⟩ := boxes1 w8 25 #[.int .i64 r.kind, .int .i64 r.num, .string r.name, .slice L5 r.labels.length l5, .slice A5 r.args.length a5]
    have dW := bW8.below hb9 bW8.lt
    have cW0 : (w8.alloc (.cells #[.int .i64 r.kind, .int .i64 r.num, .string r.name, .slice L5 r.labels.length l5, .slice A5 r.args.length a5] 25)).cell? ⟨w1.heap.size, 0, none⟩ = some (.int .i64 r.kind) := dW.cell 0
    have cW1 : (w8.alloc (.cells #[.int .i64 r.kind, .int .i64 r.num, .string r.name, .slice L5 r.labels.length l5, .slice A5 r.args.length a5] 25)).cell? ⟨w1.heap.size, 1, none⟩ = some (.int .i64 r.num) := dW.cell 1
    have cW2 : (w8.alloc (.cells #[.int .i64 r.kind, .int .i64 r.num, .string r.name, .slice L5 r.labels.length l5, .slice A5 r.args.length a5] 25)).cell? ⟨w1.heap.size, 2, none⟩ = some (.string r.name) := dW.cell 2
    have cW3 : (w8.alloc (.cells #[.int .i64 r.kind, .int .i64 r.num, .string r.name, .slice L5 r.labels.length l5, .slice A5 r.args.length a5] 25)).cell? ⟨w1.heap.size, 3, none⟩ = some (.slice L2 r.labels.length l2) := dW.cell 3
    have cW4 : (w8.alloc (.cells #[.int .i64 r.kind, .int .i64 r.num, .string r.name, .slice L5 r.labels.length l5, .slice A5 r.args.length a5] 25)).cell? ⟨w1.heap.size, 4, none⟩ = some (.slice A2 r.args.length a2) := dW.cell 4
    go_wp2_with fail
    clear dW cW0 cW1 cW2 cW3 cW4
    generalize w8.alloc (.cells #[.int .i64 r.kind, .int .i64 r.num, .string r.name, .slice L5 r.labels.length l5, .slice A5 r.args.length a5] 25) = w9 at *
    have zz9 : w8.heap.size < w9.heap.size := by omega
    clear hz9
    have cb9 := cb8.trans (hb9.mono cb8.size)
    have sz9 := hb9.size
    have bW9 := bW8.below hb9 bW8.lt
    have bG9 := bG8.below hb9 bG8.lt
    have kW9 := kW8.trans (hb9.mono kW8.size)
    have gM9 := gM8.keep (fun q _ hq => hb9.block q hq)
    have hhT9 := hhT8.up hb9
    clear bW8 bG8 kW8 gM8 hhT8
    refine (HEr.out _ _ w9 hhT9 ((hwT.lift kW9).more kW9.size)).mono ?_
    rintro e w10 ⟨rfl, hb10⟩
    have cb10 := cb9.trans (hb10.mono cb9.size)
    have sz10 := hb10.size
    have bW10 := bW9.below hb10 bW9.lt
    have bG10 := bG9.below hb10 bG9.lt
    have kW10 := kW9.trans (hb10.mono kW9.size)
    have gM10 := gM9.keep (fun q _ hq => hb10.block q hq)
    have hhT10 := hhT9.up hb10
    have bH10 := bH9.below hb10 bH9.lt
    clear bW9 bG9 kW9 gM9 hhT9 bH9
    have cG0 : w10.cell? ⟨w3.heap.size, 0, none⟩ = some (.int .i64 r.kind) := bG10.cell 0
    have cG1 : w10.cell? ⟨w3.heap.size, 1, none⟩ = some (.int .i64 r.num) := bG10.cell 1
    have cG2 : w10.cell? ⟨w3.heap.size, 2, none⟩ = some (.string r.name) := bG10.cell 2
    have cG3 : w10.cell? ⟨w3.heap.size, 3, none⟩ = some (.slice L4 r.labels.length l4) := bG10.cell 3
    have cG4 : w10.cell? ⟨w3.heap.size, 4, none⟩ = some (.slice A4 r.args.length a4) := bG10.cell 4
    go_wp2_with fail
    clear cG0 cG1 cG2 cG3 cG4
    refine (heldValue_any r _ 1 w10 gM10.here (by omega) (by omega)).mono ?_
    rintro e w11 ⟨rfl, hb11⟩
    have cb11 := cb10.trans (hb11.mono cb10.size)
    have sz11 := hb11.size
    have bW11 := bW10.below hb11 bW10.lt
    have bG11 := bG10.below hb11 bG10.lt
    have kW11 := kW10.trans (hb11.mono kW10.size)
    have gM11 := gM10.keep (fun q _ hq => hb11.block q hq)
    have hhT11 := hhT10.up hb11
    have bH11 := bH10.below hb11 bH10.lt
    clear bW10 bG10 kW10 gM10 hhT10 bH10
    go_wp2
    go_ret
    exact ⟨rfl, cb11⟩

theorem own : ownKnob Tryd.prog.godebug = none := by kernel_rfl
theorem laidOut : laidOutB Tryd.prog = true := by kernel_rfl

/-- What the row lists. -/
def laid : List (String × DataW Unit) := Rows.fnExactParseValueRow.laid

set_option maxRecDepth 100000 in
theorem lifted (os : Os) (started : os.Started) (H : Type) (enc : TypeId × Value → H) :
    ReturnsInHanded {} Tryd.checked os 3 .any (fun w args => (Rows.fnExactParseValueSpec.pre enc Tryd.prog Tryd.f3 [] false w args ∧ laidMetH Tryd.prog laid w) ∧ sizedMet enc Tryd.prog Tryd.f3 (OpenSpec.ofChange Rows.fnExactParseValueSpec) false w args)
      (Rows.fnExactParseValueSpec.post enc Tryd.prog Tryd.f3 false true false false) := by
  refine law_lifted_vars (C := Tryd.checked) (bt := 4) own laidOut started (by kernel_rfl) Tryd.func3 (by kernel_rfl) rfl Tryd.underlying4 (by kernel_rfl) ?_
    (ChangeSpec.witness_shaped (enc := enc) (C := Tryd.checked) (os := os) (X := fun w _ => laidMetH Tryd.prog laid w) false (World.laidAll Tryd.prog os laid) #[.string ⟨#[]⟩] 8 (World.laidAll_os _ _ _) (World.shaped_of_ZipB (by kernel_rfl) (by kernel_rfl)) (by kernel_rfl) (by kernel_rfl) (by kernel_rfl)
      (by rw [MakeChecks.laidMetH_plain _ _ _ (by kernel_rfl)]; exact laidMet_laidAll _ (by kernel_rfl) (by kernel_rfl))) ?_
  · intro ds gs hd hg
    have h1 : ds.length = 1 := hd
    have h2 : gs.length = 1 := hg
    match ds, gs, h1, h2 with
    | [d1], [g1], _, _ => rfl
  · intro W base args ds p hval0 hA0 hlt hL hsh
    have hval : ∀ (j : Nat) t v, Tryd.f3.params[j]? = some t → args[j]? = some v → Value.okWide Tryd.prog W .any base t v := hval0
    have hA : DataW.TrodAll enc Tryd.prog W 0 (fun _ => true) true Tryd.f3.params.toList args.toList ds p := hA0
    rw [Tryd.params3] at hA hval
    obtain ⟨v0, d0, rfl, rfl, h0⟩ := trodAll_one hA
    obtain ⟨a0, rfl, rfl, rfl, wa0⟩ := open_string Tryd.underlying9 (hval 0 9 v0 rfl rfl) h0
    rw [MakeChecks.laidMetH_plain _ _ _ (by kernel_rfl)] at hL
    have ht : Pow10At W := tab_of_laid (g := 3) (t := 197) (e := 180) (n := 20) (by kernel_rfl) (by kernel_rfl) Tryd.underlying197 Tryd.underlying180 (by kernel_rfl) (by kernel_rfl) hL (by simp only [laid, Rows.fnExactParseValueRow]; exact List.mem_of_getElem? (i := 2) rfl)
    have hsz := block_lt_of_cell (Lib.TabIs.cell ht (g := 3) (by kernel_rfl) 0 (by decide))
    have hE : ErrsAt W := ⟨iface_of_laid (g := 1) (t := 161) (by kernel_rfl) (by kernel_rfl) Tryd.underlying161 hL (by simp only [laid, Rows.fnExactParseValueRow]; exact List.mem_of_getElem? (i := 4) rfl),
      iface_of_laid (g := 2) (t := 161) (by kernel_rfl) (by kernel_rfl) Tryd.underlying161 hL (by simp only [laid, Rows.fnExactParseValueRow]; exact List.mem_of_getElem? (i := 3) rfl)⟩
    have hsz2 : 1 < W.heap.size ∧ 2 < W.heap.size := by
      obtain ⟨⟨t1, p1, e1⟩, ⟨t2, p2, e2⟩⟩ := hE
      exact ⟨var_lt (by kernel_rfl) e1, var_lt (by kernel_rfl) e2⟩
    exact walk a0 W wa0 ⟨ht, hE, hsz, hsz2.1, hsz2.2⟩ (formsAt_of (L := laid) (by simp only [laid, Rows.fnExactParseValueRow]; exact List.mem_of_getElem? (i := 5) rfl) hL)

theorem over : Rows.FnExactParseValueSaid :=
  OpenClaim.holds_of_wide 3 Tryd.f3 rfl rfl rfl rfl rfl rfl rfl ⟨rfl, rfl, rfl, rfl, rfl⟩ rfl rfl rfl rfl rfl (by kernel_rfl) Tryd.func3 (by kernel_rfl)
    (of_decide_eq_true (by kernel_rfl)) (by unfold Func.isWrapper; rw [if_neg (of_decide_eq_false (by kernel_rfl))]; exact ⟨rfl, rfl⟩)
    (fun os started H enc _ => lifted os started H enc)

theorem proved : Rows.FnExactParseValueCardSaid :=
  Claim7.holds_tied_plain_at .later [] Rows.fnExactParseValueCard.laidKinds true Rows.fnExactParseValueCard.stood.harness true
    over (fun _ h => by cases h) (by kernel_rfl) (fun _ h => by cases h) fnExactParseValue_row_tie rfl ⟨rfl, rfl⟩ (by kernel_rfl) rfl
    (fun f fn hf hfn => by
      obtain rfl : f = 3 := Option.some.inj ((show Tryd.prog.funcNamed "loop.example/g00592/laws.FnExactParseValue" = some 3 by kernel_rfl).symm.trans hf) |>.symm
      obtain rfl : fn = Tryd.f3 := (Option.some.inj (Tryd.func3.symm.trans hfn)).symm
      exact ⟨by kernel_rfl, fun j t ht => by
        rw [Tryd.params3] at ht
        have hm := Array.mem_of_getElem? ht
        have hall : (#[9].toList.all fun u => !Tryd.prog.wantsStandIn u) = true := by kernel_rfl
        exact (show Tryd.prog.wantsStandIn t = false by simpa using List.all_eq_true.1 hall t (by simpa using hm))⟩)
    (by kernel_rfl)

end Go.Proofs.YtceclhndagoddaaDoor.lawParseValue
