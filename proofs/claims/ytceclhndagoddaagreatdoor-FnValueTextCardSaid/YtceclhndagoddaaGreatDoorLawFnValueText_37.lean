/- Lemmas: ImplVParse, RField. -/
import Derived.Test.YtceclhndagoddaaGreatDoorLawFnValueText_36
import Derived.Test.YtceclhndagoddaaGreatDoorLawFnValueText_23
import Derived.Test.YtceclhndagoddaaGreatDoorLawFnValueText_30
import Derived.Laws.EntriesVeiled
import Derived.Test.YtceclhndagoddaaGreatDoorLawFnValueText_33

section
namespace Go.Proofs.YtceclhndagoddaaGreatDoor
open Go Go.RowKit
set_option linter.unusedSimpArgs false

theorem parse_bad {s : ByteArray} (h : BadV 300 (rdVa 300 (restOf s 0))) : parseVB s = none := by
  unfold parseVB
  rw [rest_zero'] at h
  split
  · rename_i t e
    rcases h t [] e with h1 | h1 | ⟨c, q, h1, _⟩
    · have : valueB t = false := by unfold valueB; rw [h1, Bool.and_false]
      rw [this]
      rfl
    · have : valueB t = false := by
        unfold valueB
        rw [decide_eq_false (by omega), Bool.false_and]
      rw [this]
      rfl
    · cases h1
  · rfl
theorem parse_none {s : ByteArray} {t : Va} {q : List UInt8} (h : rdVa 300 (restOf s 0) = some (t, q)) (hq : q ≠ []) : parseVB s = none := by
  unfold parseVB
  rw [← rest_zero', h]
  cases q with
  | nil => exact absurd rfl hq
  | cons a q => rfl
theorem parse_here {s : ByteArray} {t : Va} (h : rdVa 300 (restOf s 0) = some (t, [])) : parseVB s = if valueB t = true then some t else none := by
  unfold parseVB
  rw [← rest_zero', h]

set_option maxHeartbeats 4000000 in
set_option maxRecDepth 100000 in
theorem implParseV_any (hR : ValR 300 300) (s : ByteArray) (w : World) (hs : s.size ≤ 1048576) (hN : NumsAt w w.heap.size) (hF : FormsAt w) : Calls Tryz.prog 7 #[.string s] w (ParsePostV s w) := by
  obtain ⟨hb0, z0, hs0⟩ := boxes1 w 27 #[.int .i64 0, .int .i64 0, .string ⟨#[]⟩, .slice none 0 0, .slice none 0 0]
  have HRO := Lib.hid (fun W => readerOf_any s W)
  have HTY := Lib.hid hR
  have HV := Lib.hid (fun t V W h hf hn hsz => implIsValue_any t V W h hf hn hsz)
  have HN := Lib.hid hN
  have HF := Lib.hid hF
  clear hR hN hF
  go_enter Tryz.func7, Tryz.ntmps7
  go_upto_region 1 with fail
  generalize w.alloc (.cells #[.int .i64 0, .int .i64 0, .string ⟨#[]⟩, .slice none 0 0, .slice none 0 0] 27) = wa at *
  go_wp2_with fail
  refine (HRO.out wa).mono ?_
  rintro e w1 ⟨ps, pa, rfl, hr1, hb1, hps, hpa⟩
  have z1 := z0.below hb1 z0.lt
  have hB1 := hb0.trans (hb1.mono hb0.size)
  have hws : w.heap.size < wa.heap.size := z0.lt
  clear hb0 hb1 z0 hs0
  go_upto_region 2 with fail
  obtain ⟨hb2, y2, hs2⟩ := boxes1 w1 45 #[rdAcc ps pa, rdTak ps pa, rdEnd ps pa, .int .i64 300]
  have r2 := hr1.below hb2 hr1.lts hr1.lta
  have z2 := z1.below hb2 z1.lt
  have hB2 := hB1.trans (hb2.mono hB1.size)
  have hpal := hr1.lta
  have hpsl := hr1.lts
  have hb12 := hB1.size
  clear hr1 z1 hb2 hB1
  generalize w1.alloc (.cells #[rdAcc ps pa, rdTak ps pa, rdEnd ps pa, .int .i64 300] 45) = w2 at *
  have HVR : Hid (VR w.heap.size w2 ps pa w1.heap.size s 0 300) := Lib.hid ⟨r2, y2, HN.out.below hB2, by omega, by omega, by omega, by omega, by omega⟩
  have Z2 : Hid (Whole1 w2 w.heap.size 27 #[.int .i64 0, .int .i64 0, .string ⟨#[]⟩, .slice none 0 0, .slice none 0 0]) := Lib.hid z2
  have B2 := Lib.hid hB2
  clear z2 y2 r2 hB2
  go_wp2_with fail
  refine (HTY.out w.heap.size w2 ps pa w1.heap.size 0 s HVR.out hs).mono ?_
  rintro e w3 ⟨k, n, nm, L, nl, lc, A, na, ac, ok, j5, m5, rfl, hv3, hT3, hcase⟩
  have hw2 := B2.out.size
  have hz3 : Whole1 w3 w.heap.size 27 #[.int .i64 0, .int .i64 0, .string ⟨#[]⟩, .slice none 0 0, .slice none 0 0] := turn_stays hT3 Z2.out (by omega) (by omega)
  have hB3 : Below w.heap.size w w3 := B2.out.trans (turn_low hT3 (by omega) (by omega) hw2)
  have hw23 := hT3.size
  go_upto_region 3 with fail
  obtain ⟨hb4, x4, hs4⟩ := boxes1 w3 27 #[.int .i64 k, .int .i64 n, .string nm, .slice L nl lc, .slice A na ac]
  have HZ4 := Lib.hid (hz3.below hb4 hz3.lt)
  have HV4 := Lib.hid (hv3.keep hb4)
  have HB4 := Lib.hid (hB3.trans (hb4.mono hB3.size))
  have HX4 := Lib.hid x4
  have HC : Hid ((ok = false ∧ BadV 300 (rdVa 300 (restOf s 0))) ∨ ok = true ∧ ∃ t, rdVa 300 (restOf s 0) = some (t, restOf s j5) ∧ sizeVa t ≤ 300 ∧ OwnVa (w3.alloc (.cells #[.int .i64 k, .int .i64 n, .string nm, .slice L nl lc, .slice A na ac] 27)) w2.heap.size (.agg #[.int .i64 k, .int .i64 n, .string nm, .slice L nl lc, .slice A na ac]) t) := Lib.hid (hcase.imp id fun ⟨h1, t, h2, h3, _, h5⟩ => ⟨h1, t, h2, h3, h5.keep hb4.size fun g _ hl => hb4.block g hl⟩)
  have hj5 := hv3.rd.le
  clear hz3 hv3 hB3 hb4 x4 hcase hT3
  generalize w3.alloc (.cells #[.int .i64 k, .int .i64 n, .string nm, .slice L nl lc, .slice A na ac] 27) = w4 at *
  have d0 : w4.cell? ⟨w.heap.size, 0, none⟩ = some (.int .i64 0) := HZ4.out.cell 0
  have d1 : w4.cell? ⟨w.heap.size, 1, none⟩ = some (.int .i64 0) := HZ4.out.cell 1
  have d2 : w4.cell? ⟨w.heap.size, 2, none⟩ = some (.string ⟨#[]⟩) := HZ4.out.cell 2
  have d3 : w4.cell? ⟨w.heap.size, 3, none⟩ = some (.slice none 0 0) := HZ4.out.cell 3
  have d4 : w4.cell? ⟨w.heap.size, 4, none⟩ = some (.slice none 0 0) := HZ4.out.cell 4
  have f0 : w4.frozen? ⟨w.heap.size, 0, none⟩ = false := HZ4.out.free 0
  have f1 : w4.frozen? ⟨w.heap.size, 1, none⟩ = false := HZ4.out.free 1
  have f2 : w4.frozen? ⟨w.heap.size, 2, none⟩ = false := HZ4.out.free 2
  have f3 : w4.frozen? ⟨w.heap.size, 3, none⟩ = false := HZ4.out.free 3
  have f4 : w4.frozen? ⟨w.heap.size, 4, none⟩ = false := HZ4.out.free 4
  have BAD : Hid (∀ W : World, Below w.heap.size w W → parseVB s = none → ParsePostV s w (.returned (.tuple #[.agg #[.int .i64 0, .int .i64 0, .string ⟨#[]⟩, .slice none 0 0, .slice none 0 0], .bool false])) W) := Lib.hid fun W hW hno => ⟨_, by rw [hno]; rfl, by rw [hno]; exact vzero_in _ _, hW⟩
  cases ok with
  | false =>
    have HNO : Hid (parseVB s = none) := Lib.hid (by
      rcases HC.out with ⟨_, h⟩ | ⟨h, _⟩
      · exact parse_bad h
      · cases h)
    clear HC
    go_wp2
    exact bodyPost_ret (v := .tuple #[.agg #[.int .i64 0, .int .i64 0, .string ⟨#[]⟩, .slice none 0 0, .slice none 0 0], .bool false]) (by simp [results, Tryz.results7, go_sem, d0, d1, d2, d3, d4]) rfl (BAD.out _ (HB4.out.trans (set5_below _ _ _ _ _ _ _)) HNO.out)
  | true =>
    obtain ⟨t, hx, hszt, hown⟩ : ∃ t, rdVa 300 (restOf s 0) = some (t, restOf s j5) ∧ sizeVa t ≤ 300 ∧ OwnVa w4 w2.heap.size (.agg #[.int .i64 k, .int .i64 n, .string nm, .slice L nl lc, .slice A na ac]) t := by
      rcases HC.out with ⟨h, _⟩ | ⟨_, h⟩
      · cases h
      · exact h
    have HX := Lib.hid hx
    have HI4 := Lib.hid hown.owned
    have hnb := smallB_nums t (rdVa_small 300 _ _ _ hx)
    have hszv : szVa t ≤ 1048576 := by
      have h1 := congrArg List.length (rdVa_sound 300 _ _ _ hx)
      have h2 := rdVa_sz 300 _ _ _ hx
      rw [List.length_append, restOf_len] at h1
      omega
    have HNB := Lib.hid (And.intro hnb hszv)
    clear HC hx hown hnb hszv
    have y0 : w4.cell? ⟨w1.heap.size, 0, none⟩ = some (rdAcc ps pa) := HV4.out.obj.cell 0
    have y1 : w4.cell? ⟨w1.heap.size, 1, none⟩ = some (rdTak ps pa) := HV4.out.obj.cell 1
    have y2 : w4.cell? ⟨w1.heap.size, 2, none⟩ = some (rdEnd ps pa) := HV4.out.obj.cell 2
    have x0 : w4.cell? ⟨w3.heap.size, 0, none⟩ = some (.int .i64 k) := HX4.out.cell 0
    have x1 : w4.cell? ⟨w3.heap.size, 1, none⟩ = some (.int .i64 n) := HX4.out.cell 1
    have x2 : w4.cell? ⟨w3.heap.size, 2, none⟩ = some (.string nm) := HX4.out.cell 2
    have x3 : w4.cell? ⟨w3.heap.size, 3, none⟩ = some (.slice L nl lc) := HX4.out.cell 3
    have x4 : w4.cell? ⟨w3.heap.size, 4, none⟩ = some (.slice A na ac) := HX4.out.cell 4
    have hE := end_any ps pa j5 s w4 HV4.out.rd
    by_cases hj : j5 = s.size
    · rw [decide_eq_true hj] at hE
      have HE := Lib.hid hE
      have HX2 : Hid (rdVa 300 (restOf s 0) = some (t, [])) := Lib.hid (by rw [HX.out, restOf_end s _ (by omega)])
      have hOT : OwnV w4 (.agg #[.int .i64 k, .int .i64 n, .string nm, .slice L nl lc, .slice A na ac]) t := OwnV.of (HI4.out.wide fun b hb => ⟨hb.1, by have := hb.2; omega⟩)
      have HVT := Lib.hid (HV.out t _ w4 hOT (HF.out.below HB4.out) HNB.out.1 HNB.out.2)
      clear hE hOT HX
      go_wp2_with fail
      refine HE.out.mono ?_
      rintro e w4' ⟨rfl, rfl⟩
      go_wp2_with fail
      refine HVT.out.mono ?_
      rintro e w5 ⟨rfl, hb5⟩
      have z5 := HZ4.out.below hb5 HZ4.out.lt
      have hB5 := Lib.hid (HB4.out.trans (hb5.mono HB4.out.size))
      have hX5 := HX4.out.below hb5 HX4.out.lt
      have HI5 := Lib.hid (HI4.out.keep fun b hb hl => hb5.block b hl)
      have hz5 := hb5.size
      have hw34 := HX4.out.lt
      clear d0 d1 d2 d3 d4 f0 f1 f2 f3 f4
      have q0 : w5.cell? ⟨w3.heap.size, 0, none⟩ = some (.int .i64 k) := hX5.cell 0
      have q1 : w5.cell? ⟨w3.heap.size, 1, none⟩ = some (.int .i64 n) := hX5.cell 1
      have q2 : w5.cell? ⟨w3.heap.size, 2, none⟩ = some (.string nm) := hX5.cell 2
      have q3 : w5.cell? ⟨w3.heap.size, 3, none⟩ = some (.slice L nl lc) := hX5.cell 3
      have q4 : w5.cell? ⟨w3.heap.size, 4, none⟩ = some (.slice A na ac) := hX5.cell 4
      have d0 : w5.cell? ⟨w.heap.size, 0, none⟩ = some (.int .i64 0) := z5.cell 0
      have d1 : w5.cell? ⟨w.heap.size, 1, none⟩ = some (.int .i64 0) := z5.cell 1
      have d2 : w5.cell? ⟨w.heap.size, 2, none⟩ = some (.string ⟨#[]⟩) := z5.cell 2
      have d3 : w5.cell? ⟨w.heap.size, 3, none⟩ = some (.slice none 0 0) := z5.cell 3
      have d4 : w5.cell? ⟨w.heap.size, 4, none⟩ = some (.slice none 0 0) := z5.cell 4
      have f0 : w5.frozen? ⟨w.heap.size, 0, none⟩ = false := z5.free 0
      have f1 : w5.frozen? ⟨w.heap.size, 1, none⟩ = false := z5.free 1
      have f2 : w5.frozen? ⟨w.heap.size, 2, none⟩ = false := z5.free 2
      have f3 : w5.frozen? ⟨w.heap.size, 3, none⟩ = false := z5.free 3
      have f4 : w5.frozen? ⟨w.heap.size, 4, none⟩ = false := z5.free 4
      clear z5 hb5 hX5 x0 x1 x2 x3 x4 y0 y1 y2
      cases hvb : valueB t
      · have HNO : Hid (parseVB s = none) := Lib.hid (by rw [parse_here HX2.out, hvb]; rfl)
        clear hvb
        go_wp2
        exact bodyPost_ret (v := .tuple #[.agg #[.int .i64 0, .int .i64 0, .string ⟨#[]⟩, .slice none 0 0, .slice none 0 0], .bool false]) (by simp [results, Tryz.results7, go_sem, d0, d1, d2, d3, d4]) rfl (BAD.out _ (hB5.out.trans (set5_below _ _ _ _ _ _ _)) HNO.out)
      · have HYES : Hid (parseVB s = some t) := Lib.hid (by rw [parse_here HX2.out, hvb]; rfl)
        clear hvb BAD
        go_wp2
        exact bodyPost_ret (v := .tuple #[.agg #[.int .i64 k, .int .i64 n, .string nm, .slice L nl lc, .slice A na ac], .bool true]) (by simp [results, Tryz.results7, go_sem, d0, d1, d2, d3, d4]) rfl ⟨_, by rw [HYES.out]; rfl, by rw [HYES.out]; exact vaIn_set5' HI5.out (by omega) (by omega) _ _ _ _ _, hB5.out.trans (set5_below _ _ _ _ _ _ _)⟩
    · rw [decide_eq_false hj] at hE
      have HE := Lib.hid hE
      have HNO : Hid (parseVB s = none) := Lib.hid (parse_none HX.out (fun e => by
        have := congrArg List.length e
        rw [restOf_len] at this
        simp at this
        omega))
      clear hE x0 x1 x2 x3 x4 y0 y1
      go_wp2_with fail
      refine HE.out.mono ?_
      rintro e w4' ⟨rfl, rfl⟩
      go_wp2
      exact bodyPost_ret (v := .tuple #[.agg #[.int .i64 0, .int .i64 0, .string ⟨#[]⟩, .slice none 0 0, .slice none 0 0], .bool false]) (by simp [results, Tryz.results7, go_sem, d0, d1, d2, d3, d4]) rfl (BAD.out _ (HB4.out.trans (set5_below _ _ _ _ _ _ _)) HNO.out)

end Go.Proofs.YtceclhndagoddaaGreatDoor
end

section
namespace Go.Proofs.YtceclhndagoddaaGreatDoor
open Go Go.RowKit

theorem field_none {f : List UInt8 → Option (Va × List UInt8)} {l : List UInt8} (h : eat 61 (l.dropWhile wordC) = none) : rdField f l = none := by
  unfold rdField
  rw [h]
theorem field_bad {f : List UInt8 → Option (Va × List UInt8)} {l r : List UInt8} {m : Nat} (h : eat 61 (l.dropWhile wordC) = some r) (hb : BadV m (f r)) : Bad (fun b : ByteArray × Va => formVa b.2) (fun b => sizeVa b.2) m (rdField f l) := by
  intro b q hx
  unfold rdField at hx
  rw [h] at hx
  simp only at hx
  cases hf : f r with
  | none =>
    rw [hf] at hx
    cases hx
  | some pr =>
    obtain ⟨t, q0⟩ := pr
    rw [hf] at hx
    simp only [Option.some.injEq, Prod.mk.injEq] at hx
    obtain ⟨rfl, rfl⟩ := hx
    exact hb _ _ hf
theorem field_some {f : List UInt8 → Option (Va × List UInt8)} {l r q : List UInt8} {t : Va} (h : eat 61 (l.dropWhile wordC) = some r) (hf : f r = some (t, q)) : rdField f l = some ((⟨(l.takeWhile wordC).toArray⟩, t), q) := by
  unfold rdField
  rw [h]
  simp only [hf]

set_option maxHeartbeats 4000000 in
set_option maxRecDepth 100000 in
theorem readField_any (n m : Nat) (H : ValR n m) (B : Nat) (w : World) (ps pa pr j : Nat) (s : ByteArray) (hv : VR B w ps pa pr s j m) (hs : s.size ≤ 1048576) :
    Calls Tryz.prog 75 #[.pointer (some ⟨pr, 0, none⟩)] w (PartPost (fun b : ByteArray × Va => b.1) (fun b => b.2) B ps pa pr s m w (rdField (rdVa n) (restOf s j))) := by
  have hl1 := hv.lts
  have hl2 := hv.lta
  have hl3 := hv.ltr
  obtain ⟨hb0, z0, hs0⟩ := boxes1 w 106 #[.string ⟨#[]⟩, .int .i64 0, .int .i64 0, .string ⟨#[]⟩, .slice none 0 0, .slice none 0 0]
  have HV0 := Lib.hid (hv.keep hb0)
  have HB0 := Lib.hid hb0
  have HZ0 := Lib.hid z0
  have HVR := Lib.hid H
  clear H hv hb0 z0 hs0
  go_enter Tryz.func75, Tryz.ntmps75
  go_upto_region 1 with fail
  generalize w.alloc (.cells #[.string ⟨#[]⟩, .int .i64 0, .int .i64 0, .string ⟨#[]⟩, .slice none 0 0, .slice none 0 0] 106) = wa at *
  have hwl : w.heap.size < wa.heap.size := HZ0.out.lt
  have HC := Lib.hid (takeRun_any 76 enters_name nameR wordC nameR_byte nameR_high pred_name ps pa j s wa HV0.out.rd hs)
  have b0 : wa.cell? ⟨pr, 0, none⟩ = some (rdAcc ps pa) := HV0.out.obj.cell 0
  have b1 : wa.cell? ⟨pr, 1, none⟩ = some (rdTak ps pa) := HV0.out.obj.cell 1
  have b2 : wa.cell? ⟨pr, 2, none⟩ = some (rdEnd ps pa) := HV0.out.obj.cell 2
  go_wp2_with fail
  refine HC.out.mono ?_
  rintro e w1 ⟨k1, hk1, ⟨rfl, hr1, hg1⟩, hd1, ht1⟩
  have HV1 := Lib.hid (HV0.out.read hr1 hg1)
  have hT1 := Turn.of_grown hg1 (X := vrX pa pr) (Or.inl rfl)
  have HT1 := Lib.hid ((Turn.of_below HB0.out).trans hT1)
  have HZ1 := Lib.hid (turn_stays hT1 HZ0.out (by omega) (by omega))
  have hsz1 := hT1.size
  have hwz : (s.extract j k1).size ≤ 1048576 := by rw [ByteArray.size_extract]; omega
  have HD1 := Lib.hid (And.intro hd1 ht1)
  clear hr1 hg1 hT1 HC HV0 HB0 HZ0 hd1 ht1 b0 b1 b2
  have b0 : w1.cell? ⟨pr, 0, none⟩ = some (rdAcc ps pa) := HV1.out.obj.cell 0
  have b1 : w1.cell? ⟨pr, 1, none⟩ = some (rdTak ps pa) := HV1.out.obj.cell 1
  have b2 : w1.cell? ⟨pr, 2, none⟩ = some (rdEnd ps pa) := HV1.out.obj.cell 2
  cases hx : eat 61 (restOf s k1) with
  | none =>
    have HX := Lib.hid (field_none (f := rdVa n) (l := restOf s j) (by rw [HD1.out.1]; exact hx))
    have HC := Lib.hid (accE_no ps pa k1 s ⟨#[61]⟩ w1 HV1.out.rd ((eats_one 61 _).trans hx))
    clear hx
    go_wp2_with fail
    refine HC.out.mono ?_
    rintro e w2 ⟨rfl, hr2, hg2⟩
    have hT2 := Turn.of_grown hg2 (X := vrX pa pr) (Or.inl rfl)
    have HV2 := Lib.hid (HV1.out.read hr2 hg2)
    have HT2 := Lib.hid (HT1.out.trans hT2)
    have HZ2 := Lib.hid (turn_stays hT2 HZ1.out (by omega) (by omega))
    clear hr2 hg2 hT2 HC HV1 HT1 HZ1 b0 b1 b2
    have d0 : w2.cell? ⟨w.heap.size, 0, none⟩ = some (.string ⟨#[]⟩) := HZ2.out.cell 0
    have d1 : w2.cell? ⟨w.heap.size, 1, none⟩ = some (.int .i64 0) := HZ2.out.cell 1
    have d2 : w2.cell? ⟨w.heap.size, 2, none⟩ = some (.int .i64 0) := HZ2.out.cell 2
    have d3 : w2.cell? ⟨w.heap.size, 3, none⟩ = some (.string ⟨#[]⟩) := HZ2.out.cell 3
    have d4 : w2.cell? ⟨w.heap.size, 4, none⟩ = some (.slice none 0 0) := HZ2.out.cell 4
    have d5 : w2.cell? ⟨w.heap.size, 5, none⟩ = some (.slice none 0 0) := HZ2.out.cell 5
    have f0 : w2.frozen? ⟨w.heap.size, 0, none⟩ = false := HZ2.out.free 0
    have f1 : w2.frozen? ⟨w.heap.size, 1, none⟩ = false := HZ2.out.free 1
    have f2 : w2.frozen? ⟨w.heap.size, 2, none⟩ = false := HZ2.out.free 2
    have f3 : w2.frozen? ⟨w.heap.size, 3, none⟩ = false := HZ2.out.free 3
    have f4 : w2.frozen? ⟨w.heap.size, 4, none⟩ = false := HZ2.out.free 4
    have f5 : w2.frozen? ⟨w.heap.size, 5, none⟩ = false := HZ2.out.free 5
    go_wp2
    exact bodyPost_ret (v := .tuple #[.agg #[.string ⟨#[]⟩, .int .i64 0, .int .i64 0, .string ⟨#[]⟩, .slice none 0 0, .slice none 0 0], .bool false]) (by simp [results, Tryz.results75, go_sem, d0, d1, d2, d3, d4, d5]) rfl ⟨⟨#[]⟩, 0, 0, ⟨#[]⟩, none, 0, 0, none, 0, 0, false, _, _, rfl, HV2.out.below (set6_below _ _ _ _ _ _ _ _) hl1 hl2 hl3, HT2.out.below (set6_below _ _ _ _ _ _ _ _) (Nat.le_refl _), Or.inl ⟨rfl, by rw [HX.out]; exact Bad.none _ _ _⟩⟩
  | some q1 =>
    have hx1 := (eats_one 61 _).trans hx
    obtain ⟨hle1, rfl⟩ := eats_rest (p := ⟨#[61]⟩) HV1.out.rd.le hx1
    have HX := Lib.hid (show eat 61 ((restOf s j).dropWhile wordC) = some (restOf s (k1 + (⟨#[61]⟩ : ByteArray).size)) by rw [HD1.out.1]; exact hx)
    have HC := Lib.hid (accE_yes ps pa k1 s ⟨#[61]⟩ _ w1 HV1.out.rd hs hx1)
    clear hx hx1
    generalize k1 + (⟨#[61]⟩ : ByteArray).size = k2 at *
    go_wp2_with fail
    refine HC.out.mono ?_
    rintro e w2 ⟨rfl, hr2, hg2⟩
    have hT2 := Turn.of_grown hg2 (X := vrX pa pr) (Or.inl rfl)
    have HV2 := Lib.hid (HV1.out.read hr2 hg2)
    have HT2 := Lib.hid (HT1.out.trans hT2)
    have HZ2 := Lib.hid (turn_stays hT2 HZ1.out (by omega) (by omega))
    have hsz2 := hT2.size
    have HCV := Lib.hid (HVR.out B w2 ps pa pr k2 s HV2.out hs)
    clear hr2 hg2 hT2 HC HV1 HT1 HZ1 b0 b1 b2
    go_wp2_with fail
    refine HCV.out.mono ?_
    rintro e w3 ⟨k, n0, nm, L, nl, lc, A, na, ac, ok, j3, m3, rfl, hv3, hT3, hor⟩
    have HV3 := Lib.hid hv3
    have HT3 := Lib.hid (HT2.out.trans hT3)
    have HZ3 := Lib.hid (turn_stays hT3 HZ2.out (by omega) (by omega))
    have HOR := Lib.hid hor
    have hsz3 := hT3.size
    clear hv3 hT3 hor HCV HV2 HT2 HZ2
    go_upto_region 5 with fail
    have HQ4 := Lib.hid (Whole1.new w3 27 #[.int .i64 k, .int .i64 n0, .string nm, .slice L nl lc, .slice A na ac])
    have hb4 := (Below.refl w3.heap.size w3).alloc (Nat.le_refl _) (.cells #[.int .i64 k, .int .i64 n0, .string nm, .slice L nl lc, .slice A na ac] 27)
    have HV4 := Lib.hid (HV3.out.keep hb4)
    have HT4 := Lib.hid (HT3.out.below hb4 HT3.out.size)
    have HZ4 := Lib.hid (HZ3.out.below hb4 HZ3.out.lt)
    have HB4 := Lib.hid hb4
    clear hb4 HV3 HT3 HZ3
    generalize w3.alloc (.cells #[.int .i64 k, .int .i64 n0, .string nm, .slice L nl lc, .slice A na ac] 27) = w4 at *
    have q0 : w4.cell? ⟨w3.heap.size, 0, none⟩ = some (.int .i64 k) := HQ4.out.cell 0
    have q1 : w4.cell? ⟨w3.heap.size, 1, none⟩ = some (.int .i64 n0) := HQ4.out.cell 1
    have q2 : w4.cell? ⟨w3.heap.size, 2, none⟩ = some (.string nm) := HQ4.out.cell 2
    have q3 : w4.cell? ⟨w3.heap.size, 3, none⟩ = some (.slice L nl lc) := HQ4.out.cell 3
    have q4 : w4.cell? ⟨w3.heap.size, 4, none⟩ = some (.slice A na ac) := HQ4.out.cell 4
    have d0 : w4.cell? ⟨w.heap.size, 0, none⟩ = some (.string ⟨#[]⟩) := HZ4.out.cell 0
    have d1 : w4.cell? ⟨w.heap.size, 1, none⟩ = some (.int .i64 0) := HZ4.out.cell 1
    have d2 : w4.cell? ⟨w.heap.size, 2, none⟩ = some (.int .i64 0) := HZ4.out.cell 2
    have d3 : w4.cell? ⟨w.heap.size, 3, none⟩ = some (.string ⟨#[]⟩) := HZ4.out.cell 3
    have d4 : w4.cell? ⟨w.heap.size, 4, none⟩ = some (.slice none 0 0) := HZ4.out.cell 4
    have d5 : w4.cell? ⟨w.heap.size, 5, none⟩ = some (.slice none 0 0) := HZ4.out.cell 5
    have f0 : w4.frozen? ⟨w.heap.size, 0, none⟩ = false := HZ4.out.free 0
    have f1 : w4.frozen? ⟨w.heap.size, 1, none⟩ = false := HZ4.out.free 1
    have f2 : w4.frozen? ⟨w.heap.size, 2, none⟩ = false := HZ4.out.free 2
    have f3 : w4.frozen? ⟨w.heap.size, 3, none⟩ = false := HZ4.out.free 3
    have f4 : w4.frozen? ⟨w.heap.size, 4, none⟩ = false := HZ4.out.free 4
    have f5 : w4.frozen? ⟨w.heap.size, 5, none⟩ = false := HZ4.out.free 5
    go_wp2
    refine bodyPost_ret (v := .tuple #[.agg #[.string (s.extract j k1), .int .i64 k, .int .i64 n0, .string nm, .slice L nl lc, .slice A na ac], .bool ok]) (by simp [results, Tryz.results75, go_sem, d0, d1, d2, d3, d4, d5]) rfl ⟨_, k, n0, nm, L, nl, lc, A, na, ac, ok, j3, m3, rfl, HV4.out.below (set6_below _ _ _ _ _ _ _ _) hl1 hl2 hl3, HT4.out.below (set6_below _ _ _ _ _ _ _ _) (Nat.le_refl _), ?_⟩
    rcases HOR.out with ⟨h1, h2⟩ | ⟨h1, t, h2, h3, h4, h5⟩
    · exact Or.inl ⟨h1, field_bad HX.out h2⟩
    · refine Or.inr ⟨h1, _, field_some HX.out h2, HD1.out.2, hwz, h3, h4, ((h5.keep HB4.out.size fun g _ hg => HB4.out.block g hg).set6 _ (by omega) _ _ _ _ _ _).base (by omega)⟩

    end Go.Proofs.YtceclhndagoddaaGreatDoor
end
