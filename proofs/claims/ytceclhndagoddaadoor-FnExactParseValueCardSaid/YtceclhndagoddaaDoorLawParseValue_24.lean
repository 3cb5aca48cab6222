/- Lemmas: ImplIsVal, ImplVParse, FormsLaid, RField, Collect. -/
import Derived.Test.YtceclhndagoddaaDoorLawParseValue_22
import Derived.Test.YtceclhndagoddaaDoorLawParseValue_8
import Derived.Test.YtceclhndagoddaaDoorLawParseValue_23
import Derived.Test.YtceclhndagoddaaDoorLawParseValue_18
import Derived.Test.YtceclhndagoddaaDoorLawParseValue_15
import Derived.Laws.EntriesVeiled
import Derived.Test.YtceclhndagoddaaDoorRows
import Derived.Test.YtceclhndagoddaaDoorLawParseValue_17
import Derived.Test.YtceclhndagoddaaDoorLawParseValue_16
import Derived.Test.YtceclhndagoddaaDoorLawParseValue_6
import Derived.RangeFuncCalls
import Derived.RangeFuncLeaves
import Derived.Shelf.Abstract
import Derived.Shelf.RegionOpen
import Derived.WalkKit
import Derived.OwnWalkIn
import Derived.TacticsInMore
import Derived.LoopNIn
import Derived.LoopIn
import Derived.Maps.AppendAt

section
namespace Go.Proofs.YtceclhndagoddaaDoor
set_option maxRecDepth 100000
open Go.RowKit

/-- What is left of the nodes allowed; -1, if there are too many, or one has no form. -/
def leftForm (t : Va) (a : Int) : Int := if (sizeVa t : Int) ≤ a ∧ formVa t = true then a - sizeVa t else -1
theorem leftForm_zero (t : Va) : leftForm t 0 = -1 := by
  have := sizeVa_eq t
  unfold leftForm
  rw [if_neg (by omega)]
theorem leftForm_no (t : Va) (a : Int) (h : nodeVB t.kind t.num t.name t.labels t.args.length = false) : leftForm t a = -1 := by
  unfold leftForm
  rw [if_neg]
  rintro ⟨_, h2⟩
  rw [formVa_eq, h, Bool.and_false] at h2
  cases h2
theorem leftForm_part (t : Va) (a : Int) (k : Nat) (hk : k < t.args.length) (h : leftForm t.args[k] (a - 1 - (sizeVas (t.args.take k) : Int)) < 0) : leftForm t a = -1 := by
  have h1 := sizeVas_take t.args k hk
  have h2 := sizeVas_le t.args (k + 1)
  have h3 := sizeVa_eq t
  unfold leftForm at *
  rw [if_neg]
  rintro ⟨h4, h5⟩
  rw [formVa_eq, Bool.and_eq_true] at h5
  rw [if_pos ⟨by omega, formVas_at _ h5.1 k hk⟩] at h
  omega
theorem leftForm_next (t : Va) (a : Int) (k : Nat) (hk : k < t.args.length) (h : ¬ leftForm t.args[k] (a - 1 - (sizeVas (t.args.take k) : Int)) < 0) : leftForm t.args[k] (a - 1 - (sizeVas (t.args.take k) : Int)) = a - 1 - (sizeVas (t.args.take (k + 1)) : Int) ∧ formVa t.args[k] = true := by
  have h1 := sizeVas_take t.args k hk
  unfold leftForm at *
  split at h
  · rename_i h2
    rw [if_pos h2]
    exact ⟨by omega, h2.2⟩
  · omega
theorem leftForm_yes (t : Va) (a : Int) (h0 : nodeVB t.kind t.num t.name t.labels t.args.length = true) (h1 : 0 ≤ a - 1 - (sizeVas t.args : Int)) (h2 : ∀ i, (h : i < t.args.length) → formVa t.args[i] = true) : leftForm t a = a - 1 - (sizeVas t.args : Int) := by
  have h3 := sizeVa_eq t
  unfold leftForm
  rw [if_pos ⟨by omega, by rw [formVa_eq, formVas_all _ h2, h0]; rfl⟩]
  omega

def LeftFOne (t : Va) : Prop := ∀ (V : Value) (a : Int) (w : World), VaAt w w.heap.size V t → FormsAt w → numsB t = true → szVa t ≤ 1048576 → 0 ≤ a → a ≤ 1000 → Calls Tryd.prog 48 #[V, .int .i64 a] w (IntBelow (leftForm t a) w)

set_option maxHeartbeats 4000000 in
theorem nodesLeft_of (k0 n0 : Int) (nm : ByteArray) (ls : List ByteArray) (ts : List Va) (hall : ∀ i, (h : i < ts.length) → LeftFOne ts[i]) : LeftFOne (.mk k0 n0 nm ls ts) := by
  intro V a w hv hF hnum hsz h0 h1
  have hse := szVa_eq (.mk k0 n0 nm ls ts)
  obtain ⟨hnum1, hnum2⟩ := numsB_of _ hnum
  have hv0 := hv
  have HFO := Lib.hid (fun W h hf => hasValueForm_any (.mk k0 n0 nm ls ts) V W h hf hnum1 hsz)
  have hZ := Lib.hid (leftForm_zero (.mk k0 n0 nm ls ts))
  have hNo := Lib.hid (leftForm_no (.mk k0 n0 nm ls ts) a)
  have hPa := Lib.hid (leftForm_part (.mk k0 n0 nm ls ts) a)
  have hNx := Lib.hid (leftForm_next (.mk k0 n0 nm ls ts) a)
  have hYe := Lib.hid (leftForm_yes (.mk k0 n0 nm ls ts) a)
  obtain ⟨L, lc, A, ac, rfl, _, _, _, _, ha⟩ := hv.open
  simp only [Va.kind, Va.num, Va.name, Va.labels, Va.args] at *
  have hm := ha.1
  unfold maxLen at hm
  have hsz2 : szVas ts ≤ 1048576 := by omega
  have HALL := Lib.hid hall
  have HNUM := Lib.hid hnum2
  generalize hres : leftForm (.mk k0 n0 nm ls ts) a = res at *
  obtain ⟨hb0, p0, hs0⟩ := boxes1 w 25 #[.int .i64 k0, .int .i64 n0, .string nm, .slice L ls.length lc, .slice A ts.length ac]
  have ha0 := ha.up hb0
  have hF0 := hF.below hb0
  have HV := Lib.hid (HFO.out _ (hv0.up hb0) hF0)
  have HRS := Lib.hid hres
  clear hall hv hv0 ha hse hs0 hnum hnum1 hnum2 hF HFO hres
  by_cases hz : a = 0
  · subst hz
    have hr := Lib.hid (show res = -1 from HRS.out.symm.trans hZ.out)
    go_enter Tryd.func48, Tryd.ntmps48
    go_wp2
    go_ret
    exact ⟨by rw [hr.out]; rfl, hb0⟩
  · have i0 : (a == 0) = false := by rw [beq_eq_false_iff_ne]; exact hz
    cases hnode : nodeVB k0 n0 nm ls ts.length
    · have hr := Lib.hid (show res = -1 from hNo.out hnode)
      rw [hnode] at HV
      clear hnode hz
      go_enter Tryd.func48, Tryd.ntmps48
      go_wp2_with fail
      generalize w.alloc (.cells #[.int .i64 k0, .int .i64 n0, .string nm, .slice L ls.length lc, .slice A ts.length ac] 25) = w0 at *
      refine HV.out.mono ?_
      rintro e w1 ⟨rfl, hb1⟩
      go_wp2
      go_ret
      exact ⟨by rw [hr.out]; rfl, hb0.trans (hb1.mono hb0.size)⟩
    · rw [hnode] at HV
      have HND := Lib.hid hnode
      clear hnode
      go_enter Tryd.func48, Tryd.ntmps48
      go_wp2_with fail
      generalize w.alloc (.cells #[.int .i64 k0, .int .i64 n0, .string nm, .slice L ls.length lc, .slice A ts.length ac] 25) = w0 at *
      refine HV.out.mono ?_
      rintro e w1 ⟨rfl, hb1⟩
      have hb1' := hb0.trans (hb1.mono hb0.size)
      have p1 := p0.below hb1 p0.lt
      have ha1 := ha0.up hb1
      have hF1 := hF0.below hb1
      have c4 : w1.cell? ⟨w.heap.size, 4, none⟩ = some (.slice A ts.length ac) := p1.cell 4
      clear HV ha0 hF0 p0 hb0
      go_wp2
      clear c4
      go_loopw [5, 20] (fun lf i wr => ∃ (k : Nat) (x : Int), k ≤ ts.length ∧ i = .int .i64 k ∧ lf = .int .i64 x ∧ Hid (x = a - 1 - (sizeVas (ts.take k) : Int)) ∧ 0 ≤ x ∧ x ≤ 1000 ∧ (∀ j, (hj : j < ts.length) → j < k → formVa ts[j] = true) ∧ Below w1.heap.size w1 wr) (fun _ i _ => ts.length - (intOf i).toNat)
      case atStart => exact ⟨0, a - 1, Nat.zero_le _, rfl, rfl, Lib.hid (by simp [sizeVas]), by omega, by omega, fun j _ h => absurd h (by omega), Below.refl _ _⟩
      case round =>
        obtain ⟨k, x, hk, rfl, rfl, hx, hx0, hx1, hall, hb⟩ := hrel
        have HA := Lib.hid hall
        clear hall
        have hbw := hb1'.trans (hb.mono hb1'.size)
        by_cases hlt : k < ts.length
        · obtain ⟨b, off, L1, lc1, A1, ac1, rfl, hbl, q0, q1, q2, q3, q4, ht⟩ := (ha1.below hb).elem k hlt
          have hpt := szVa_part ts k hlt
          have hbx := (Below.refl wr.heap.size wr).alloc (Nat.le_refl _) (.cells #[.int .i64 ts[k].kind, .int .i64 ts[k].num, .string ts[k].name, .slice L1 ts[k].labels.length lc1, .slice A1 ts[k].args.length ac1] 25)
          have HT := HALL.out k hlt _ x _ ((ht.more hb.size).up hbx) ((hF1.below hb).below hbx) (HNUM.out k hlt) (by omega) hx0 hx1
          by_cases hneg : leftForm ts[k] x < 0
          · have hr := Lib.hid (show res = -1 from hPa.out k hlt (by rw [← hx.out]; exact hneg))
            have HT' := Lib.hid HT
            generalize leftForm ts[k] x = y at *
            clear ht HT
            go_wp2_with fail
            refine HT'.out.mono ?_
            rintro e w3 ⟨rfl, hb3⟩
            go_wp2
            go_ret
            exact ⟨by rw [hr.out]; rfl, hbw.trans ((hbx.trans (hb3.mono (by simp))).mono hbw.size)⟩
          · have hnx := hNx.out k hlt (by rw [← hx.out]; omega)
            rw [← hx.out] at hnx
            have HT' := Lib.hid HT
            have HX := Lib.hid hnx.1
            have HK := Lib.hid hnx.2
            have hle : leftForm ts[k] x ≤ x := by unfold leftForm; split <;> omega
            clear hnx
            generalize leftForm ts[k] x = y at *
            clear ht HT
            go_wp2_with fail
            refine HT'.out.mono ?_
            rintro e w3 ⟨rfl, hb3⟩
            go_wp2
            go_roundw
            case rel =>
              refine ⟨k + 1, y, by omega, by go_num, rfl, Lib.hid HX.out, by omega, by omega, fun j hj h => ?_, hb.trans ((hbx.trans (hb3.mono (by simp))).mono hb.size)⟩
              by_cases e : j = k
              · subst e
                exact HK.out
              · exact HA.out j hj (by omega)
            case measure => simp [intOf]; omega
        · have hke : k = ts.length := by omega
          subst hke
          rw [List.take_length] at hx
          have hr := Lib.hid (show res = x by rw [hYe.out HND.out (by rw [← hx.out]; exact hx0) fun i hi => HA.out i hi hi, hx.out])
          go_wp2
          go_ret
          exact ⟨by rw [hr.out]; rfl, hbw⟩

theorem nodesLeft_any (t : Va) : LeftFOne t := by
  induction t using Va.ind with
  | h k n nm ls ts ih => exact nodesLeft_of k n nm ls ts ih

set_option maxHeartbeats 1000000 in
theorem implIsValue_any (t : Va) (v : Value) (w : World) (hv : OwnV w v t) (hF : FormsAt w) (hnum : numsB t = true) (hsz : szVa t ≤ 1048576) : Calls Tryd.prog 18 #[v] w (BoolIs (valueB t) w) := by
  have HN := Lib.hid (fun V W h hf => nodesLeft_any t V 300 W h hf hnum hsz (by omega) (by omega))
  obtain ⟨L, lc, A, ac, rfl, _⟩ := hv.open
  obtain ⟨hb0, p0, hs0⟩ := boxes1 w 25 #[.int .i64 t.kind, .int .i64 t.num, .string t.name, .slice L t.labels.length lc, .slice A t.args.length ac]
  have hv0 := hv.up hb0
  have HF := Lib.hid (HN.out _ _ hv0.here (hF.below hb0))
  clear hv hv0 hs0 p0
  by_cases h : (sizeVa t : Int) ≤ 300 ∧ formVa t = true
  · have hl : leftForm t 300 = 300 - sizeVa t := by unfold leftForm; rw [if_pos h]
    have i1 : (0 : Int) ≤ 300 - sizeVa t := by omega
    have hr := Lib.hid (show valueB t = true by unfold valueB; rw [h.2]; simp; omega)
    rw [hl] at HF
    have i2 : (300 : Int) - sizeVa t ≥ 0 := by omega
    clear h hl
    generalize (300 : Int) - (sizeVa t : Int) = x at *
    go_enter Tryd.func18, Tryd.ntmps18
    go_wp2_with fail
    refine HF.out.mono ?_
    rintro e w1 ⟨rfl, hb1⟩
    go_wp2
    go_ret
    exact ⟨by rw [hr.out]; rfl, hb0.trans (hb1.mono hb0.size)⟩
  · have hl : leftForm t 300 = -1 := by unfold leftForm; rw [if_neg h]
    have hr := Lib.hid (show valueB t = false by
      unfold valueB
      rw [Bool.and_eq_false_iff]
      by_cases h3 : formVa t = true
      · left
        rw [decide_eq_false_iff_not]
        intro h4
        exact h ⟨by omega, h3⟩
      · right
        simpa using h3)
    rw [hl] at HF
    clear h hl
    go_enter Tryd.func18, Tryd.ntmps18
    go_wp2_with fail
    refine HF.out.mono ?_
    rintro e w1 ⟨rfl, hb1⟩
    go_wp2
    go_ret
    exact ⟨by rw [hr.out]; rfl, hb0.trans (hb1.mono hb0.size)⟩

end Go.Proofs.YtceclhndagoddaaDoor
end

section
namespace Go.Proofs.YtceclhndagoddaaDoor
open Go Go.RowKit
set_option linter.unusedSimpArgs false

theorem parse_bad {s : ByteArray} (h : BadV 300 (rdVa 300 (restOf s 0))) : parseVB s = none := by
  unfold parseVB
  rw [rest_zero'] at h
  split
  · rename_i t e
    rcases h t [] e with h1 | h1 | ⟨c, q, h1, _⟩
    · have : valueB t = false := by unfold valueB; rw [h1, Bool.and_false]
      rw [this]
      rfl
    · have : valueB t = false := by
        unfold valueB
        rw [decide_eq_false (by omega), Bool.false_and]
      rw [this]
      rfl
    · cases h1
  · rfl
theorem parse_none {s : ByteArray} {t : Va} {q : List UInt8} (h : rdVa 300 (restOf s 0) = some (t, q)) (hq : q ≠ []) : parseVB s = none := by
  unfold parseVB
  rw [← rest_zero', h]
  cases q with
  | nil => exact absurd rfl hq
  | cons a q => rfl
theorem parse_here {s : ByteArray} {t : Va} (h : rdVa 300 (restOf s 0) = some (t, [])) : parseVB s = if valueB t = true then some t else none := by
  unfold parseVB
  rw [← rest_zero', h]

set_option maxHeartbeats 4000000 in
set_option maxRecDepth 100000 in
theorem implParseV_any (hR : ValR 300 300) (s : ByteArray) (w : World) (hs : s.size ≤ 1048576) (hN : NumsAt w w.heap.size) (hF : FormsAt w) : Calls Tryd.prog 6 #[.string s] w (ParsePostV s w) := by
  obtain ⟨hb0, z0, hs0⟩ := boxes1 w 25 #[.int .i64 0, .int .i64 0, .string ⟨#[]⟩, .slice none 0 0, .slice none 0 0]
  have HRO := Lib.hid (fun W => readerOf_any s W)
  have HTY := Lib.hid hR
  have HV := Lib.hid (fun t V W h hf hn hsz => implIsValue_any t V W h hf hn hsz)
  have HN := Lib.hid hN
  have HF := Lib.hid hF
  clear hR hN hF
  go_enter Tryd.func6, Tryd.ntmps6
  go_upto_region 1 with fail
  generalize w.alloc (.cells #[.int .i64 0, .int .i64 0, .string ⟨#[]⟩, .slice none 0 0, .slice none 0 0] 25) = wa at *
  go_wp2_with fail
  refine (HRO.out wa).mono ?_
  rintro e w1 ⟨ps, pa, rfl, hr1, hb1, hps, hpa⟩
  have z1 := z0.below hb1 z0.lt
  have hB1 := hb0.trans (hb1.mono hb0.size)
  have hws : w.heap.size < wa.heap.size := z0.lt
  clear hb0 hb1 z0 hs0
  go_upto_region 2 with fail
  obtain ⟨hb2, y2, hs2⟩ := boxes1 w1 58 #[rdAcc ps pa, rdTak ps pa, rdEnd ps pa, .int .i64 300]
  have r2 := hr1.below hb2 hr1.lts hr1.lta
  have z2 := z1.below hb2 z1.lt
  have hB2 := hB1.trans (hb2.mono hB1.size)
  have hpal := hr1.lta
  have hpsl := hr1.lts
  have hb12 := hB1.size
  clear hr1 z1 hb2 hB1
  generalize w1.alloc (.cells #[rdAcc ps pa, rdTak ps pa, rdEnd ps pa, .int .i64 300] 58) = w2 at *
  have HVR : Hid (VR w.heap.size w2 ps pa w1.heap.size s 0 300) := Lib.hid ⟨r2, y2, HN.out.below hB2, by omega, by omega, by omega, by omega, by omega⟩
  have Z2 : Hid (Whole1 w2 w.heap.size 25 #[.int .i64 0, .int .i64 0, .string ⟨#[]⟩, .slice none 0 0, .slice none 0 0]) := Lib.hid z2
  have B2 := Lib.hid hB2
  clear z2 y2 r2 hB2
  go_wp2_with fail
  refine (HTY.out w.heap.size w2 ps pa w1.heap.size 0 s HVR.out hs).mono ?_
  rintro e w3 ⟨k, n, nm, L, nl, lc, A, na, ac, ok, j5, m5, rfl, hv3, hT3, hcase⟩
  have hw2 := B2.out.size
  have hz3 : Whole1 w3 w.heap.size 25 #[.int .i64 0, .int .i64 0, .string ⟨#[]⟩, .slice none 0 0, .slice none 0 0] := turn_stays hT3 Z2.out (by omega) (by omega)
  have hB3 : Below w.heap.size w w3 := B2.out.trans (turn_low hT3 (by omega) (by omega) hw2)
  have hw23 := hT3.size
  go_upto_region 3 with fail
  obtain ⟨hb4, x4, hs4⟩ := boxes1 w3 25 #[.int .i64 k, .int .i64 n, .string nm, .slice L nl lc, .slice A na ac]
  have HZ4 := Lib.hid (hz3.below hb4 hz3.lt)
  have HV4 := Lib.hid (hv3.keep hb4)
  have HB4 := Lib.hid (hB3.trans (hb4.mono hB3.size))
  have HX4 := Lib.hid x4
  have HC : Hid ((ok = false ∧ BadV 300 (rdVa 300 (restOf s 0))) ∨ ok = true ∧ ∃ t, rdVa 300 (restOf s 0) = some (t, restOf s j5) ∧ sizeVa t ≤ 300 ∧ OwnVa (w3.alloc (.cells #[.int .i64 k, .int .i64 n, .string nm, .slice L nl lc, .slice A na ac] 25)) w2.heap.size (.agg #[.int .i64 k, .int .i64 n, .string nm, .slice L nl lc, .slice A na ac]) t) := Lib.hid (hcase.imp id fun ⟨h1, t, h2, h3, _, h5⟩ => ⟨h1, t, h2, h3, h5.keep hb4.size fun g _ hl => hb4.block g hl⟩)
  have hj5 := hv3.rd.le
  clear hz3 hv3 hB3 hb4 x4 hcase hT3
  generalize w3.alloc (.cells #[.int .i64 k, .int .i64 n, .string nm, .slice L nl lc, .slice A na ac] 25) = w4 at *
  have d0 : w4.cell? ⟨w.heap.size, 0, none⟩ = some (.int .i64 0) := HZ4.out.cell 0
  have d1 : w4.cell? ⟨w.heap.size, 1, none⟩ = some (.int .i64 0) := HZ4.out.cell 1
  have d2 : w4.cell? ⟨w.heap.size, 2, none⟩ = some (.string ⟨#[]⟩) := HZ4.out.cell 2
  have d3 : w4.cell? ⟨w.heap.size, 3, none⟩ = some (.slice none 0 0) := HZ4.out.cell 3
  have d4 : w4.cell? ⟨w.heap.size, 4, none⟩ = some (.slice none 0 0) := HZ4.out.cell 4
  have f0 : w4.frozen? ⟨w.heap.size, 0, none⟩ = false := HZ4.out.free 0
  have f1 : w4.frozen? ⟨w.heap.size, 1, none⟩ = false := HZ4.out.free 1
  have f2 : w4.frozen? ⟨w.heap.size, 2, none⟩ = false := HZ4.out.free 2
  have f3 : w4.frozen? ⟨w.heap.size, 3, none⟩ = false := HZ4.out.free 3
  have f4 : w4.frozen? ⟨w.heap.size, 4, none⟩ = false := HZ4.out.free 4
  have BAD : Hid (∀ W : World, Below w.heap.size w W → parseVB s = none → ParsePostV s w (.returned (.tuple #[.agg #[.int .i64 0, .int .i64 0, .string ⟨#[]⟩, .slice none 0 0, .slice none 0 0], .bool false])) W) := Lib.hid fun W hW hno => ⟨_, by rw [hno]; rfl, by rw [hno]; exact vzero_in _ _, hW⟩
  cases ok with
  | false =>
    have HNO : Hid (parseVB s = none) := Lib.hid (by
      rcases HC.out with ⟨_, h⟩ | ⟨h, _⟩
      · exact parse_bad h
      · cases h)
    clear HC
    go_wp2
    exact bodyPost_ret (v := .tuple #[.agg #[.int .i64 0, .int .i64 0, .string ⟨#[]⟩, .slice none 0 0, .slice none 0 0], .bool false]) (by simp [results, Tryd.results6, go_sem, d0, d1, d2, d3, d4]) rfl (BAD.out _ (HB4.out.trans (set5_below _ _ _ _ _ _ _)) HNO.out)
  | true =>
    obtain ⟨t, hx, hszt, hown⟩ : ∃ t, rdVa 300 (restOf s 0) = some (t, restOf s j5) ∧ sizeVa t ≤ 300 ∧ OwnVa w4 w2.heap.size (.agg #[.int .i64 k, .int .i64 n, .string nm, .slice L nl lc, .slice A na ac]) t := by
      rcases HC.out with ⟨h, _⟩ | ⟨_, h⟩
      · cases h
      · exact h
    have HX := Lib.hid hx
    have HI4 := Lib.hid hown.owned
    have hnb := smallB_nums t (rdVa_small 300 _ _ _ hx)
    have hszv : szVa t ≤ 1048576 := by
      have h1 := congrArg List.length (rdVa_sound 300 _ _ _ hx)
      have h2 := rdVa_sz 300 _ _ _ hx
      rw [List.length_append, restOf_len] at h1
      omega
    have HNB := Lib.hid (And.intro hnb hszv)
    clear HC hx hown hnb hszv
    have y0 : w4.cell? ⟨w1.heap.size, 0, none⟩ = some (rdAcc ps pa) := HV4.out.obj.cell 0
    have y1 : w4.cell? ⟨w1.heap.size, 1, none⟩ = some (rdTak ps pa) := HV4.out.obj.cell 1
    have y2 : w4.cell? ⟨w1.heap.size, 2, none⟩ = some (rdEnd ps pa) := HV4.out.obj.cell 2
    have x0 : w4.cell? ⟨w3.heap.size, 0, none⟩ = some (.int .i64 k) := HX4.out.cell 0
    have x1 : w4.cell? ⟨w3.heap.size, 1, none⟩ = some (.int .i64 n) := HX4.out.cell 1
    have x2 : w4.cell? ⟨w3.heap.size, 2, none⟩ = some (.string nm) := HX4.out.cell 2
    have x3 : w4.cell? ⟨w3.heap.size, 3, none⟩ = some (.slice L nl lc) := HX4.out.cell 3
    have x4 : w4.cell? ⟨w3.heap.size, 4, none⟩ = some (.slice A na ac) := HX4.out.cell 4
    have hE := end_any ps pa j5 s w4 HV4.out.rd
    by_cases hj : j5 = s.size
    · rw [decide_eq_true hj] at hE
      have HE := Lib.hid hE
      have HX2 : Hid (rdVa 300 (restOf s 0) = some (t, [])) := Lib.hid (by rw [HX.out, restOf_end s _ (by omega)])
      have hOT : OwnV w4 (.agg #[.int .i64 k, .int .i64 n, .string nm, .slice L nl lc, .slice A na ac]) t := OwnV.of (HI4.out.wide fun b hb => ⟨hb.1, by have := hb.2; omega⟩)
      have HVT := Lib.hid (HV.out t _ w4 hOT (HF.out.below HB4.out) HNB.out.1 HNB.out.2)
      clear hE hOT HX
      go_wp2_with fail
      refine HE.out.mono ?_
      rintro e w4' ⟨rfl, rfl⟩
      go_wp2_with fail
      refine HVT.out.mono ?_
      rintro e w5 ⟨rfl, hb5⟩
      have z5 := HZ4.out.below hb5 HZ4.out.lt
      have hB5 := Lib.hid (HB4.out.trans (hb5.mono HB4.out.size))
      have hX5 := HX4.out.below hb5 HX4.out.lt
      have HI5 := Lib.hid (HI4.out.keep fun b hb hl => hb5.block b hl)
      have hz5 := hb5.size
      have hw34 := HX4.out.lt
      clear d0 d1 d2 d3 d4 f0 f1 f2 f3 f4
      have q0 : w5.cell? ⟨w3.heap.size, 0, none⟩ = some (.int .i64 k) := hX5.cell 0
      have q1 : w5.cell? ⟨w3.heap.size, 1, none⟩ = some (.int .i64 n) := hX5.cell 1
      have q2 : w5.cell? ⟨w3.heap.size, 2, none⟩ = some (.string nm) := hX5.cell 2
      have q3 : w5.cell? ⟨w3.heap.size, 3, none⟩ = some (.slice L nl lc) := hX5.cell 3
      have q4 : w5.cell? ⟨w3.heap.size, 4, none⟩ = some (.slice A na ac) := hX5.cell 4
      have d0 : w5.cell? ⟨w.heap.size, 0, none⟩ = some (.int .i64 0) := z5.cell 0
      have d1 : w5.cell? ⟨w.heap.size, 1, none⟩ = some (.int .i64 0) := z5.cell 1
      have d2 : w5.cell? ⟨w.heap.size, 2, none⟩ = some (.string ⟨#[]⟩) := z5.cell 2
      have d3 : w5.cell? ⟨w.heap.size, 3, none⟩ = some (.slice none 0 0) := z5.cell 3
      have d4 : w5.cell? ⟨w.heap.size, 4, none⟩ = some (.slice none 0 0) := z5.cell 4
      have f0 : w5.frozen? ⟨w.heap.size, 0, none⟩ = false := z5.free 0
      have f1 : w5.frozen? ⟨w.heap.size, 1, none⟩ = false := z5.free 1
      have f2 : w5.frozen? ⟨w.heap.size, 2, none⟩ = false := z5.free 2
      have f3 : w5.frozen? ⟨w.heap.size, 3, none⟩ = false := z5.free 3
      have f4 : w5.frozen? ⟨w.heap.size, 4, none⟩ = false := z5.free 4
      clear z5 hb5 hX5 x0 x1 x2 x3 x4 y0 y1 y2
      cases hvb : valueB t
      · have HNO : Hid (parseVB s = none) := Lib.hid (by rw [parse_here HX2.out, hvb]; rfl)
        clear hvb
        go_wp2
        exact bodyPost_ret (v := .tuple #[.agg #[.int .i64 0, .int .i64 0, .string ⟨#[]⟩, .slice none 0 0, .slice none 0 0], .bool false]) (by simp [results, Tryd.results6, go_sem, d0, d1, d2, d3, d4]) rfl (BAD.out _ (hB5.out.trans (set5_below _ _ _ _ _ _ _)) HNO.out)
      · have HYES : Hid (parseVB s = some t) := Lib.hid (by rw [parse_here HX2.out, hvb]; rfl)
        clear hvb BAD
        go_wp2
        exact bodyPost_ret (v := .tuple #[.agg #[.int .i64 k, .int .i64 n, .string nm, .slice L nl lc, .slice A na ac], .bool true]) (by simp [results, Tryd.results6, go_sem, d0, d1, d2, d3, d4]) rfl ⟨_, by rw [HYES.out]; rfl, by rw [HYES.out]; exact vaIn_set5' HI5.out (by omega) (by omega) _ _ _ _ _, hB5.out.trans (set5_below _ _ _ _ _ _ _)⟩
    · rw [decide_eq_false hj] at hE
      have HE := Lib.hid hE
      have HNO : Hid (parseVB s = none) := Lib.hid (parse_none HX.out (fun e => by
        have := congrArg List.length e
        rw [restOf_len] at this
        simp at this
        omega))
      clear hE x0 x1 x2 x3 x4 y0 y1
      go_wp2_with fail
      refine HE.out.mono ?_
      rintro e w4' ⟨rfl, rfl⟩
      go_wp2
      exact bodyPost_ret (v := .tuple #[.agg #[.int .i64 0, .int .i64 0, .string ⟨#[]⟩, .slice none 0 0, .slice none 0 0], .bool false]) (by simp [results, Tryd.results6, go_sem, d0, d1, d2, d3, d4]) rfl (BAD.out _ (HB4.out.trans (set5_below _ _ _ _ _ _ _)) HNO.out)

end Go.Proofs.YtceclhndagoddaaDoor
end

section
namespace Go.Proofs.YtceclhndagoddaaDoor
set_option maxRecDepth 100000
open Go.ChangeShapes Go.WideShapes Go.ChangeAt Go.RowKit

theorem cellsForm : Tryd.prog.cellsOf 153 = 6 := by kernel_rfl
theorem cellsForms : Tryd.prog.cellsOf 154 = 36 := by kernel_rfl
theorem cellsBool : Tryd.prog.cellsOf 4 = 1 := by kernel_rfl
theorem cellsInt6 : Tryd.prog.cellsOf 3 = 1 := by kernel_rfl

theorem form_cells {W : World} {cs : List Value} {fuel : Nat} {a b c d : Int} {b1 b2 : Bool} {p : List MemPlace} (h : DataW.trod (fun _ => ()) Tryd.prog W 0 (fun _ => true) false fuel 153 cs = some (.agg [.lit (.int .i64 a), .lit (.int .i64 b), .lit (.bool b1), .lit (.bool b2), .lit (.int .i64 c), .lit (.int .i64 d)], p)) :
    cs = [.int .i64 a, .int .i64 b, .bool b1, .bool b2, .int .i64 c, .int .i64 d] := by
  obtain ⟨xs, n, rfl, hx, hlen, hxl, hf⟩ := DataW.trod_struct Tryd.underlying153 h
  rw [cellsForm] at hlen
  have h0 : DataW.trod (fun _ => ()) Tryd.prog W 0 (fun _ => true) false n 3 ((cs.drop 0).take (Tryd.prog.cellsOf 3)) = xs[0]? := hf 0 _ rfl
  have h1 : DataW.trod (fun _ => ()) Tryd.prog W 0 (fun _ => true) false n 3 ((cs.drop 1).take (Tryd.prog.cellsOf 3)) = xs[1]? := hf 1 _ rfl
  have h2 : DataW.trod (fun _ => ()) Tryd.prog W 0 (fun _ => true) false n 4 ((cs.drop 2).take (Tryd.prog.cellsOf 4)) = xs[2]? := hf 2 _ rfl
  have h3 : DataW.trod (fun _ => ()) Tryd.prog W 0 (fun _ => true) false n 4 ((cs.drop 3).take (Tryd.prog.cellsOf 4)) = xs[3]? := hf 3 _ rfl
  have h4 : DataW.trod (fun _ => ()) Tryd.prog W 0 (fun _ => true) false n 3 ((cs.drop 4).take (Tryd.prog.cellsOf 3)) = xs[4]? := hf 4 _ rfl
  have h5 : DataW.trod (fun _ => ()) Tryd.prog W 0 (fun _ => true) false n 3 ((cs.drop 5).take (Tryd.prog.cellsOf 3)) = xs[5]? := hf 5 _ rfl
  rw [cellsInt6] at h0 h1 h4 h5
  rw [cellsBool] at h2 h3
  match cs, hlen with
  | [c0, c1, c2, c3, c4, c5], _ =>
  match xs, hxl with
  | [x0, x1, x2, x3, x4, x5], _ =>
  simp at h0 h1 h2 h3 h4 h5 hx
  obtain ⟨⟨e0, e1, e2, e3, e4, e5⟩, _⟩ := hx
  obtain ⟨n0, k0, l0, _⟩ := DataW.trod_int Tryd.underlying3 h0
  obtain ⟨n1, k1, l1, _⟩ := DataW.trod_int Tryd.underlying3 h1
  obtain ⟨n2, k2, l2⟩ := DataW.trod_bool Tryd.underlying4 h2
  obtain ⟨n3, k3, l3⟩ := DataW.trod_bool Tryd.underlying4 h3
  obtain ⟨n4, k4, l4, _⟩ := DataW.trod_int Tryd.underlying3 h4
  obtain ⟨n5, k5, l5, _⟩ := DataW.trod_int Tryd.underlying3 h5
  simp at k0 k1 k2 k3 k4 k5
  subst k0 k1 k2 k3 k4 k5
  rw [l0] at e0
  rw [l1] at e1
  rw [l2] at e2
  rw [l3] at e3
  rw [l4] at e4
  rw [l5] at e5
  simp at e0 e1 e2 e3 e4 e5
  subst e0 e1 e2 e3 e4 e5
  rfl

def formChunk (q : Nat) : List Value := (formCells.drop (q * 6)).take 6

theorem formsAt_of {W : World} {L : List (String × DataW Unit)} (hm : ("loop.example/g00592/impl.valueForms", Rows.laid_loop_example_g00592_impl_valueForms) ∈ L) (h : laidMet Tryd.prog L W) : FormsAt W := by
  obtain ⟨ps, hv, _⟩ := h
  obtain ⟨g', t', cs, fuel, p, hg', ht', hvar, hd⟩ := laidVars_mem hv hm
  obtain rfl := Option.some.inj ((show Tryd.prog.globalNamed "loop.example/g00592/impl.valueForms" = some 0 by kernel_rfl).symm.trans hg')
  obtain rfl := Option.some.inj ((show (Tryd.prog.globals[0]?).map (·.type) = some 154 by kernel_rfl).symm.trans ht')
  obtain ⟨xs, m, _, ex, hlen, hl, hel⟩ := DataW.trod_array Tryd.underlying154 hd
  rw [cellsForms] at hlen
  rw [cellsForm] at hel
  have e3 := (DataW.agg.inj (Prod.mk.inj ex).1)
  match xs, hl with
  | [x0, x1, x2, x3, x4, x5], _ =>
  simp only [List.map_cons, List.map_nil, List.cons.injEq, and_true] at e3
  obtain ⟨e0, e1, e2, e3, e4, e5⟩ := e3
  have hc : ∀ q, q < 6 → (cs.toList.drop (q * 6)).take 6 = formChunk q := by
    intro q hq
    have hq6 : q = 0 ∨ q = 1 ∨ q = 2 ∨ q = 3 ∨ q = 4 ∨ q = 5 := by omega
    rcases hq6 with rfl | rfl | rfl | rfl | rfl | rfl
    · have := hel 0 (by omega)
      simp only [List.getElem?_cons_zero] at this
      rw [show x0 = (x0.1, x0.2) from rfl, ← e0] at this
      exact form_cells this
    · have := hel 1 (by omega)
      simp only [List.getElem?_cons_zero, List.getElem?_cons_succ] at this
      rw [show x1 = (x1.1, x1.2) from rfl, ← e1] at this
      exact form_cells this
    · have := hel 2 (by omega)
      simp only [List.getElem?_cons_zero, List.getElem?_cons_succ] at this
      rw [show x2 = (x2.1, x2.2) from rfl, ← e2] at this
      exact form_cells this
    · have := hel 3 (by omega)
      simp only [List.getElem?_cons_zero, List.getElem?_cons_succ] at this
      rw [show x3 = (x3.1, x3.2) from rfl, ← e3] at this
      exact form_cells this
    · have := hel 4 (by omega)
      simp only [List.getElem?_cons_zero, List.getElem?_cons_succ] at this
      rw [show x4 = (x4.1, x4.2) from rfl, ← e4] at this
      exact form_cells this
    · have := hel 5 (by omega)
      simp only [List.getElem?_cons_zero, List.getElem?_cons_succ] at this
      rw [show x5 = (x5.1, x5.2) from rfl, ← e5] at this
      exact form_cells this
  have hcell : ∀ i, i < 36 → W.cell? ⟨0, i, none⟩ = cs[i]? ∧ 0 < W.heap.size := by
    intro i hi
    unfold World.var? at hvar
    rw [show Tryd.prog.globalNamed "loop.example/g00592/impl.valueForms" = some 0 by kernel_rfl] at hvar
    simp only [Option.bind_some] at hvar
    cases hh : W.heap[0]? with
    | none => rw [hh] at hvar; cases hvar
    | some ob =>
      rw [hh] at hvar
      cases ob with
      | cells cs' t' r =>
        cases hvar
        exact ⟨by simp [World.cell?, hh], (Array.getElem?_eq_some_iff.1 hh).1⟩
      | _ => cases hvar
  refine ⟨(hcell 0 (by omega)).2, fun i hi => (hcell i hi).1.trans ?_⟩
  have h1 := congrArg (·[i % 6]?) (hc (i / 6) (by omega))
  simp only [formChunk, List.getElem?_take, List.getElem?_drop] at h1
  rw [if_pos (by omega), if_pos (by omega), show i / 6 * 6 + i % 6 = i by omega] at h1
  simpa using h1

end Go.Proofs.YtceclhndagoddaaDoor
end

section
namespace Go.Proofs.YtceclhndagoddaaDoor
open Go Go.RowKit

theorem field_none {f : List UInt8 → Option (Va × List UInt8)} {l : List UInt8} (h : eat 61 (l.dropWhile wordC) = none) : rdField f l = none := by
  unfold rdField
  rw [h]
theorem field_bad {f : List UInt8 → Option (Va × List UInt8)} {l r : List UInt8} {m : Nat} (h : eat 61 (l.dropWhile wordC) = some r) (hb : BadV m (f r)) : Bad (fun b : ByteArray × Va => formVa b.2) (fun b => sizeVa b.2) m (rdField f l) := by
  intro b q hx
  unfold rdField at hx
  rw [h] at hx
  simp only at hx
  cases hf : f r with
  | none =>
    rw [hf] at hx
    cases hx
  | some pr =>
    obtain ⟨t, q0⟩ := pr
    rw [hf] at hx
    simp only [Option.some.injEq, Prod.mk.injEq] at hx
    obtain ⟨rfl, rfl⟩ := hx
    exact hb _ _ hf
theorem field_some {f : List UInt8 → Option (Va × List UInt8)} {l r q : List UInt8} {t : Va} (h : eat 61 (l.dropWhile wordC) = some r) (hf : f r = some (t, q)) : rdField f l = some ((⟨(l.takeWhile wordC).toArray⟩, t), q) := by
  unfold rdField
  rw [h]
  simp only [hf]

set_option maxHeartbeats 4000000 in
set_option maxRecDepth 100000 in
theorem readField_any (n m : Nat) (H : ValR n m) (B : Nat) (w : World) (ps pa pr j : Nat) (s : ByteArray) (hv : VR B w ps pa pr s j m) (hs : s.size ≤ 1048576) :
    Calls Tryd.prog 112 #[.pointer (some ⟨pr, 0, none⟩)] w (PartPost (fun b : ByteArray × Va => b.1) (fun b => b.2) B ps pa pr s m w (rdField (rdVa n) (restOf s j))) := by
  have hl1 := hv.lts
  have hl2 := hv.lta
  have hl3 := hv.ltr
  obtain ⟨hb0, z0, hs0⟩ := boxes1 w 145 #[.string ⟨#[]⟩, .int .i64 0, .int .i64 0, .string ⟨#[]⟩, .slice none 0 0, .slice none 0 0]
  have HV0 := Lib.hid (hv.keep hb0)
  have HB0 := Lib.hid hb0
  have HZ0 := Lib.hid z0
  have HVR := Lib.hid H
  clear H hv hb0 z0 hs0
  go_enter Tryd.func112, Tryd.ntmps112
  go_upto_region 1 with fail
  generalize w.alloc (.cells #[.string ⟨#[]⟩, .int .i64 0, .int .i64 0, .string ⟨#[]⟩, .slice none 0 0, .slice none 0 0] 145) = wa at *
  have hwl : w.heap.size < wa.heap.size := HZ0.out.lt
  have HC := Lib.hid (takeRun_any 113 enters_name nameR wordC nameR_byte nameR_high pred_name ps pa j s wa HV0.out.rd hs)
  have b0 : wa.cell? ⟨pr, 0, none⟩ = some (rdAcc ps pa) := HV0.out.obj.cell 0
  have b1 : wa.cell? ⟨pr, 1, none⟩ = some (rdTak ps pa) := HV0.out.obj.cell 1
  have b2 : wa.cell? ⟨pr, 2, none⟩ = some (rdEnd ps pa) := HV0.out.obj.cell 2
  go_wp2_with fail
  refine HC.out.mono ?_
  rintro e w1 ⟨k1, hk1, ⟨rfl, hr1, hg1⟩, hd1, ht1⟩
  have HV1 := Lib.hid (HV0.out.read hr1 hg1)
  have hT1 := Turn.of_grown hg1 (X := vrX pa pr) (Or.inl rfl)
  have HT1 := Lib.hid ((Turn.of_below HB0.out).trans hT1)
  have HZ1 := Lib.hid (turn_stays hT1 HZ0.out (by omega) (by omega))
  have hsz1 := hT1.size
  have hwz : (s.extract j k1).size ≤ 1048576 := by rw [ByteArray.size_extract]; omega
  have HD1 := Lib.hid (And.intro hd1 ht1)
  clear hr1 hg1 hT1 HC HV0 HB0 HZ0 hd1 ht1 b0 b1 b2
  have b0 : w1.cell? ⟨pr, 0, none⟩ = some (rdAcc ps pa) := HV1.out.obj.cell 0
  have b1 : w1.cell? ⟨pr, 1, none⟩ = some (rdTak ps pa) := HV1.out.obj.cell 1
  have b2 : w1.cell? ⟨pr, 2, none⟩ = some (rdEnd ps pa) := HV1.out.obj.cell 2
  cases hx : eat 61 (restOf s k1) with
  | none =>
    have HX := Lib.hid (field_none (f := rdVa n) (l := restOf s j) (by rw [HD1.out.1]; exact hx))
    have HC := Lib.hid (accE_no ps pa k1 s ⟨#[61]⟩ w1 HV1.out.rd ((eats_one 61 _).trans hx))
    clear hx
    go_wp2_with fail
    refine HC.out.mono ?_
    rintro e w2 ⟨rfl, hr2, hg2⟩
    have hT2 := Turn.of_grown hg2 (X := vrX pa pr) (Or.inl rfl)
    have HV2 := Lib.hid (HV1.out.read hr2 hg2)
    have HT2 := Lib.hid (HT1.out.trans hT2)
    have HZ2 := Lib.hid (turn_stays hT2 HZ1.out (by omega) (by omega))
    clear hr2 hg2 hT2 HC HV1 HT1 HZ1 b0 b1 b2
    have d0 : w2.cell? ⟨w.heap.size, 0, none⟩ = some (.string ⟨#[]⟩) := HZ2.out.cell 0
    have d1 : w2.cell? ⟨w.heap.size, 1, none⟩ = some (.int .i64 0) := HZ2.out.cell 1
    have d2 : w2.cell? ⟨w.heap.size, 2, none⟩ = some (.int .i64 0) := HZ2.out.cell 2
    have d3 : w2.cell? ⟨w.heap.size, 3, none⟩ = some (.string ⟨#[]⟩) := HZ2.out.cell 3
    have d4 : w2.cell? ⟨w.heap.size, 4, none⟩ = some (.slice none 0 0) := HZ2.out.cell 4
    have d5 : w2.cell? ⟨w.heap.size, 5, none⟩ = some (.slice none 0 0) := HZ2.out.cell 5
    have f0 : w2.frozen? ⟨w.heap.size, 0, none⟩ = false := HZ2.out.free 0
    have f1 : w2.frozen? ⟨w.heap.size, 1, none⟩ = false := HZ2.out.free 1
    have f2 : w2.frozen? ⟨w.heap.size, 2, none⟩ = false := HZ2.out.free 2
    have f3 : w2.frozen? ⟨w.heap.size, 3, none⟩ = false := HZ2.out.free 3
    have f4 : w2.frozen? ⟨w.heap.size, 4, none⟩ = false := HZ2.out.free 4
    have f5 : w2.frozen? ⟨w.heap.size, 5, none⟩ = false := HZ2.out.free 5
    go_wp2
    exact bodyPost_ret (v := .tuple #[.agg #[.string ⟨#[]⟩, .int .i64 0, .int .i64 0, .string ⟨#[]⟩, .slice none 0 0, .slice none 0 0], .bool false]) (by simp [results, Tryd.results112, go_sem, d0, d1, d2, d3, d4, d5]) rfl ⟨⟨#[]⟩, 0, 0, ⟨#[]⟩, none, 0, 0, none, 0, 0, false, _, _, rfl, HV2.out.below (set6_below _ _ _ _ _ _ _ _) hl1 hl2 hl3, HT2.out.below (set6_below _ _ _ _ _ _ _ _) (Nat.le_refl _), Or.inl ⟨rfl, by rw [HX.out]; exact Bad.none _ _ _⟩⟩
  | some q1 =>
    have hx1 := (eats_one 61 _).trans hx
    obtain ⟨hle1, rfl⟩ := eats_rest (p := ⟨#[61]⟩) HV1.out.rd.le hx1
    have HX := Lib.hid (show eat 61 ((restOf s j).dropWhile wordC) = some (restOf s (k1 + (⟨#[61]⟩ : ByteArray).size)) by rw [HD1.out.1]; exact hx)
    have HC := Lib.hid (accE_yes ps pa k1 s ⟨#[61]⟩ _ w1 HV1.out.rd hs hx1)
    clear hx hx1
    generalize k1 + (⟨#[61]⟩ : ByteArray).size = k2 at *
    go_wp2_with fail
    refine HC.out.mono ?_
    rintro e w2 ⟨rfl, hr2, hg2⟩
    have hT2 := Turn.of_grown hg2 (X := vrX pa pr) (Or.inl rfl)
    have HV2 := Lib.hid (HV1.out.read hr2 hg2)
    have HT2 := Lib.hid (HT1.out.trans hT2)
    have HZ2 := Lib.hid (turn_stays hT2 HZ1.out (by omega) (by omega))
    have hsz2 := hT2.size
    have HCV := Lib.hid (HVR.out B w2 ps pa pr k2 s HV2.out hs)
    clear hr2 hg2 hT2 HC HV1 HT1 HZ1 b0 b1 b2
    go_wp2_with fail
    refine HCV.out.mono ?_
    rintro e w3 ⟨k, n0, nm, L, nl, lc, A, na, ac, ok, j3, m3, rfl, hv3, hT3, hor⟩
    have HV3 := Lib.hid hv3
    have HT3 := Lib.hid (HT2.out.trans hT3)
    have HZ3 := Lib.hid (turn_stays hT3 HZ2.out (by omega) (by omega))
    have HOR := Lib.hid hor
    have hsz3 := hT3.size
    clear hv3 hT3 hor HCV HV2 HT2 HZ2
    go_upto_region 5 with fail
    have HQ4 := Lib.hid (Whole1.new w3 25 #[.int .i64 k, .int .i64 n0, .string nm, .slice L nl lc, .slice A na ac])
    have hb4 := (Below.refl w3.heap.size w3).alloc (Nat.le_refl _) (.cells #[.int .i64 k, .int .i64 n0, .string nm, .slice L nl lc, .slice A na ac] 25)
    have HV4 := Lib.hid (HV3.out.keep hb4)
    have HT4 := Lib.hid (HT3.out.below hb4 HT3.out.size)
    have HZ4 := Lib.hid (HZ3.out.below hb4 HZ3.out.lt)
    have HB4 := Lib.hid hb4
    clear hb4 HV3 HT3 HZ3
    generalize w3.alloc (.cells #[.int .i64 k, .int .i64 n0, .string nm, .slice L nl lc, .slice A na ac] 25) = w4 at *
    have q0 : w4.cell? ⟨w3.heap.size, 0, none⟩ = some (.int .i64 k) := HQ4.out.cell 0
    have q1 : w4.cell? ⟨w3.heap.size, 1, none⟩ = some (.int .i64 n0) := HQ4.out.cell 1
    have q2 : w4.cell? ⟨w3.heap.size, 2, none⟩ = some (.string nm) := HQ4.out.cell 2
    have q3 : w4.cell? ⟨w3.heap.size, 3, none⟩ = some (.slice L nl lc) := HQ4.out.cell 3
    have q4 : w4.cell? ⟨w3.heap.size, 4, none⟩ = some (.slice A na ac) := HQ4.out.cell 4
    have d0 : w4.cell? ⟨w.heap.size, 0, none⟩ = some (.string ⟨#[]⟩) := HZ4.out.cell 0
    have d1 : w4.cell? ⟨w.heap.size, 1, none⟩ = some (.int .i64 0) := HZ4.out.cell 1
    have d2 : w4.cell? ⟨w.heap.size, 2, none⟩ = some (.int .i64 0) := HZ4.out.cell 2
    have d3 : w4.cell? ⟨w.heap.size, 3, none⟩ = some (.string ⟨#[]⟩) := HZ4.out.cell 3
    have d4 : w4.cell? ⟨w.heap.size, 4, none⟩ = some (.slice none 0 0) := HZ4.out.cell 4
    have d5 : w4.cell? ⟨w.heap.size, 5, none⟩ = some (.slice none 0 0) := HZ4.out.cell 5
    have f0 : w4.frozen? ⟨w.heap.size, 0, none⟩ = false := HZ4.out.free 0
    have f1 : w4.frozen? ⟨w.heap.size, 1, none⟩ = false := HZ4.out.free 1
    have f2 : w4.frozen? ⟨w.heap.size, 2, none⟩ = false := HZ4.out.free 2
    have f3 : w4.frozen? ⟨w.heap.size, 3, none⟩ = false := HZ4.out.free 3
    have f4 : w4.frozen? ⟨w.heap.size, 4, none⟩ = false := HZ4.out.free 4
    have f5 : w4.frozen? ⟨w.heap.size, 5, none⟩ = false := HZ4.out.free 5
    go_wp2
    refine bodyPost_ret (v := .tuple #[.agg #[.string (s.extract j k1), .int .i64 k, .int .i64 n0, .string nm, .slice L nl lc, .slice A na ac], .bool ok]) (by simp [results, Tryd.results112, go_sem, d0, d1, d2, d3, d4, d5]) rfl ⟨_, k, n0, nm, L, nl, lc, A, na, ac, ok, j3, m3, rfl, HV4.out.below (set6_below _ _ _ _ _ _ _ _) hl1 hl2 hl3, HT4.out.below (set6_below _ _ _ _ _ _ _ _) (Nat.le_refl _), ?_⟩
    rcases HOR.out with ⟨h1, h2⟩ | ⟨h1, t, h2, h3, h4, h5⟩
    · exact Or.inl ⟨h1, field_bad HX.out h2⟩
    · refine Or.inr ⟨h1, _, field_some HX.out h2, HD1.out.2, hwz, h3, h4, ((h5.keep HB4.out.size fun g _ hg => HB4.out.block g hg).set6 _ (by omega) _ _ _ _ _ _).base (by omega)⟩

    end Go.Proofs.YtceclhndagoddaaDoor
end

section
namespace Go.Proofs.YtceclhndagoddaaDoor
open Go Go.RowKit
attribute [local go_sem] Oper.semAt_some

def noBlock : Nat → Prop := fun _ => False
theorem Turn.to_below {w w' : World} (h : Turn noBlock w w') : Below w.heap.size w w' := ⟨h.os, h.tape, h.output, h.size, fun i hi => h.block i hi (fun x => x)⟩
/-- An iterator over strings; fewer than N have come. -/
abbrev SeqStrs (n gf : Nat) (lb : Array Value) (S : List ByteArray → World → Prop) (N : Nat) (w : World) : Prop :=
  SeqTurn Fence.wide n Tryd.prog gf lb (fun x : ByteArray => #[.string x]) noBlock (fun pre _ _ _ => pre.length < N) S (fun _ _ => True) w

end Go.Proofs.YtceclhndagoddaaDoor
end
