/- Lemmas: SpecVParse, Place, VPlace. -/
import Derived.Test.YtceclhndagoddaaGreatDoorLawFnValueText_22
import Derived.Test.YtceclhndagoddaaGreatDoorLawFnValueText_16
import Derived.Test.YtceclhndagoddaaGreatDoorLawFnValueText_2
import Derived.Maps.OwnSet
import Derived.Laws.StructEq
import Derived.LaidEql
import Derived.Test.YtceclhndagoddaaGreatDoorProg
import Derived.Test.YtceclhndagoddaaGreatDoorLawFnValueText_3

section
namespace Go.Proofs.YtceclhndagoddaaGreatDoor
open Go.RowKit
attribute [local go_sem ↓] Go.wp_at_zero Go.wp_at_succ

abbrev zeroVa : Va := .mk 0 0 ⟨#[]⟩ [] []
/-- The value of the text, or nothing, is handed back. -/
def ParsePostV (s : ByteArray) (w : World) (e : Ending) (w' : World) : Prop :=
  ∃ v, e = .returned (.tuple #[v, .bool (parseVB s).isSome]) ∧ VaIn w' (Span w.heap.size w'.heap.size) v ((parseVB s).getD zeroVa) ∧ Below w.heap.size w w'

theorem rest_zero' (s : ByteArray) : restOf s 0 = s.data.toList := by simp [restOf]
theorem below_reader' {w w1 W : World} {p : Nat} (hb : Below w.heap.size w w1) (hg : w1.grownBy W (some p)) (hp : w.heap.size ≤ p) : Below w.heap.size w W :=
  ⟨hg.os.trans hb.os, hg.tape.trans hb.tape, hg.output.trans hb.output, Nat.le_trans hb.size hg.size, fun q hq => (hg.block q (Nat.lt_of_lt_of_le hq hb.size) (fun e => by injection e with e; omega)).trans (hb.block q hq)⟩
theorem vaIn_set5' {w W : World} {lo hi : Nat} {v : Value} {t : Va} (h : VaIn W (Span lo hi) v t) (hlo : w.heap.size + 1 ≤ lo) (hhi : hi ≤ W.heap.size) (a b c d e : Value) : VaIn (((((W.setCell ⟨w.heap.size, 0, none⟩ a).setCell ⟨w.heap.size, 1, none⟩ b).setCell ⟨w.heap.size, 2, none⟩ c).setCell ⟨w.heap.size, 3, none⟩ d).setCell ⟨w.heap.size, 4, none⟩ e) (Span w.heap.size (((((W.setCell ⟨w.heap.size, 0, none⟩ a).setCell ⟨w.heap.size, 1, none⟩ b).setCell ⟨w.heap.size, 2, none⟩ c).setCell ⟨w.heap.size, 3, none⟩ d).setCell ⟨w.heap.size, 4, none⟩ e).heap.size) v t :=
  (h.keep fun q hq _ => set5_keep _ _ _ _ _ _ _ _ (by have := hq.1; omega)).wide fun q hq => ⟨by have := hq.1; omega, by have := hq.2; simp [World.setCell]; omega⟩
theorem vzero_in (w : World) (S : Nat → Prop) : VaIn w S (.agg #[.int .i64 0, .int .i64 0, .string ⟨#[]⟩, .slice none 0 0, .slice none 0 0]) zeroVa := by
  have h := (OwnVa.leaf w 0 0 0 ⟨#[]⟩ (by decide)).owned
  exact .mk 0 1 (fun _ => .nilFunc) (fun _ _ => False) (by decide) (Nat.zero_le _) (fun i h => absurd h (by simp)) (Nat.zero_le _) (.inl rfl) (.inl rfl) (by decide) (fun i h => absurd h (by simp)) (fun i _ h => absurd h (by simp)) (fun i h => absurd h (by simp))
theorem rdVaS_sound8 {s : ByteArray} {t : Va} {r : List UInt8} (h : rdVaS 300 (restOf s 0) = some (t, r)) : restOf s 0 = txtV t ++ r ∧ szVa t + 1 ≤ (txtV t).length ∧ smallB t = true :=
  ⟨rdVa_sound 300 _ _ _ (rdVaS_to _ _ _ _ h), rdVa_sz 300 _ _ _ (rdVaS_to _ _ _ _ h), rdVa_small 300 _ _ _ (rdVaS_to _ _ _ _ h)⟩

set_option maxHeartbeats 4000000 in
set_option maxRecDepth 100000 in
theorem specParseV_any (s : ByteArray) (w : World) (hs : s.size ≤ 1048576) : Calls Tryz.prog 12 #[.string s] w (ParsePostV s w) := by
  obtain ⟨hb0, r0, q0, hs0⟩ := boxes2 w 27 53 #[.int .i64 0, .int .i64 0, .string ⟨#[]⟩, .slice none 0 0, .slice none 0 0] #[.string s, .int .i64 0, .bool false]
  have HT : V.TypeOne 300 1 := V.typeOne 300 (Nat.le_refl _)
  have hR : RdAt ((w.alloc (.cells #[.int .i64 0, .int .i64 0, .string ⟨#[]⟩, .slice none 0 0, .slice none 0 0] 27)).alloc (.cells #[.string s, .int .i64 0, .bool false] 53)) (w.heap.size + 1) s 0 false := ⟨q0, Nat.zero_le _⟩
  have HQ := Lib.hid hR
  have HRZ := Lib.hid r0
  have HSZ := Lib.hid hs0
  cases hrd : rdVaS 300 (restOf s 0) with
  | none =>
    have HNO : Hid (parseVB s = none) := Lib.hid (by
      rw [parseVB_S]
      rw [← rest_zero', hrd])
    have HC := Lib.hid (HT.bad _ _ 0 s false hR hs (.inr hrd))
    clear hR HT r0 q0 hs0 hrd
    go_enter Tryz.func12, Tryz.ntmps12
    go_wp2_with fail
    generalize (w.alloc (.cells #[.int .i64 0, .int .i64 0, .string ⟨#[]⟩, .slice none 0 0, .slice none 0 0] 27)).alloc (.cells #[.string s, .int .i64 0, .bool false] 53) = w1 at *
    refine HC.out.mono ?_
    rintro e w2 ⟨x, y, nm, L, n, lc, A, m, ac, j, rfl, hr2, hg2⟩
    have hb2 := below_reader' hb0 hg2 (by omega)
    have hzl := HRZ.out.lt
    have hz2 : V.ZeroBox w2 w.heap.size := (hg2.block w.heap.size hzl (fun e => by injection e with e; omega)).trans HRZ.out
    have hb3 := (Below.refl w2.heap.size w2).alloc (Nat.le_refl _) (.cells #[.int .i64 x, .int .i64 y, .string nm, .slice L n lc, .slice A m ac] 27)
    have hr3 := hr2.below hb3 hr2.lt
    have hz3 := hz2.below hb3 hz2.lt
    have hB3 := hb2.trans (hb3.mono hb2.size)
    clear hr2 hz2 hb3 hb2 hg2
    go_upto_region 3 with fail
    generalize w2.alloc (.cells #[.int .i64 x, .int .i64 y, .string nm, .slice L n lc, .slice A m ac] 27) = w3 at *
    have b2 : w3.cell? ⟨w.heap.size + 1, 2, none⟩ = some (.bool true) := Whole1.cell hr3.1 2
    have d0 : w3.cell? ⟨w.heap.size, 0, none⟩ = some (.int .i64 0) := (hz3).cell 0
    have d1 : w3.cell? ⟨w.heap.size, 1, none⟩ = some (.int .i64 0) := (hz3).cell 1
    have d2 : w3.cell? ⟨w.heap.size, 2, none⟩ = some (.string ⟨#[]⟩) := (hz3).cell 2
    have d3 : w3.cell? ⟨w.heap.size, 3, none⟩ = some (.slice none 0 0) := (hz3).cell 3
    have d4 : w3.cell? ⟨w.heap.size, 4, none⟩ = some (.slice none 0 0) := (hz3).cell 4
    have f0 : w3.frozen? ⟨w.heap.size, 0, none⟩ = false := (hz3).free 0
    have f1 : w3.frozen? ⟨w.heap.size, 1, none⟩ = false := (hz3).free 1
    have f2 : w3.frozen? ⟨w.heap.size, 2, none⟩ = false := (hz3).free 2
    have f3 : w3.frozen? ⟨w.heap.size, 3, none⟩ = false := (hz3).free 3
    have f4 : w3.frozen? ⟨w.heap.size, 4, none⟩ = false := (hz3).free 4
    have HB3 := Lib.hid hB3
    clear hr3 hz3 hB3
    go_wp2
    exact bodyPost_ret (v := .tuple #[.agg #[.int .i64 0, .int .i64 0, .string ⟨#[]⟩, .slice none 0 0, .slice none 0 0], .bool false]) (by simp [results, Tryz.results12, go_sem, d0, d1, d2, d3, d4]) rfl ⟨_, by rw [HNO.out]; rfl, by rw [HNO.out]; exact vzero_in _ _, ((((HB3.out.setCell (Nat.le_refl _) _).setCell (Nat.le_refl _) _).setCell (Nat.le_refl _) _).setCell (Nat.le_refl _) _).setCell (Nat.le_refl _) _⟩
  | some tr =>
    obtain ⟨t, r⟩ := tr
    have hsd := rdVaS_sound8 hrd
    rw [rest_zero'] at hsd
    have hlen : (txtV t).length ≤ s.size := by
      have h1 := congrArg List.length hsd.1
      rw [List.length_append] at h1
      have h2 : s.data.toList.length = s.size := by simp
      omega
    have HSD := Lib.hid hsd.1
    have hszt : szVa t ≤ 1048576 := by have := hsd.2.1; omega
    have hnum := smallB_nums t hsd.2.2
    have hpos : 1 ≤ s.size := by have := hsd.2.1; omega
    have HRD := Lib.hid hrd
    have HC := Lib.hid (HT.good _ _ 0 s t r hR hs hrd)
    clear hR HT r0 q0 hs0 hrd hsd
    go_enter Tryz.func12, Tryz.ntmps12
    go_wp2_with fail
    generalize (w.alloc (.cells #[.int .i64 0, .int .i64 0, .string ⟨#[]⟩, .slice none 0 0, .slice none 0 0] 27)).alloc (.cells #[.string s, .int .i64 0, .bool false] 53) = w1 at *
    refine HC.out.mono ?_
    rintro e w2 ⟨v, j, rfl, hrr, hr2, hO2, hg2⟩
    have hI2 := hO2.owned
    obtain ⟨L, lc, A, ac, rfl⟩ := hO2.open
    have hb2 := below_reader' hb0 hg2 (by omega)
    have hzl := HRZ.out.lt
    have hs1 := hb0.size
    have hz2 : V.ZeroBox w2 w.heap.size := (hg2.block w.heap.size hzl (fun e => by injection e with e; omega)).trans HRZ.out
    obtain ⟨hb3, t3, hs3⟩ := boxes1 w2 27 #[.int .i64 t.kind, .int .i64 t.num, .string t.name, .slice L t.labels.length lc, .slice A t.args.length ac]
    have hr3 := hr2.below hb3 hr2.lt
    have hz3 := hz2.below hb3 hz2.lt
    have hB3 := hb2.trans (hb3.mono hb2.size)
    have hI3 := hI2.keep (w' := w2.alloc (.cells #[.int .i64 t.kind, .int .i64 t.num, .string t.name, .slice L t.labels.length lc, .slice A t.args.length ac] 27)) fun b hb hl => hb3.block b hl
    have hg2s := hg2.size
    clear hr2 hz2 hb2 hg2 hI2 hO2
    go_upto_region 3 with fail
    have HS3 := Lib.hid hs3
    clear hs3
    generalize w2.alloc (.cells #[.int .i64 t.kind, .int .i64 t.num, .string t.name, .slice L t.labels.length lc, .slice A t.args.length ac] 27) = w3 at *
    have hjl := hr3.2
    have b1 : w3.cell? ⟨w.heap.size + 1, 1, none⟩ = some (.int .i64 (j : Int)) := Whole1.cell hr3.1 1
    have b2 : w3.cell? ⟨w.heap.size + 1, 2, none⟩ = some (.bool false) := Whole1.cell hr3.1 2
    have e0 : w3.cell? ⟨w2.heap.size, 0, none⟩ = some (.int .i64 t.kind) := t3.cell 0
    have e1 : w3.cell? ⟨w2.heap.size, 1, none⟩ = some (.int .i64 t.num) := t3.cell 1
    have e2 : w3.cell? ⟨w2.heap.size, 2, none⟩ = some (.string t.name) := t3.cell 2
    have e3 : w3.cell? ⟨w2.heap.size, 3, none⟩ = some (.slice L t.labels.length lc) := t3.cell 3
    have e4 : w3.cell? ⟨w2.heap.size, 4, none⟩ = some (.slice A t.args.length ac) := t3.cell 4
    have HB3 := Lib.hid hB3
    have HT3 := Lib.hid t3
    have HZ3 := Lib.hid hz3
    have HI3 := Lib.hid hI3
    by_cases hj : j = s.size
    · subst hj
      have hr0 : r = [] := by rw [hrr]; exact restOf_end s _ (Nat.le_refl _)
      subst hr0
      have hst : s = ⟨(txtV t).toArray⟩ := by
        apply ByteArray.ext
        apply Array.toList_inj.1
        have := HSD.out
        rw [List.append_nil] at this
        rw [this]
      have HST := Lib.hid hst
      have HF := Lib.hid (specFormatV_any t _ w3 hI3.here hszt hnum)
      have hneq : ((s.size : Int) == (s.size : Int)) = true := by simp
      clear hB3 hr3 hz3 hI3 hst hrr t3
      go_wp2_with fail
      refine HF.out.mono ?_
      rintro e w4 ⟨rfl, hb4⟩
      have HB4 := Lib.hid (HB3.out.trans (hb4.mono HB3.out.size))
      have hz4 := HZ3.out.below hb4 HZ3.out.lt
      have HI4 := Lib.hid (HI3.out.keep fun b hb hl => hb4.block b hl)
      have hs4 := hb4.size
      have t4 := HT3.out.below hb4 HT3.out.lt
      have q0 : w4.cell? ⟨w2.heap.size, 0, none⟩ = some (.int .i64 t.kind) := t4.cell 0
      have q1 : w4.cell? ⟨w2.heap.size, 1, none⟩ = some (.int .i64 t.num) := t4.cell 1
      have q2 : w4.cell? ⟨w2.heap.size, 2, none⟩ = some (.string t.name) := t4.cell 2
      have q3 : w4.cell? ⟨w2.heap.size, 3, none⟩ = some (.slice L t.labels.length lc) := t4.cell 3
      have q4 : w4.cell? ⟨w2.heap.size, 4, none⟩ = some (.slice A t.args.length ac) := t4.cell 4
      have d0 : w4.cell? ⟨w.heap.size, 0, none⟩ = some (.int .i64 0) := (hz4).cell 0
      have d1 : w4.cell? ⟨w.heap.size, 1, none⟩ = some (.int .i64 0) := (hz4).cell 1
      have d2 : w4.cell? ⟨w.heap.size, 2, none⟩ = some (.string ⟨#[]⟩) := (hz4).cell 2
      have d3 : w4.cell? ⟨w.heap.size, 3, none⟩ = some (.slice none 0 0) := (hz4).cell 3
      have d4 : w4.cell? ⟨w.heap.size, 4, none⟩ = some (.slice none 0 0) := (hz4).cell 4
      have f0 : w4.frozen? ⟨w.heap.size, 0, none⟩ = false := (hz4).free 0
      have f1 : w4.frozen? ⟨w.heap.size, 1, none⟩ = false := (hz4).free 1
      have f2 : w4.frozen? ⟨w.heap.size, 2, none⟩ = false := (hz4).free 2
      have f3 : w4.frozen? ⟨w.heap.size, 3, none⟩ = false := (hz4).free 3
      have f4 : w4.frozen? ⟨w.heap.size, 4, none⟩ = false := (hz4).free 4
      have hs3 := HS3.out
      cases hvb : valueB t
      · have hfb : formatVB t = ⟨#[]⟩ := by unfold formatVB; rw [hvb]; rfl
        have HNO : Hid (parseVB s = none) := Lib.hid (by
          rw [parseVB_S]
          rw [← rest_zero', HRD.out]
          simp [hvb])
        have hne : ((formatVB t).toList == s.toList) = false := by
          rw [hfb, beq_eq_false_iff_ne, ByteArray.toList_eq, ByteArray.toList_eq]
          intro e
          have h1 := congrArg List.length e
          have h2 : s.data.toList.length = s.size := by simp
          rw [h2] at h1
          simp at h1
          omega
        clear hfb hvb hz4 t4 e0 e1 e2 e3 e4 b1 b2
        generalize formatVB t = fb at *
        go_wp2
        exact bodyPost_ret (v := .tuple #[.agg #[.int .i64 0, .int .i64 0, .string ⟨#[]⟩, .slice none 0 0, .slice none 0 0], .bool false]) (by simp [results, Tryz.results12, go_sem, d0, d1, d2, d3, d4]) rfl ⟨_, by rw [HNO.out]; rfl, by rw [HNO.out]; exact vzero_in _ _, ((((HB4.out.setCell (Nat.le_refl _) _).setCell (Nat.le_refl _) _).setCell (Nat.le_refl _) _).setCell (Nat.le_refl _) _).setCell (Nat.le_refl _) _⟩
      · have hfb : formatVB t = s := by unfold formatVB; rw [hvb, HST.out]; rfl
        have HYES : Hid (parseVB s = some t) := Lib.hid (by
          rw [parseVB_S]
          rw [← rest_zero', HRD.out]
          simp [hvb])
        have hne : ((formatVB t).toList == s.toList) = true := by rw [hfb]; simp
        clear hvb hz4 t4 e0 e1 e2 e3 e4 b1 b2
        generalize formatVB t = fb at *
        go_wp2
        exact bodyPost_ret (v := .tuple #[.agg #[.int .i64 t.kind, .int .i64 t.num, .string t.name, .slice L t.labels.length lc, .slice A t.args.length ac], .bool true]) (by simp [results, Tryz.results12, go_sem, d0, d1, d2, d3, d4]) rfl ⟨_, by rw [HYES.out]; rfl, by rw [HYES.out]; exact vaIn_set5' HI4.out (by omega) (by omega) _ _ _ _ _, ((((HB4.out.setCell (Nat.le_refl _) _).setCell (Nat.le_refl _) _).setCell (Nat.le_refl _) _).setCell (Nat.le_refl _) _).setCell (Nat.le_refl _) _⟩
    · have hneq : ((j : Int) == (s.size : Int)) = false := by rw [beq_eq_false_iff_ne]; omega
      have HNO : Hid (parseVB s = none) := Lib.hid (by
        have hne : r ≠ [] := by
          intro e
          have := congrArg List.length (hrr.symm.trans e)
          rw [restOf_len] at this
          simp at this
          omega
        rw [parseVB_S]
        rw [← rest_zero', HRD.out]
        cases r with
        | nil => exact absurd rfl hne
        | cons a q => rfl)
      have d0 : w3.cell? ⟨w.heap.size, 0, none⟩ = some (.int .i64 0) := (hz3).cell 0
      have d1 : w3.cell? ⟨w.heap.size, 1, none⟩ = some (.int .i64 0) := (hz3).cell 1
      have d2 : w3.cell? ⟨w.heap.size, 2, none⟩ = some (.string ⟨#[]⟩) := (hz3).cell 2
      have d3 : w3.cell? ⟨w.heap.size, 3, none⟩ = some (.slice none 0 0) := (hz3).cell 3
      have d4 : w3.cell? ⟨w.heap.size, 4, none⟩ = some (.slice none 0 0) := (hz3).cell 4
      have f0 : w3.frozen? ⟨w.heap.size, 0, none⟩ = false := (hz3).free 0
      have f1 : w3.frozen? ⟨w.heap.size, 1, none⟩ = false := (hz3).free 1
      have f2 : w3.frozen? ⟨w.heap.size, 2, none⟩ = false := (hz3).free 2
      have f3 : w3.frozen? ⟨w.heap.size, 3, none⟩ = false := (hz3).free 3
      have f4 : w3.frozen? ⟨w.heap.size, 4, none⟩ = false := (hz3).free 4
      clear hB3 hr3 hz3 hI3 t3
      go_wp2
      exact bodyPost_ret (v := .tuple #[.agg #[.int .i64 0, .int .i64 0, .string ⟨#[]⟩, .slice none 0 0, .slice none 0 0], .bool false]) (by simp [results, Tryz.results12, go_sem, d0, d1, d2, d3, d4]) rfl ⟨_, by rw [HNO.out]; rfl, by rw [HNO.out]; exact vzero_in _ _, ((((HB3.out.setCell (Nat.le_refl _) _).setCell (Nat.le_refl _) _).setCell (Nat.le_refl _) _).setCell (Nat.le_refl _) _).setCell (Nat.le_refl _) _⟩

end Go.Proofs.YtceclhndagoddaaGreatDoor
end

section
namespace Go.Proofs.YtceclhndagoddaaGreatDoor
open Go.RowKit

section
variable {P : Program} {K : Type}

/-- What the laws on a map need of its keys: they are those of enc; two that are ok are told apart in the worlds of Wd. -/
structure KeyKit (P : Program) (kt : TypeId) (enc : K → Value) (Wd : World → Prop) (Ok : K → Prop) : Prop where
  find : ∀ (w : World) (k : K) (es : List MapEntry), (Instr.findKey kt (enc k) es).run P w = (Instr.findAsking kt (enc k) es 0).run P w
  check : ∀ (w : World) (em : Bool) (k : K), (Instr.checkKey em 10000 kt (enc k)).run P w = .ok () w
  same : ∀ (w : World) (k : K), (Op.equal kt (enc k) (enc k)).run P w = .ok true w
  other : ∀ (w : World) (k k' : K), Wd w → Ok k → Ok k' → k ≠ k' → (Op.equal kt (enc k) (enc k')).run P w = .ok false w
  stays : ∀ (w : World) (k : K), (Instr.keyThatStays (enc k) (enc k)).run P w = .ok (enc k) w
  inj : ∀ k k' : K, enc k = enc k' → k = k'

variable {kt : TypeId} {enc : K → Value} {Wd : World → Prop} {Ok : K → Prop}

theorem KeyKit.ask (KK : KeyKit P kt enc Wd Ok) (w : World) (hw : Wd w) (k : K) (hk : Ok k) : ∀ (es : List MapEntry) (i : Nat), (∀ e ∈ es, ∃ k', Ok k' ∧ e.key = enc k') →
    ((Instr.findAsking kt (enc k) es i).run P w = .ok none w ∧ ∀ e ∈ es, e.key ≠ enc k) ∨ ∃ j e, (Instr.findAsking kt (enc k) es i).run P w = .ok (some (i + j, e.val)) w ∧ es[j]? = some e ∧ e.key = enc k
  | [], i, _ => .inl ⟨by simp [Instr.findAsking], by simp⟩
  | e :: es, i, hall => by
    obtain ⟨k', hk', he⟩ := hall e (by simp)
    by_cases hkk : k = k'
    · subst hkk
      exact .inr ⟨0, e, by simp [Instr.findAsking, he, KK.same], rfl, he⟩
    · have ho := KK.other w k k' hw hk hk' hkk
      rcases KK.ask w hw k hk es (i + 1) (fun y hy => hall y (by simp [hy])) with ⟨h1, h2⟩ | ⟨j, e', h1, h2, h3⟩
      · refine .inl ⟨by simp [Instr.findAsking, he, ho, h1], fun y hy => ?_⟩
        rcases List.mem_cons.1 hy with rfl | hy
        · rw [he]
          exact fun h => hkk (KK.inj _ _ h.symm)
        · exact h2 y hy
      · exact .inr ⟨j + 1, e', by simp [Instr.findAsking, he, ho, h1, Nat.add_assoc, Nat.add_comm 1 j], by simpa using h2, h3⟩

/-- The map in block b has at each key what F says. -/
def Known (enc : K → Value) (Ok : K → Prop) (w : World) (b : Nat) (F : K → Option Value) : Prop :=
  ∃ es clock, w.heap[b]? = some (.map es clock) ∧ (∀ e ∈ es.toList, ∃ k, Ok k ∧ e.key = enc k ∧ F k = some e.val) ∧ (∀ k v, F k = some v → ∃ e ∈ es.toList, e.key = enc k) ∧ es.toList.Pairwise (fun x y => x.key ≠ y.key)

theorem Known.keep {w w' : World} {b : Nat} {F : K → Option Value} (h : Known enc Ok w b F) (hk : w'.heap[b]? = w.heap[b]?) : Known enc Ok w' b F := by
  obtain ⟨es, clock, h1, h2⟩ := h
  exact ⟨es, clock, hk.trans h1, h2⟩
theorem Known.lt {w : World} {b : Nat} {F : K → Option Value} (h : Known enc Ok w b F) : b < w.heap.size := by
  obtain ⟨es, clock, h1, _⟩ := h
  exact (Array.getElem?_eq_some_iff.1 h1).1
theorem Known.new (w : World) : Known enc Ok (w.alloc (.map #[] 0)) w.heap.size (fun _ => none) :=
  ⟨#[], 0, heap_alloc_new w _, fun e he => absurd he (by simp), fun k v h => (by cases h), List.Pairwise.nil⟩
theorem Known.nocell {w : World} {b : Nat} {F : K → Option Value} (h : Known enc Ok w b F) (p : Addr) (hp : p.block = b) : w.cell? p = none := by
  obtain ⟨es, clock, h1, _⟩ := h
  simp [World.cell?, hp, h1]

theorem Known.look (KK : KeyKit P kt enc Wd Ok) {T et : TypeId} (ht : P.underlying T = some (.map kt et)) {w : World} {z : Value} (hz : (zeroValue et).run P w = .ok z w) {b : Nat} {F : K → Option Value} (h : Known enc Ok w b F) (hw : Wd w) {k : K} (hk : Ok k) :
    (Instr.lookup T (.map (some b)) (enc k) true).run P w = .ok (.tuple #[(F k).getD z, .bool (F k).isSome]) w := by
  obtain ⟨es, clock, h1, h2, h3, h4⟩ := h
  rcases KK.ask w hw k hk es.toList 0 (fun e he => (h2 e he).imp fun k' hk' => ⟨hk'.1, hk'.2.1⟩) with ⟨r1, r2⟩ | ⟨j, e, r1, r2, r3⟩
  · have hF : F k = none := by
      cases hF : F k with
      | none => rfl
      | some v =>
        obtain ⟨e, he, hek⟩ := h3 k v hF
        exact absurd hek (r2 e he)
    simp [Instr.lookup, run_underlying ht, MapKept.run_getObj_map h1, KK.check, KK.find, r1, Result.andThen, hz, hF]
  · have hm := List.mem_of_getElem? r2
    obtain ⟨k', _, hk2, hF⟩ := h2 e hm
    have : k' = k := KK.inj _ _ (hk2.symm.trans r3)
    subst this
    simp [Instr.lookup, run_underlying ht, MapKept.run_getObj_map h1, KK.check, KK.find, r1, Result.andThen, hF]

/-- Without ok. -/
theorem Known.look1 (KK : KeyKit P kt enc Wd Ok) {T et : TypeId} (ht : P.underlying T = some (.map kt et)) {w : World} {z : Value} (hz : (zeroValue et).run P w = .ok z w) {b : Nat} {F : K → Option Value} (h : Known enc Ok w b F) (hw : Wd w) {k : K} (hk : Ok k) :
    (Instr.lookup T (.map (some b)) (enc k) false).run P w = .ok ((F k).getD z) w := by
  obtain ⟨es, clock, h1, h2, h3, h4⟩ := h
  rcases KK.ask w hw k hk es.toList 0 (fun e he => (h2 e he).imp fun k' hk' => ⟨hk'.1, hk'.2.1⟩) with ⟨r1, r2⟩ | ⟨j, e, r1, r2, r3⟩
  · have hF : F k = none := by
      cases hF : F k with
      | none => rfl
      | some v =>
        obtain ⟨e, he, hek⟩ := h3 k v hF
        exact absurd hek (r2 e he)
    simp [Instr.lookup, run_underlying ht, MapKept.run_getObj_map h1, KK.check, KK.find, r1, Result.andThen, hz, hF]
  · have hm := List.mem_of_getElem? r2
    obtain ⟨k', _, hk2, hF⟩ := h2 e hm
    have : k' = k := KK.inj _ _ (hk2.symm.trans r3)
    subst this
    simp [Instr.lookup, run_underlying ht, MapKept.run_getObj_map h1, KK.check, KK.find, r1, Result.andThen, hF]

open Classical in
noncomputable def put (F : K → Option Value) (k : K) (v : Value) : K → Option Value := fun x => if x = k then some v else F x
theorem put_same (F : K → Option Value) (k : K) (v : Value) : put F k v k = some v := by simp [put]
theorem put_other (F : K → Option Value) (k x : K) (v : Value) (h : x ≠ k) : put F k v x = F x := by simp [put, h]

/-- A store: only the map's block turns, and it stays a map. -/
def MapOnly (b : Nat) (w w' : World) : Prop := w.grownBy w' (some b) ∧ w'.heap.size = w.heap.size

theorem Known.store (KK : KeyKit P kt enc Wd Ok) {T et : TypeId} (ht : P.underlying T = some (.map kt et)) {w : World} {b : Nat} {F : K → Option Value} (h : Known enc Ok w b F) (hw : Wd w) {k : K} (hk : Ok k) (v : Value) :
    ∃ w', (Instr.mapUpdate T (.map (some b)) (enc k) v).run P w = .ok () w' ∧ Known enc Ok w' b (put F k v) ∧ MapOnly b w w' := by
  obtain ⟨es, clock, h1, h2, h3, h4⟩ := h
  have hblk : ∀ o, MapOnly b w (Go.ChangeMaps.setBlock w b o) := fun o => ⟨⟨rfl, rfl, rfl, by simp [Go.ChangeMaps.setBlock], fun i _ hi => Go.ChangeMaps.heap_setBlock_other h1 _ (fun e => hi (by rw [e]))⟩, by simp [Go.ChangeMaps.setBlock]⟩
  rcases KK.ask w hw k hk es.toList 0 (fun e he => (h2 e he).imp fun k' hk' => ⟨hk'.1, hk'.2.1⟩) with ⟨r1, r2⟩ | ⟨j, e, r1, r2, r3⟩
  · refine ⟨Go.ChangeMaps.setBlock w b (.map (es.push { key := enc k, val := v, born := clock }) (clock + 1)), by simp [Instr.mapUpdate, run_underlying ht, MapKept.run_getObj_map h1, KK.check, KK.find, r1, Result.andThen, MapKept.run_setObj_map _ h1, Go.ChangeMaps.setBlock], ⟨_, _, Go.ChangeMaps.heap_setBlock_same h1 _, fun x hx => ?_, fun x u hx => ?_, ?_⟩, hblk _⟩
    · simp only [Array.toList_push, List.mem_append, List.mem_singleton] at hx
      rcases hx with hx | rfl
      · obtain ⟨k', a1, a2, a3⟩ := h2 x hx
        exact ⟨k', a1, a2, by rw [put_other _ _ _ _ (fun e => r2 x hx (by rw [a2, e])), a3]⟩
      · exact ⟨k, hk, rfl, put_same _ _ _⟩
    · by_cases hxk : x = k
      · subst hxk
        exact ⟨_, by simp only [Array.toList_push, List.mem_append, List.mem_singleton]; exact .inr rfl, rfl⟩
      · rw [put_other _ _ _ _ hxk] at hx
        obtain ⟨y, hy, hyk⟩ := h3 x u hx
        exact ⟨y, by simp only [Array.toList_push, List.mem_append]; exact .inl hy, hyk⟩
    · simp only [Array.toList_push]
      refine List.pairwise_append.2 ⟨h4, by simp, fun x hx y hy => ?_⟩
      simp only [List.mem_singleton] at hy
      subst hy
      exact r2 x hx
  · have hj : es[j]? = some e := by simpa using r2
    have hjl : j < es.size := (Array.getElem?_eq_some_iff.1 hj).1
    have hmod : ∀ x, x ∈ (es.modify j fun e => { e with key := enc k, val := v }).toList → (x.key = enc k ∧ x.val = v) ∨ (x ∈ es.toList ∧ x.key ≠ enc k) := by
      intro x hx
      obtain ⟨i, hi, hxi⟩ := List.getElem_of_mem hx
      have hi' : i < es.size := by simpa using hi
      simp only [Array.getElem_toList, Array.getElem_modify] at hxi
      by_cases hij : j = i
      · rw [if_pos hij] at hxi
        subst hxi
        exact .inl ⟨rfl, rfl⟩
      · rw [if_neg hij] at hxi
        subst hxi
        refine .inr ⟨by simp, fun hk' => ?_⟩
        have he : es[j] = e := by
          have := (Array.getElem?_eq_some_iff.1 hj).2
          exact this
        have hne := List.pairwise_iff_getElem.1 h4
        rcases Nat.lt_or_gt_of_ne hij with hlt | hlt
        · exact hne j i (by simpa using hjl) (by simpa using hi') hlt (by simp only [Array.getElem_toList]; rw [he, r3, hk'])
        · exact hne i j (by simpa using hi') (by simpa using hjl) hlt (by simp only [Array.getElem_toList]; rw [he, r3, hk'])
    have hkeys : (es.modify j fun e => { e with key := enc k, val := v }).toList.map (·.key) = es.toList.map (·.key) := MapKept.modify_keys j _ (fun e' he' => by rw [hj] at he'; cases he'; exact r3.symm)
    refine ⟨Go.ChangeMaps.setBlock w b (.map (es.modify j fun e => { e with key := enc k, val := v }) clock), by simp [Instr.mapUpdate, run_underlying ht, MapKept.run_getObj_map h1, KK.check, KK.find, r1, Result.andThen, hj, r3, KK.stays, MapKept.run_setObj_map _ h1, Go.ChangeMaps.setBlock], ⟨_, _, Go.ChangeMaps.heap_setBlock_same h1 _, fun x hx => ?_, fun x u hx => ?_, ?_⟩, hblk _⟩
    · rcases hmod x hx with ⟨a1, a2⟩ | ⟨a1, a2⟩
      · exact ⟨k, hk, a1, by rw [put_same, a2]⟩
      · obtain ⟨k', b1, b2, b3⟩ := h2 x a1
        exact ⟨k', b1, b2, by rw [put_other _ _ _ _ (fun e => a2 (by rw [b2, e])), b3]⟩
    · have : enc x ∈ (es.modify j fun e => { e with key := enc k, val := v }).toList.map (·.key) := by
        rw [hkeys]
        by_cases hxk : x = k
        · subst hxk
          exact List.mem_map.2 ⟨e, List.mem_of_getElem? r2, r3⟩
        · rw [put_other _ _ _ _ hxk] at hx
          obtain ⟨y, hy, hyk⟩ := h3 x u hx
          exact List.mem_map.2 ⟨y, hy, hyk⟩
      obtain ⟨y, hy, hyk⟩ := List.mem_map.1 this
      exact ⟨y, hy, hyk⟩
    · have h4' : (es.toList.map (·.key)).Pairwise (· ≠ ·) := List.pairwise_map.2 h4
      rw [← hkeys] at h4'
      exact List.pairwise_map.1 h4'

end

end Go.Proofs.YtceclhndagoddaaGreatDoor

namespace Go.Proofs.YtceclhndagoddaaGreatDoor
open Go.RowKit

abbrev Pl := Option (Nat × Nat)
def plVal : Pl → Value
  | none => .agg #[.pointer none, .int .i64 0]
  | some (g, n) => .agg #[.pointer (some ⟨g, 0, none⟩), .int .i64 n]
def PlWd (w1 : World) (B mb : Nat) (w : World) : Prop := ∀ g, g < B → g ≠ mb → w.heap[g]? = w1.heap[g]?
def PlOk (w1 : World) (B mb : Nat) (k : Pl) : Prop := ∀ g n, k = some (g, n) → g < B ∧ g ≠ mb ∧ ∃ cs t, w1.heap[g]? = some (.cells cs t (0, 0))

theorem pl_size : (Tryz.prog.info? 58).map (fun i => i.size) = some 3 := by kernel_rfl

theorem run_isAgg_plain {P : Program} (w : World) (t : TypeId) (d : TypeDesc) (h : P.underlying t = some d) (hd : (match d with | .struct _ | .array _ _ => false | _ => true) = true) : (isAgg t).run P w = .ok false w := by
  cases d <;> simp_all [isAgg, run_underlying h, Result.andThen]

theorem run_pl_part1 (w : World) (a b : Value) : (part 3 #[a, b] 1).run Tryz.prog w = .ok b w := by
  simp [part, run_isAgg_plain w 3 _ Tryz.underlying3 rfl, Result.andThen]

theorem run_sizeOf_ty (w : World) : ∃ n, n ≠ 0 ∧ (sizeOf 58).run Tryz.prog w = .ok n w := by
  have h := pl_size
  cases hi : Tryz.prog.info? 58 with
  | none => rw [hi] at h; cases h
  | some i =>
    rw [hi] at h
    simp at h
    exact ⟨i.size, by omega, by simp [sizeOf, typeInfo, hi, Result.andThen]⟩

theorem plVal_inj (k k' : Pl) (h : plVal k = plVal k') : k = k' := by
  match k, k', h with
  | none, none, _ => rfl
  | none, some (g, n), h => simp [plVal] at h
  | some (g, n), none, h => simp [plVal] at h
  | some (g, n), some (g', n'), h =>
    simp [plVal] at h
    obtain ⟨rfl, h2⟩ := h
    rw [show n = n' by omega]

theorem findKey_wide {P : Program} {kt : TypeId} {d : TypeDesc} (hd : P.underlying kt = some d) (hw : (match d with | .struct _ | .array _ _ => true | _ => false) = true) (w : World) (x : Value) (es : List MapEntry) : (Instr.findKey kt x es).run P w = (Instr.findAsking kt x es 0).run P w := by
  cases es with
  | nil => simp [Instr.findKey, run_underlying hd, Result.andThen, Instr.findNow, Instr.findAsking]
  | cons e r =>
    have : Instr.sameNow d x e.key = none := by
      cases d <;> simp_all [Instr.sameNow]
    simp [Instr.findKey, run_underlying hd, Result.andThen, Instr.findNow, this]

theorem stays_agg {P : Program} (w : World) (cs : Array Value) (h : ∀ v ∈ cs.toList, Instr.sameBits 9999 v v = true) : (Instr.keyThatStays (.agg cs) (.agg cs)).run P w = .ok (.agg cs) w := by
  have hs : Instr.sameBits 10000 (.agg cs) (.agg cs) = true := by
    show Instr.sameBits (9999 + 1) (.agg cs) (.agg cs) = true
    simp only [Instr.sameBits, beq_self_eq_true, Bool.true_and, List.all_eq_true]
    intro p hp
    obtain ⟨i, hi, e⟩ := List.getElem_of_mem hp
    rw [List.getElem_zip] at e
    rw [← e]
    exact h _ (List.getElem_mem _)
  simp [Instr.keyThatStays, hs]

end Go.Proofs.YtceclhndagoddaaGreatDoor
end

section
namespace Go.Proofs.YtceclhndagoddaaGreatDoor.V
open Go.RowKit

theorem pl_held : Tryz.prog.stoodInHeld 83 = false := by kernel_rfl
theorem pl_fields : (Tryz.prog.fieldsOf 83).toList.map (fun f => (f.name, f.type, f.offset)) = [("first", 81, 0), ("count", 3, 1)] := by kernel_rfl
theorem pl_struct : Tryz.prog.underlying 83 = some (.struct (Tryz.prog.fieldsOf 83)) := by kernel_rfl
theorem pl_size : (Tryz.prog.info? 27).map (fun i => i.size) = some 5 := by kernel_rfl

theorem pl_fields2 : ∃ f0 f1 : Field, (Tryz.prog.fieldsOf 83).toList = [f0, f1] ∧ f0.name = "first" ∧ f0.type = 81 ∧ f0.offset = 0 ∧ f1.name = "count" ∧ f1.type = 3 ∧ f1.offset = 1 := by
  have h := pl_fields
  generalize (Tryz.prog.fieldsOf 83).toList = l at h
  have hlen : l.length = 2 := by simpa using congrArg List.length h
  match l, hlen with
  | [f0, f1], _ =>
    simp at h
    exact ⟨f0, f1, rfl, h.1.1, h.1.2.1, h.1.2.2, h.2.1, h.2.2.1, h.2.2.2⟩

theorem run_pl_part0 (w : World) (a b : Value) : (part 81 #[a, b] 0).run Tryz.prog w = .ok a w := by
  simp [part, run_isAgg_plain w 81 _ Tryz.underlying81 rfl, Result.andThen]
theorem run_pl_part1 (w : World) (a b : Value) : (part 3 #[a, b] 1).run Tryz.prog w = .ok b w := by
  simp [part, run_isAgg_plain w 3 _ Tryz.underlying3 rfl, Result.andThen]

theorem run_sizeOf_ty (w : World) : ∃ n, n ≠ 0 ∧ (sizeOf 27).run Tryz.prog w = .ok n w := by
  have h := pl_size
  cases hi : Tryz.prog.info? 27 with
  | none => rw [hi] at h; cases h
  | some i =>
    rw [hi] at h
    simp at h
    exact ⟨i.size, by omega, by simp [sizeOf, typeInfo, hi, Result.andThen]⟩

theorem run_pl_eq (w : World) (d : Nat) (p q : Option Addr) (m n : Int) (r : Bool) (hp : (Op.equalIn (d + 1) 81 (.pointer p) (.pointer q)).run Tryz.prog w = .ok r w) :
    (Op.equalIn (d + 2) 83 (.agg #[.pointer p, .int .i64 m]) (.agg #[.pointer q, .int .i64 n])).run Tryz.prog w = .ok (r && m == n) w := by
  rw [run_equalIn_struct w (d + 1) _ _ _ pl_struct pl_held]
  obtain ⟨f0, f1, hl, n0, t0, o0, n1, t1, o1⟩ := pl_fields2
  rw [hl]
  have he := run_equalIn_int (P := Tryz.prog) w d 3 .i64 _ m n Tryz.underlying3
  by_cases hmn : m = n
  · subst hmn
    cases r <;> simp [Op.eqFields, n0, t0, o0, n1, t1, o1, run_pl_part0, run_pl_part1, hp, he, Result.andThen]
  · have hb : (m == n) = false := by simp [hmn]
    cases r <;> simp [Op.eqFields, n0, t0, o0, n1, t1, o1, run_pl_part0, run_pl_part1, hp, he, Result.andThen, hb]

theorem run_ptr_nil (w : World) (d : Nat) : (Op.equalIn (d + 1) 81 (.pointer none) (.pointer none)).run Tryz.prog w = .ok true w := by
  simp [Op.equalIn, run_underlying Tryz.underlying81, Result.andThen]
theorem run_ptr_nil1 (w : World) (d : Nat) (a : Addr) : (Op.equalIn (d + 1) 81 (.pointer none) (.pointer (some a))).run Tryz.prog w = .ok false w := by
  simp [Op.equalIn, run_underlying Tryz.underlying81, Result.andThen]
theorem run_ptr_nil2 (w : World) (d : Nat) (a : Addr) : (Op.equalIn (d + 1) 81 (.pointer (some a)) (.pointer none)).run Tryz.prog w = .ok false w := by
  simp [Op.equalIn, run_underlying Tryz.underlying81, Result.andThen]
theorem run_ptr_same (w : World) (d : Nat) (a : Addr) : (Op.equalIn (d + 1) 81 (.pointer (some a)) (.pointer (some a))).run Tryz.prog w = .ok true w := by
  obtain ⟨n, h0, h1⟩ := run_sizeOf_ty w
  simp [Op.equalIn, run_underlying Tryz.underlying81, Result.andThen, h0, h1, run_sameAddr_same]
theorem run_ptr_other (w : World) (d : Nat) {a b : Addr} {ca cb : Array Value} {ta tb : TypeId} (hne : a ≠ b) (ha : w.heap[a.block]? = some (.cells ca ta (0, 0))) (hb : w.heap[b.block]? = some (.cells cb tb (0, 0))) : (Op.equalIn (d + 1) 81 (.pointer (some a)) (.pointer (some b))).run Tryz.prog w = .ok false w := by
  obtain ⟨n, h0, h1⟩ := run_sizeOf_ty w
  simp [Op.equalIn, run_underlying Tryz.underlying81, Result.andThen, h0, h1, run_sameAddr_other w hne ha hb]

theorem pl_eq_same (w : World) (d : Nat) (k : Pl) : (Op.equalIn (d + 2) 83 (plVal k) (plVal k)).run Tryz.prog w = .ok true w := by
  cases k with
  | none => simpa [plVal] using run_pl_eq w d none none 0 0 true (run_ptr_nil w d)
  | some p => simpa [plVal] using run_pl_eq w d (some ⟨p.1, 0, none⟩) (some ⟨p.1, 0, none⟩) p.2 p.2 true (run_ptr_same w d _)
theorem pl_eq_other {w1 : World} {B mb : Nat} (w : World) (d : Nat) (k k' : Pl) (hw : PlWd w1 B mb w) (hk : PlOk w1 B mb k) (hk' : PlOk w1 B mb k') (hne : k ≠ k') : (Op.equalIn (d + 2) 83 (plVal k) (plVal k')).run Tryz.prog w = .ok false w := by
  match k, k', hk, hk', hne with
  | none, none, _, _, h => exact absurd rfl h
  | none, some (g, n), _, _, _ => simpa [plVal] using run_pl_eq w d none (some ⟨g, 0, none⟩) 0 n false (run_ptr_nil1 w d _)
  | some (g, n), none, _, _, _ => simpa [plVal] using run_pl_eq w d (some ⟨g, 0, none⟩) none n 0 false (run_ptr_nil2 w d _)
  | some (g, n), some (g', n'), hk, hk', hne =>
    by_cases hg : g = g'
    · subst hg
      have hn : ((n : Int) == (n' : Int)) = false := by
        rw [beq_eq_false_iff_ne]
        intro e
        exact hne (by rw [show n = n' by omega])
      simpa [plVal, hn] using run_pl_eq w d (some ⟨g, 0, none⟩) (some ⟨g, 0, none⟩) n n' true (run_ptr_same w d _)
    · obtain ⟨b1, b2, cs, t, b3⟩ := hk g n rfl
      obtain ⟨c1, c2, cs', t', c3⟩ := hk' g' n' rfl
      simpa [plVal] using run_pl_eq w d (some ⟨g, 0, none⟩) (some ⟨g', 0, none⟩) n n' false (run_ptr_other w d (a := ⟨g, 0, none⟩) (b := ⟨g', 0, none⟩) (fun e => hg (by injection e)) ((hw g b1 b2).trans b3) ((hw g' c1 c2).trans c3))

theorem pl_check (w : World) (em : Bool) (n : Nat) (k : Pl) : (Instr.checkKey em (n + 2) 83 (plVal k)).run Tryz.prog w = .ok () w := by
  have h2 : ∀ a b : Value, (∃ p m, a = .pointer p ∧ b = .int .i64 m) → (Instr.checkKey em (n + 2) 83 (.agg #[a, b])).run Tryz.prog w = .ok () w := by
    rintro a b ⟨p, m, rfl, rfl⟩
    obtain ⟨f0, f1, hl, n0, t0, o0, n1, t1, o1⟩ := pl_fields2
    have c0 : (Instr.checkKey em (n + 1) 81 (.pointer p)).run Tryz.prog w = .ok () w := by simp [Instr.checkKey, run_underlying Tryz.underlying81, Result.andThen]
    have c1 : (Instr.checkKey em (n + 1) 3 (.int .i64 m)).run Tryz.prog w = .ok () w := by simp [Instr.checkKey, run_underlying Tryz.underlying3, Result.andThen]
    unfold Instr.checkKey
    simp only [Sem.run_bind, run_underlying pl_struct, Result.andThen_ok]
    rw [← Array.forIn_toList, hl]
    simp [n0, t0, o0, n1, t1, o1, run_pl_part0, run_pl_part1, c0, c1, Result.andThen]
  match k with
  | none => exact h2 _ _ ⟨_, _, rfl, rfl⟩
  | some (g, m) => exact h2 _ _ ⟨_, _, rfl, rfl⟩

/-- Places as keys. -/
theorem plKit (w1 : World) (B mb : Nat) : KeyKit Tryz.prog 83 plVal (PlWd w1 B mb) (PlOk w1 B mb) where
  find := fun w k es => findKey_wide pl_struct rfl w _ es
  check := fun w em k => pl_check w em 9998 k
  same := fun w k => pl_eq_same w 9998 k
  other := fun w k k' hw hk hk' hne => pl_eq_other w 9998 k k' hw hk hk' hne
  stays := fun w k => by
    match k with
    | none => exact stays_agg w _ (by simp [Instr.sameBits])
    | some (g, n) => exact stays_agg w _ (by simp [Instr.sameBits])
  inj := plVal_inj

end Go.Proofs.YtceclhndagoddaaGreatDoor.V
end
