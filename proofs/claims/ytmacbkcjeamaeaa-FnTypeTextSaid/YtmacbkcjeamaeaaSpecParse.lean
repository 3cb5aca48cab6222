/- spec.ParseType gives the valid tree of a text. -/
import Derived.Test.YtmacbkcjeamaeaaReadTy
import Derived.Test.YtmacbkcjeamaeaaSpecText
import Derived.Test.YtmacbkcjeamaeaaSpecPart
namespace Go.Proofs.Ytmacbkcjeamaeaa
open Go.RowKit
attribute [local go_sem ↓] Go.wp_at_zero Go.wp_at_succ

/-- The tree of the text, or nothing, is handed back. -/
def ParsePost (s : ByteArray) (w : World) (e : Ending) (w' : World) : Prop :=
  ∃ v, e = .returned (.tuple #[v, .bool (parseB s).isSome]) ∧ TyIn w' (Span w.heap.size w'.heap.size) v ((parseB s).getD zeroTy) ∧ Below w.heap.size w w'

theorem rest_zero (s : ByteArray) : restOf s 0 = s.data.toList := by simp [restOf]
theorem below_reader {w w1 W : World} {p : Nat} (hb : Below w.heap.size w w1) (hg : w1.grownBy W (some p)) (hp : w.heap.size ≤ p) : Below w.heap.size w W :=
  ⟨hg.os.trans hb.os, hg.tape.trans hb.tape, hg.output.trans hb.output, Nat.le_trans hb.size hg.size, fun q hq => (hg.block q (Nat.lt_of_lt_of_le hq hb.size) (fun e => by injection e with e; omega)).trans (hb.block q hq)⟩

theorem tyIn_set3' {w W : World} {lo hi : Nat} {v : Value} {t : Ty} (h : TyIn W (Span lo hi) v t) (hlo : w.heap.size + 1 ≤ lo) (hhi : hi ≤ W.heap.size) (a b c : Value) : TyIn (((W.setCell ⟨w.heap.size, 0, none⟩ a).setCell ⟨w.heap.size, 1, none⟩ b).setCell ⟨w.heap.size, 2, none⟩ c) (Span w.heap.size (((W.setCell ⟨w.heap.size, 0, none⟩ a).setCell ⟨w.heap.size, 1, none⟩ b).setCell ⟨w.heap.size, 2, none⟩ c).heap.size) v t :=
  (h.keep fun q hq _ => set3_keep _ _ _ _ _ _ (by have := hq.1; omega)).wide fun q hq => ⟨by have := hq.1; omega, by have := hq.2; simp [World.setCell]; omega⟩

set_option maxHeartbeats 4000000 in
set_option maxRecDepth 100000 in
theorem specParse_any (s : ByteArray) (w : World) (hs : s.size ≤ 1048576) : Calls Try.prog 16 #[.string s] w (ParsePost s w) := by
  obtain ⟨hb0, r0, q0, hs0⟩ := boxes2 w 27 63 #[.int .i64 0, .slice none 0 0, .slice none 0 0] #[.string s, .int .i64 0, .bool false]
  have HT : TypeOne 8 1 := typeOne 8 (Nat.le_refl _)
  have hR : RdAt ((w.alloc (.cells #[.int .i64 0, .slice none 0 0, .slice none 0 0] 27)).alloc (.cells #[.string s, .int .i64 0, .bool false] 63)) (w.heap.size + 1) s 0 false := ⟨q0, Nat.zero_le _⟩
  have HQ := Lib.hid hR
  have HRZ := Lib.hid r0
  have HSZ := Lib.hid hs0
  cases hrd : rdTy 8 (restOf s 0) with
  | none =>
    have HNO : Hid (parseB s = none) := Lib.hid (by
      unfold parseB
      rw [← rest_zero, hrd])
    have HC := Lib.hid (HT.bad _ _ 0 s false hR hs (.inr hrd))
    clear hR HT r0 q0 hs0 hrd
    go_enter Try.func16, Try.ntmps16
    go_wp2_with fail
    generalize (w.alloc (.cells #[.int .i64 0, .slice none 0 0, .slice none 0 0] 27)).alloc (.cells #[.string s, .int .i64 0, .bool false] 63) = w1 at *
    refine HC.out.mono ?_
    rintro e w2 ⟨x, L, n, lc, A, m, ac, j, rfl, hr2, hg2⟩
    have hb2 := below_reader hb0 hg2 (by omega)
    have hzl := HRZ.out.lt
    have hz2 : ZeroBox w2 w.heap.size := (hg2.block w.heap.size hzl (fun e => by injection e with e; omega)).trans HRZ.out
    have hb3 := (Below.refl w2.heap.size w2).alloc (Nat.le_refl _) (.cells #[.int .i64 x, .slice L n lc, .slice A m ac] 27)
    have hr3 := hr2.below hb3 hr2.lt
    have hz3 := hz2.below hb3 hz2.lt
    have hB3 := hb2.trans (hb3.mono hb2.size)
    clear hr2 hz2 hb3 hb2 hg2
    go_upto_region 3 with fail
    generalize w2.alloc (.cells #[.int .i64 x, .slice L n lc, .slice A m ac] 27) = w3 at *
    have b2 : w3.cell? ⟨w.heap.size + 1, 2, none⟩ = some (.bool true) := Whole1.cell hr3.1 2
    have d0 : w3.cell? ⟨w.heap.size, 0, none⟩ = some (.int .i64 0) := (hz3).cell 0
    have d1 : w3.cell? ⟨w.heap.size, 1, none⟩ = some (.slice none 0 0) := (hz3).cell 1
    have d2 : w3.cell? ⟨w.heap.size, 2, none⟩ = some (.slice none 0 0) := (hz3).cell 2
    have f0 : w3.frozen? ⟨w.heap.size, 0, none⟩ = false := (hz3).free 0
    have f1 : w3.frozen? ⟨w.heap.size, 1, none⟩ = false := (hz3).free 1
    have f2 : w3.frozen? ⟨w.heap.size, 2, none⟩ = false := (hz3).free 2
    have HB3 := Lib.hid hB3
    clear hr3 hz3 hB3
    go_wp2
    exact bodyPost_ret (v := .tuple #[.agg #[.int .i64 0, .slice none 0 0, .slice none 0 0], .bool false]) (by simp [results, Try.results16, go_sem, d0, d1, d2]) rfl ⟨_, by rw [HNO.out]; rfl, by rw [HNO.out]; exact zero_in _ _, ((HB3.out.setCell (Nat.le_refl _) _).setCell (Nat.le_refl _) _).setCell (Nat.le_refl _) _⟩
  | some tr =>
    obtain ⟨t, r⟩ := tr
    have hsd := rdTy_sound 8 _ _ _ hrd
    rw [rest_zero] at hsd
    have hlen : (txt t).length ≤ s.size := by
      have h1 := congrArg List.length hsd.1
      rw [List.length_append] at h1
      have h2 : s.data.toList.length = s.size := by simp
      omega
    have HSD := Lib.hid hsd.1
    have hszt : szTy t ≤ 1048576 := by have := hsd.2; omega
    have hpos : 1 ≤ s.size := by have := hsd.2; omega
    have HRD := Lib.hid hrd
    have HC := Lib.hid (HT.good _ _ 0 s t r hR hs hrd)
    clear hR HT r0 q0 hs0 hrd hsd
    go_enter Try.func16, Try.ntmps16
    go_wp2_with fail
    generalize (w.alloc (.cells #[.int .i64 0, .slice none 0 0, .slice none 0 0] 27)).alloc (.cells #[.string s, .int .i64 0, .bool false] 63) = w1 at *
    refine HC.out.mono ?_
    rintro e w2 ⟨v, j, rfl, hrr, hr2, hO2, hg2⟩
    have hI2 := hO2.owned
    obtain ⟨L, lc, A, ac, rfl⟩ := hO2.open
    have hb2 := below_reader hb0 hg2 (by omega)
    have hzl := HRZ.out.lt
    have hs1 := hb0.size
    have hz2 : ZeroBox w2 w.heap.size := (hg2.block w.heap.size hzl (fun e => by injection e with e; omega)).trans HRZ.out
    obtain ⟨hb3, t3, hs3⟩ := boxes1 w2 27 #[.int .i64 t.kind, .slice L t.labels.length lc, .slice A t.args.length ac]
    have hr3 := hr2.below hb3 hr2.lt
    have hz3 := hz2.below hb3 hz2.lt
    have hB3 := hb2.trans (hb3.mono hb2.size)
    have hI3 := hI2.keep (w' := w2.alloc (.cells #[.int .i64 t.kind, .slice L t.labels.length lc, .slice A t.args.length ac] 27)) fun b hb hl => hb3.block b hl
    have hg2s := hg2.size
    clear hr2 hz2 hb2 hg2 hI2 hO2
    go_upto_region 3 with fail
    have HS3 := Lib.hid hs3
    clear hs3
    generalize w2.alloc (.cells #[.int .i64 t.kind, .slice L t.labels.length lc, .slice A t.args.length ac] 27) = w3 at *
    have hjl := hr3.2
    have b1 : w3.cell? ⟨w.heap.size + 1, 1, none⟩ = some (.int .i64 (j : Int)) := Whole1.cell hr3.1 1
    have b2 : w3.cell? ⟨w.heap.size + 1, 2, none⟩ = some (.bool false) := Whole1.cell hr3.1 2
    have e0 : w3.cell? ⟨w2.heap.size, 0, none⟩ = some (.int .i64 t.kind) := t3.cell 0
    have e1 : w3.cell? ⟨w2.heap.size, 1, none⟩ = some (.slice L t.labels.length lc) := t3.cell 1
    have e2 : w3.cell? ⟨w2.heap.size, 2, none⟩ = some (.slice A t.args.length ac) := t3.cell 2
    have HB3 := Lib.hid hB3
    have HT3 := Lib.hid t3
    have HZ3 := Lib.hid hz3
    have HI3 := Lib.hid hI3
    by_cases hj : j = s.size
    · subst hj
      have hr0 : r = [] := by rw [hrr]; exact restOf_end s _ (Nat.le_refl _)
      subst hr0
      have hst : s = ⟨(txt t).toArray⟩ := by
        apply ByteArray.ext
        apply Array.toList_inj.1
        have := HSD.out
        rw [List.append_nil] at this
        rw [this]
      have HST := Lib.hid hst
      have HF := Lib.hid (specFormat_any t _ w3 hI3.here hszt)
      have hneq : ((s.size : Int) == (s.size : Int)) = true := by simp
      clear hB3 hr3 hz3 hI3 hst hrr t3
      go_wp2_with fail
      refine HF.out.mono ?_
      rintro e w4 ⟨rfl, hb4⟩
      have HB4 := Lib.hid (HB3.out.trans (hb4.mono HB3.out.size))
      have hz4 := HZ3.out.below hb4 HZ3.out.lt
      have HI4 := Lib.hid (HI3.out.keep fun b hb hl => hb4.block b hl)
      have hs4 := hb4.size
      have t4 := HT3.out.below hb4 HT3.out.lt
      have q0 : w4.cell? ⟨w2.heap.size, 0, none⟩ = some (.int .i64 t.kind) := t4.cell 0
      have q1 : w4.cell? ⟨w2.heap.size, 1, none⟩ = some (.slice L t.labels.length lc) := t4.cell 1
      have q2 : w4.cell? ⟨w2.heap.size, 2, none⟩ = some (.slice A t.args.length ac) := t4.cell 2
      have d0 : w4.cell? ⟨w.heap.size, 0, none⟩ = some (.int .i64 0) := (hz4).cell 0
      have d1 : w4.cell? ⟨w.heap.size, 1, none⟩ = some (.slice none 0 0) := (hz4).cell 1
      have d2 : w4.cell? ⟨w.heap.size, 2, none⟩ = some (.slice none 0 0) := (hz4).cell 2
      have f0 : w4.frozen? ⟨w.heap.size, 0, none⟩ = false := (hz4).free 0
      have f1 : w4.frozen? ⟨w.heap.size, 1, none⟩ = false := (hz4).free 1
      have f2 : w4.frozen? ⟨w.heap.size, 2, none⟩ = false := (hz4).free 2
      have hs3 := HS3.out
      cases hvb : validB t
      · have hfb : formatB t = ⟨#[]⟩ := by unfold formatB; rw [hvb]; rfl
        have HNO : Hid (parseB s = none) := Lib.hid (by
          unfold parseB
          rw [← rest_zero, HRD.out]
          simp [hvb])
        have hne : ((formatB t).toList == s.toList) = false := by
          rw [hfb, beq_eq_false_iff_ne, ByteArray.toList_eq, ByteArray.toList_eq]
          intro e
          have h1 := congrArg List.length e
          have h2 : s.data.toList.length = s.size := by simp
          rw [h2] at h1
          simp at h1
          omega
        clear hfb hvb hz4 t4 e0 e1 e2 b1 b2
        generalize formatB t = fb at *
        go_wp2
        exact bodyPost_ret (v := .tuple #[.agg #[.int .i64 0, .slice none 0 0, .slice none 0 0], .bool false]) (by simp [results, Try.results16, go_sem, d0, d1, d2]) rfl ⟨_, by rw [HNO.out]; rfl, by rw [HNO.out]; exact zero_in _ _, ((HB4.out.setCell (Nat.le_refl _) _).setCell (Nat.le_refl _) _).setCell (Nat.le_refl _) _⟩
      · have hfb : formatB t = s := by unfold formatB; rw [hvb, HST.out]; rfl
        have HYES : Hid (parseB s = some t) := Lib.hid (by
          unfold parseB
          rw [← rest_zero, HRD.out]
          simp [hvb])
        have hne : ((formatB t).toList == s.toList) = true := by rw [hfb]; simp
        clear hvb hz4 t4 e0 e1 e2 b1 b2
        generalize formatB t = fb at *
        go_wp2
        exact bodyPost_ret (v := .tuple #[.agg #[.int .i64 t.kind, .slice L t.labels.length lc, .slice A t.args.length ac], .bool true]) (by simp [results, Try.results16, go_sem, d0, d1, d2]) rfl ⟨_, by rw [HYES.out]; rfl, by rw [HYES.out]; exact tyIn_set3' HI4.out (by omega) (by omega) _ _ _, ((HB4.out.setCell (Nat.le_refl _) _).setCell (Nat.le_refl _) _).setCell (Nat.le_refl _) _⟩
    · have hneq : ((j : Int) == (s.size : Int)) = false := by rw [beq_eq_false_iff_ne]; omega
      have HNO : Hid (parseB s = none) := Lib.hid (by
        have hne : r ≠ [] := by
          intro e
          have := congrArg List.length (hrr.symm.trans e)
          rw [restOf_len] at this
          simp at this
          omega
        unfold parseB
        rw [← rest_zero, HRD.out]
        cases r with
        | nil => exact absurd rfl hne
        | cons a q => rfl)
      have d0 : w3.cell? ⟨w.heap.size, 0, none⟩ = some (.int .i64 0) := (hz3).cell 0
      have d1 : w3.cell? ⟨w.heap.size, 1, none⟩ = some (.slice none 0 0) := (hz3).cell 1
      have d2 : w3.cell? ⟨w.heap.size, 2, none⟩ = some (.slice none 0 0) := (hz3).cell 2
      have f0 : w3.frozen? ⟨w.heap.size, 0, none⟩ = false := (hz3).free 0
      have f1 : w3.frozen? ⟨w.heap.size, 1, none⟩ = false := (hz3).free 1
      have f2 : w3.frozen? ⟨w.heap.size, 2, none⟩ = false := (hz3).free 2
      clear hB3 hr3 hz3 hI3 t3
      go_wp2
      exact bodyPost_ret (v := .tuple #[.agg #[.int .i64 0, .slice none 0 0, .slice none 0 0], .bool false]) (by simp [results, Try.results16, go_sem, d0, d1, d2]) rfl ⟨_, by rw [HNO.out]; rfl, by rw [HNO.out]; exact zero_in _ _, ((HB3.out.setCell (Nat.le_refl _) _).setCell (Nat.le_refl _) _).setCell (Nat.le_refl _) _⟩

end Go.Proofs.Ytmacbkcjeamaeaa
