/- impl.ParseType. -/
import Derived.Test.YtmacbkcjeamaeaaRdTy
import Derived.Test.YtmacbkcjeamaeaaSpecParse
import Derived.Test.YtmacbkcjeamaeaaImplValid
import Derived.Laws.EntriesVeiled
namespace Go.Proofs.Ytmacbkcjeamaeaa
open Go.RowKit

theorem typeR_all : ∀ n : Nat, n ≤ 8 → TypeR n (n : Int)
  | 0, _ => typeR_zero
  | n + 1, h => typeR_succ n ((n + 1 : Nat) : Int) (n : Int) (by rw [beq_eq_false_iff_ne]; omega) (by rw [IntKind.wrap_i64]; omega) (typeR_all n (by omega))

set_option maxHeartbeats 1000000 in
theorem readerOf_any (s : ByteArray) (w : World) : Calls Try.prog 37 #[.string s] w fun e w' =>
    ∃ ps pa, e = .returned (.agg #[rdAcc ps pa, rdTak ps pa, rdEnd ps pa]) ∧ RAt w' ps pa s 0 ∧ Below w.heap.size w w' ∧ w.heap.size ≤ ps ∧ w.heap.size ≤ pa := by
  obtain ⟨hb0, p0, q0, r0, hs0⟩ := boxes3 w 9 55 3 #[.string s] #[.nilFunc, .nilFunc, .nilFunc] #[.int .i64 0]
  have d0 : (((w.alloc (.cells #[.string s] 9)).alloc (.cells #[.nilFunc, .nilFunc, .nilFunc] 55)).alloc (.cells #[.int .i64 0] 3)).cell? ⟨w.heap.size + 1, 0, none⟩ = some .nilFunc := q0.cell 0
  have d1 : (((w.alloc (.cells #[.string s] 9)).alloc (.cells #[.nilFunc, .nilFunc, .nilFunc] 55)).alloc (.cells #[.int .i64 0] 3)).cell? ⟨w.heap.size + 1, 1, none⟩ = some .nilFunc := q0.cell 1
  have d2 : (((w.alloc (.cells #[.string s] 9)).alloc (.cells #[.nilFunc, .nilFunc, .nilFunc] 55)).alloc (.cells #[.int .i64 0] 3)).cell? ⟨w.heap.size + 1, 2, none⟩ = some .nilFunc := q0.cell 2
  have f0 : (((w.alloc (.cells #[.string s] 9)).alloc (.cells #[.nilFunc, .nilFunc, .nilFunc] 55)).alloc (.cells #[.int .i64 0] 3)).frozen? ⟨w.heap.size + 1, 0, none⟩ = false := q0.free 0
  have f1 : (((w.alloc (.cells #[.string s] 9)).alloc (.cells #[.nilFunc, .nilFunc, .nilFunc] 55)).alloc (.cells #[.int .i64 0] 3)).frozen? ⟨w.heap.size + 1, 1, none⟩ = false := q0.free 1
  have f2 : (((w.alloc (.cells #[.string s] 9)).alloc (.cells #[.nilFunc, .nilFunc, .nilFunc] 55)).alloc (.cells #[.int .i64 0] 3)).frozen? ⟨w.heap.size + 1, 2, none⟩ = false := q0.free 2
  have hmf : ∀ (fn : Fn) (first cap : Array Value) (w : World), (Instr.makeFunc fn first cap).run Try.prog w = .ok (.func fn first cap) w := fun _ _ _ _ => rfl
  have HR := Lib.hid (⟨p0, r0, by omega, Nat.zero_le _⟩ : RAt _ w.heap.size (w.heap.size + 1 + 1) s 0)
  have HB := Lib.hid hb0
  clear p0 q0 r0 hb0 hs0
  go_enter Try.func37, Try.ntmps37
  go_upto_region 2 with fail
  generalize ((w.alloc (.cells #[.string s] 9)).alloc (.cells #[.nilFunc, .nilFunc, .nilFunc] 55)).alloc (.cells #[.int .i64 0] 3) = w1 at *
  go_wp2
  exact bodyPost_ret (v := .agg #[rdAcc w.heap.size (w.heap.size + 1 + 1), rdTak w.heap.size (w.heap.size + 1 + 1), rdEnd w.heap.size (w.heap.size + 1 + 1)]) (by simp [results, Try.results37, go_sem, d0, d1, d2]) rfl ⟨_, _, rfl, HR.out.set3 (by omega) (by omega) _ _ _, ((HB.out.setCell (by show w.heap.size ≤ w.heap.size + 1; omega) _).setCell (by show w.heap.size ≤ w.heap.size + 1; omega) _).setCell (by show w.heap.size ≤ w.heap.size + 1; omega) _, Nat.le_refl _, by omega⟩

set_option maxHeartbeats 4000000 in
set_option maxRecDepth 100000 in
theorem implParse_any (s : ByteArray) (w : World) (hs : s.size ≤ 1048576) : Calls Try.prog 11 #[.string s] w (ParsePost s w) := by
  obtain ⟨hb0, z0, hs0⟩ := boxes1 w 27 #[.int .i64 0, .slice none 0 0, .slice none 0 0]
  have HRO := Lib.hid (fun W => readerOf_any s W)
  have HTY := Lib.hid (fun W ps pa h => typeR_all 8 (by omega) W ps pa 0 s h hs)
  have HV := Lib.hid (fun t V W h hsz => implValid_any t V W h hsz)
  go_enter Try.func11, Try.ntmps11
  go_upto_region 1 with fail
  generalize w.alloc (.cells #[.int .i64 0, .slice none 0 0, .slice none 0 0] 27) = wa at *
  go_wp2_with fail
  refine (HRO.out wa).mono ?_
  rintro e w1 ⟨ps, pa, rfl, hr1, hb1, hps, hpa⟩
  have z1 := z0.below hb1 z0.lt
  have hB1 := hb0.trans (hb1.mono hb0.size)
  have hws : w.heap.size < wa.heap.size := z0.lt
  clear hb0 hb1 z0 hs0
  go_upto_region 2 with fail
  obtain ⟨hb2, y2, hs2⟩ := boxes1 w1 55 #[rdAcc ps pa, rdTak ps pa, rdEnd ps pa]
  have r2 := hr1.below hb2 hr1.lts hr1.lta
  have z2 := z1.below hb2 z1.lt
  have hB2 := hB1.trans (hb2.mono hB1.size)
  have hpal := hr1.lta
  clear hr1 z1 hb2 hB1
  generalize w1.alloc (.cells #[rdAcc ps pa, rdTak ps pa, rdEnd ps pa] 55) = w2 at *
  have HT2 := Lib.hid (HTY.out w2 ps pa r2)
  have b0 : w2.cell? ⟨w1.heap.size, 0, none⟩ = some (rdAcc ps pa) := y2.cell 0
  have b1 : w2.cell? ⟨w1.heap.size, 1, none⟩ = some (rdTak ps pa) := y2.cell 1
  have b2 : w2.cell? ⟨w1.heap.size, 2, none⟩ = some (rdEnd ps pa) := y2.cell 2
  have Z2 := Lib.hid z2
  have Y2 := Lib.hid y2
  have B2 := Lib.hid hB2
  clear z2 y2 r2 hB2
  go_wp2_with fail
  refine HT2.out.mono ?_
  rintro e w3 (⟨hn, x, L5, n5, lc5, A5, m5, ac5, j5, rfl, hr3, hg3⟩ | ⟨t, q, hx, v, j5, rfl, hrr, hr3, hO3, hg3⟩)
  · have HNO : Hid (parseB s = none) := Lib.hid (by
      unfold parseB
      rw [← rest_zero, hn])
    have z3 : ZeroBox w3 w.heap.size := (hg3.block _ Z2.out.lt (fun e => by injection e with e; omega)).trans Z2.out
    have y3 : Whole1 w3 w1.heap.size 55 #[rdAcc ps pa, rdTak ps pa, rdEnd ps pa] := (hg3.block _ Y2.out.lt (fun e => by injection e with e; omega)).trans Y2.out
    have hB3 := below_reader B2.out hg3 (by omega)
    clear hn hg3 b0 b1 b2 HT2
    go_upto_region 3 with fail
    obtain ⟨hb4, x4, hs4⟩ := boxes1 w3 27 #[.int .i64 x, .slice L5 n5 lc5, .slice A5 m5 ac5]
    have z4 := z3.below hb4 z3.lt
    have y4 := y3.below hb4 y3.lt
    have r4 := hr3.below hb4 hr3.lts hr3.lta
    have hB4 := Lib.hid (hB3.trans (hb4.mono hB3.size))

    have HZ4 := Lib.hid z4
    have HX4 := Lib.hid x4
    have HY4 := Lib.hid y4
    have HR4 := Lib.hid r4
    clear z3 y3 hr3 hB3 hb4 x4 z4 y4 r4
    generalize w3.alloc (.cells #[.int .i64 x, .slice L5 n5 lc5, .slice A5 m5 ac5] 27) = w4 at *
    have d0 : w4.cell? ⟨w.heap.size, 0, none⟩ = some (.int .i64 0) := HZ4.out.cell 0
    have d1 : w4.cell? ⟨w.heap.size, 1, none⟩ = some (.slice none 0 0) := HZ4.out.cell 1
    have d2 : w4.cell? ⟨w.heap.size, 2, none⟩ = some (.slice none 0 0) := HZ4.out.cell 2
    have f0 : w4.frozen? ⟨w.heap.size, 0, none⟩ = false := HZ4.out.free 0
    have f1 : w4.frozen? ⟨w.heap.size, 1, none⟩ = false := HZ4.out.free 1
    have f2 : w4.frozen? ⟨w.heap.size, 2, none⟩ = false := HZ4.out.free 2
    go_wp2
    exact bodyPost_ret (v := .tuple #[.agg #[.int .i64 0, .slice none 0 0, .slice none 0 0], .bool false]) (by simp [results, Try.results11, go_sem, d0, d1, d2]) rfl ⟨_, by rw [HNO.out]; rfl, by rw [HNO.out]; exact zero_in _ _, ((hB4.out.setCell (Nat.le_refl _) _).setCell (Nat.le_refl _) _).setCell (Nat.le_refl _) _⟩
  · obtain ⟨L5, l5, A5, a5, rfl⟩ := hO3.open
    have hsd := rdTy_sound 8 _ _ _ hx
    have hszt : szTy t ≤ 1048576 := by
      have h1 := congrArg List.length hsd.1
      rw [List.length_append, restOf_len] at h1
      omega
    have HX := Lib.hid hx
    have HR := Lib.hid hrr
    have z3 : ZeroBox w3 w.heap.size := (hg3.block _ Z2.out.lt (fun e => by injection e with e; omega)).trans Z2.out
    have y3 : Whole1 w3 w1.heap.size 55 #[rdAcc ps pa, rdTak ps pa, rdEnd ps pa] := (hg3.block _ Y2.out.lt (fun e => by injection e with e; omega)).trans Y2.out
    have hB3 := below_reader B2.out hg3 (by omega)
    have hI3 := hO3.owned
    have hg3s := hg3.size
    have hj5 := hr3.le
    clear hx hrr hg3 hO3 b0 b1 b2 HT2 hsd
    go_upto_region 3 with fail
    obtain ⟨hb4, x4, hs4⟩ := boxes1 w3 27 #[.int .i64 t.kind, .slice L5 t.labels.length l5, .slice A5 t.args.length a5]
    have z4 := z3.below hb4 z3.lt
    have y4 := y3.below hb4 y3.lt
    have r4 := hr3.below hb4 hr3.lts hr3.lta
    have hB4 := Lib.hid (hB3.trans (hb4.mono hB3.size))
    have HI4 := Lib.hid (hI3.keep (w' := w3.alloc (.cells #[.int .i64 t.kind, .slice L5 t.labels.length l5, .slice A5 t.args.length a5] 27)) fun b _ hl => hb4.block b hl)
    clear hI3
    have HZ4 := Lib.hid z4
    have HX4 := Lib.hid x4
    have HY4 := Lib.hid y4
    have HR4 := Lib.hid r4
    clear z3 y3 hr3 hB3 hb4 x4 z4 y4 r4
    generalize w3.alloc (.cells #[.int .i64 t.kind, .slice L5 t.labels.length l5, .slice A5 t.args.length a5] 27) = w4 at *
    have y0 : w4.cell? ⟨w1.heap.size, 0, none⟩ = some (rdAcc ps pa) := HY4.out.cell 0
    have y1 : w4.cell? ⟨w1.heap.size, 1, none⟩ = some (rdTak ps pa) := HY4.out.cell 1
    have y2 : w4.cell? ⟨w1.heap.size, 2, none⟩ = some (rdEnd ps pa) := HY4.out.cell 2
    have x0 : w4.cell? ⟨w3.heap.size, 0, none⟩ = some (.int .i64 t.kind) := HX4.out.cell 0
    have x1 : w4.cell? ⟨w3.heap.size, 1, none⟩ = some (.slice L5 t.labels.length l5) := HX4.out.cell 1
    have x2 : w4.cell? ⟨w3.heap.size, 2, none⟩ = some (.slice A5 t.args.length a5) := HX4.out.cell 2
    have hE := end_any ps pa j5 s w4 HR4.out
    by_cases hj : j5 = s.size
    · rw [decide_eq_true hj] at hE
      have HE := Lib.hid hE
      have hq0 : q = [] := by rw [HR.out]; exact restOf_end s _ (by omega)
      subst hq0
      have hOT : OwnT w4 (.agg #[.int .i64 t.kind, .slice L5 t.labels.length l5, .slice A5 t.args.length a5]) t := OwnT.of (HI4.out.wide fun b hb => ⟨hb.1, by have := hb.2; omega⟩)
      have HVT := Lib.hid (HV.out t _ w4 hOT hszt)
      clear hE hOT
      go_wp2_with fail
      refine HE.out.mono ?_
      rintro e w4' ⟨rfl, rfl⟩
      go_wp2_with fail
      refine HVT.out.mono ?_
      rintro e w5 ⟨rfl, hb5⟩
      have z5 := HZ4.out.below hb5 HZ4.out.lt
      have hB5 := Lib.hid (hB4.out.trans (hb5.mono hB4.out.size))
      have hX5 := HX4.out.below hb5 HX4.out.lt
      have HI5 := Lib.hid (HI4.out.keep fun b hb hl => hb5.block b hl)
      have hz5 := hb5.size
      have q0 : w5.cell? ⟨w3.heap.size, 0, none⟩ = some (.int .i64 t.kind) := hX5.cell 0
      have q1 : w5.cell? ⟨w3.heap.size, 1, none⟩ = some (.slice L5 t.labels.length l5) := hX5.cell 1
      have q2 : w5.cell? ⟨w3.heap.size, 2, none⟩ = some (.slice A5 t.args.length a5) := hX5.cell 2
      have d0 : w5.cell? ⟨w.heap.size, 0, none⟩ = some (.int .i64 0) := z5.cell 0
      have d1 : w5.cell? ⟨w.heap.size, 1, none⟩ = some (.slice none 0 0) := z5.cell 1
      have d2 : w5.cell? ⟨w.heap.size, 2, none⟩ = some (.slice none 0 0) := z5.cell 2
      have f0 : w5.frozen? ⟨w.heap.size, 0, none⟩ = false := z5.free 0
      have f1 : w5.frozen? ⟨w.heap.size, 1, none⟩ = false := z5.free 1
      have f2 : w5.frozen? ⟨w.heap.size, 2, none⟩ = false := z5.free 2
      clear z5 hb5 hX5 x0 x1 x2 y0 y1 y2
      cases hvb : validB t
      · have HNO : Hid (parseB s = none) := Lib.hid (by
          unfold parseB
          rw [← rest_zero, HX.out]
          simp [hvb])
        clear hvb
        go_wp2
        exact bodyPost_ret (v := .tuple #[.agg #[.int .i64 0, .slice none 0 0, .slice none 0 0], .bool false]) (by simp [results, Try.results11, go_sem, d0, d1, d2]) rfl ⟨_, by rw [HNO.out]; rfl, by rw [HNO.out]; exact zero_in _ _, ((hB5.out.setCell (Nat.le_refl _) _).setCell (Nat.le_refl _) _).setCell (Nat.le_refl _) _⟩
      · have HYES : Hid (parseB s = some t) := Lib.hid (by
          unfold parseB
          rw [← rest_zero, HX.out]
          simp [hvb])
        clear hvb
        go_wp2
        exact bodyPost_ret (v := .tuple #[.agg #[.int .i64 t.kind, .slice L5 t.labels.length l5, .slice A5 t.args.length a5], .bool true]) (by simp [results, Try.results11, go_sem, d0, d1, d2]) rfl ⟨_, by rw [HYES.out]; rfl, by rw [HYES.out]; exact tyIn_set3' HI5.out (by omega) (by omega) _ _ _, ((hB5.out.setCell (Nat.le_refl _) _).setCell (Nat.le_refl _) _).setCell (Nat.le_refl _) _⟩
    · rw [decide_eq_false hj] at hE
      have HE := Lib.hid hE
      have HNO : Hid (parseB s = none) := Lib.hid (by
        have hne : q ≠ [] := by
          intro e
          have := congrArg List.length (HR.out.symm.trans e)
          rw [restOf_len] at this
          simp at this
          omega
        unfold parseB
        rw [← rest_zero, HX.out]
        cases q with
        | nil => exact absurd rfl hne
        | cons a q => rfl)
      clear hE x0 x1 x2 y0 y1
      go_wp2_with fail
      refine HE.out.mono ?_
      rintro e w4' ⟨rfl, rfl⟩
      have d0 : w4.cell? ⟨w.heap.size, 0, none⟩ = some (.int .i64 0) := HZ4.out.cell 0
      have d1 : w4.cell? ⟨w.heap.size, 1, none⟩ = some (.slice none 0 0) := HZ4.out.cell 1
      have d2 : w4.cell? ⟨w.heap.size, 2, none⟩ = some (.slice none 0 0) := HZ4.out.cell 2
      have f0 : w4.frozen? ⟨w.heap.size, 0, none⟩ = false := HZ4.out.free 0
      have f1 : w4.frozen? ⟨w.heap.size, 1, none⟩ = false := HZ4.out.free 1
      have f2 : w4.frozen? ⟨w.heap.size, 2, none⟩ = false := HZ4.out.free 2
      go_wp2
      exact bodyPost_ret (v := .tuple #[.agg #[.int .i64 0, .slice none 0 0, .slice none 0 0], .bool false]) (by simp [results, Try.results11, go_sem, d0, d1, d2]) rfl ⟨_, by rw [HNO.out]; rfl, by rw [HNO.out]; exact zero_in _ _, ((hB4.out.setCell (Nat.le_refl _) _).setCell (Nat.le_refl _) _).setCell (Nat.le_refl _) _⟩

end Go.Proofs.Ytmacbkcjeamaeaa
