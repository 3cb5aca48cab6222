/- The drawn value is bent: spec.l5Bent. -/
import Derived.Test.YtlmbnefoobameaaDoorVBentLib
import Derived.Deep.DeepCutAuto
import Derived.Deep.DrawnRows
import Derived.Deep.RegionHeld3
namespace Go.Proofs.YtlmbnefoobameaaDoor
set_option maxRecDepth 100000
open Go.RowKit
attribute [local go_sem ↓] Go.wp_at_zero Go.wp_at_succ

set_option maxHeartbeats 8000000 in
theorem specBentV_any : ∀ (p B : Nat) (w : World), CurAt w B p → Calls Tryd.prog 35 #[.pointer (some ⟨p, 0, none⟩)] w (DrawnVa w B p 4200) := by
  intro p B w hc
  have hpl := hc.lt
  obtain ⟨hb0, r0, hs0⟩ := boxes1 w 27 #[.int .i64 0, .int .i64 0, .string ⟨#[]⟩, .slice none 0 0, .slice none 0 0]
  have hc0 : CurAt (w.alloc (.cells #[.int .i64 0, .int .i64 0, .string ⟨#[]⟩, .slice none 0 0, .slice none 0 0] 27)) B p := hc.alloc3 _
  have hg0 : w.grownBy (w.alloc (.cells #[.int .i64 0, .int .i64 0, .string ⟨#[]⟩, .slice none 0 0, .slice none 0 0] 27)) (some p) := World.grownBy_alloc w _ _
  have HD : Hid (∀ W, CurAt W B p → Calls Tryd.prog 32 #[.pointer (some ⟨p, 0, none⟩), .int .i64 4] W (DrawnTyQ W B p 4096)) := Lib.hid (fun W h => specDrawQ_any 4 (Nat.le_refl _) p B W h)
  have HV := Lib.hid (fun (t : Ty) v S W h1 h2 h3 h4 h5 => specDrawV_any t v S p B W h1 h2 h3 h4 h5)
  have H10 := Lib.hid (fun W h => l1Below_any p B 10 W h (by omega) (by omega))
  have H7 := Lib.hid (fun W h => l1Below_any p B 7 W h (by omega) (by omega))
  clear hc hb0
  go_enter Tryd.func35, Tryd.ntmps35
  go_wp2_with fail
  refine (HD.out _ hc0).mono ?_
  rintro e wt ⟨⟨vt, tt, rfl, hOt, hzt, hqt⟩, hct, hgt⟩
  have hin := hOt.owned
  obtain ⟨L0, l0, A0, a0, rfl⟩ := hOt.open
  have rt := r0.grown hgt (by omega)
  have hgt' := only_trans hg0 hgt
  have hst := hgt.size
  rw [hs0] at hst hin
  have HVT := Lib.hid (HV.out tt _ _ wt hin (fun h => by have := h.1; omega) hct hqt.1 (by have := hqt.2; omega))
  have HQ := Lib.hid hqt.2
  clear hOt r0 hg0 hgt hc0 hs0 hin hct hqt HD HV
  go_wp2_with fail
  refine HVT.out.mono ?_
  rintro e w1 ⟨⟨v, t, rfl, hO, hz, hn⟩, hc1, hg1⟩
  have hz : szVa t ≤ 4096 := Nat.le_trans hz HQ.out
  have HNB := Lib.hid hn
  obtain ⟨L, lc, A, ac, xs, vs, lo, hi, rfl, hA1⟩ := (hO.base (show w.heap.size + 1 ≤ wt.heap.size by omega)).named
  have r1 := rt.grown hg1 (by omega)
  have hg1' := only_trans hgt' hg1
  have hs1 := hg1.size
  clear hO rt hgt' hg1 HVT hn
  go_wp2_with fail
  have hbW := (Below.refl w1.heap.size w1).alloc (Nat.le_refl _) (.cells #[.int .i64 t.kind, .int .i64 t.num, .string t.name, .slice L t.labels.length lc, .slice A t.args.length ac] 27)
  have hcW := hc1.belowP hbW hc1.lt
  have rb := Whole1.new w1 27 #[.int .i64 t.kind, .int .i64 t.num, .string t.name, .slice L t.labels.length lc, .slice A t.args.length ac]
  have hOW := hA1.keep (w' := w1.alloc (.cells #[.int .i64 t.kind, .int .i64 t.num, .string t.name, .slice L t.labels.length lc, .slice A t.args.length ac] 27)) hbW.size (fun g _ hl => hbW.block g hl) (fun g _ hl => hbW.block g hl) (fun _ _ b _ hl => hbW.block b hl)
  have rW := r1.below hbW r1.lt
  have hgW := only_below hg1' hbW
  have hsW : (w1.alloc (.cells #[.int .i64 t.kind, .int .i64 t.num, .string t.name, .slice L t.labels.length lc, .slice A t.args.length ac] 27)).heap.size = w1.heap.size + 1 := by simp
  have N1 : (Value.slice L t.labels.length lc).ownBlock ≠ some w1.heap.size := fun e => by have := (hA1.row.lt _ e).2; omega
  have N2 : (Value.slice A t.args.length ac).ownBlock ≠ some w1.heap.size := fun e => by have := (hA1.parts.own.lt _ e).2; omega
  have N3 : ∀ i, i < t.args.length → ¬ Span (lo i) (hi i) w1.heap.size := fun i hi' hb => by have := (hA1.parts.low i hi').2; have := hb.2; omega
  clear hbW hc1 hA1 r1 hg1'
  generalize hz1 : w1.heap.size = z at *
  generalize w1.alloc (.cells #[.int .i64 t.kind, .int .i64 t.num, .string t.name, .slice L t.labels.length lc, .slice A t.args.length ac] 27) = W at *
  refine (H10.out _ hcW).mono ?_
  rintro e w2 ⟨⟨x, rfl, hx0, hx1⟩, hc2, hg2⟩
  have hs2 := hg2.size
  have hA2 := hOW.grown hg2 (by omega)
  have b2 := rb.grown hg2 (by omega)
  have r2 := rW.grown hg2 (by omega)
  have hg2' := only_trans hgW hg2
  clear hcW rb hOW rW hgW hg2
  have hzr : z ≠ w.heap.size := by omega
  have hrz : w.heap.size ≠ z := by omega
  have hzl := b2.lt
  by_cases h0 : x = 0
  · subst h0
    go_wp2_with fail
    refine (H7.out _ hc2).mono ?_
    rintro e w3 ⟨⟨y, rfl, hy0, hy1⟩, hc3, hg3⟩
    have hs3 := hg3.size
    have hA3 := hA2.grown hg3 (by omega)
    have b3 := b2.grown hg3 (by omega)
    have r3 := r2.grown hg3 (by omega)
    have hg3' := only_trans hg2' hg3
    clear hA2 b2 r2 hg2' hg3 hc2
    have d0 : w3.cell? ⟨w.heap.size, 0, none⟩ = some (.int .i64 0) := r3.cell 0
    have f0 : w3.frozen? ⟨w.heap.size, 0, none⟩ = false := r3.free 0
    have d1 : w3.cell? ⟨w.heap.size, 1, none⟩ = some (.int .i64 0) := r3.cell 1
    have f1 : w3.frozen? ⟨w.heap.size, 1, none⟩ = false := r3.free 1
    have d2 : w3.cell? ⟨w.heap.size, 2, none⟩ = some (.string ⟨#[]⟩) := r3.cell 2
    have f2 : w3.frozen? ⟨w.heap.size, 2, none⟩ = false := r3.free 2
    have d3 : w3.cell? ⟨w.heap.size, 3, none⟩ = some (.slice none 0 0) := r3.cell 3
    have f3 : w3.frozen? ⟨w.heap.size, 3, none⟩ = false := r3.free 3
    have d4 : w3.cell? ⟨w.heap.size, 4, none⟩ = some (.slice none 0 0) := r3.cell 4
    have f4 : w3.frozen? ⟨w.heap.size, 4, none⟩ = false := r3.free 4
    have q0 : w3.cell? ⟨z, 0, none⟩ = some (.int .i64 t.kind) := b3.cell 0
    have u0 : w3.frozen? ⟨z, 0, none⟩ = false := b3.free 0
    have q1 : w3.cell? ⟨z, 1, none⟩ = some (.int .i64 t.num) := b3.cell 1
    have u1 : w3.frozen? ⟨z, 1, none⟩ = false := b3.free 1
    have q2 : w3.cell? ⟨z, 2, none⟩ = some (.string t.name) := b3.cell 2
    have u2 : w3.frozen? ⟨z, 2, none⟩ = false := b3.free 2
    have q3 : w3.cell? ⟨z, 3, none⟩ = some (.slice L t.labels.length lc) := b3.cell 3
    have u3 : w3.frozen? ⟨z, 3, none⟩ = false := b3.free 3
    have q4 : w3.cell? ⟨z, 4, none⟩ = some (.slice A t.args.length ac) := b3.cell 4
    have u4 : w3.frozen? ⟨z, 4, none⟩ = false := b3.free 4
    have hA4 := (hA3.root y t.num t.name hA3.name).but (w' := w3.setCell ⟨z, 0, none⟩ (.int .i64 y)) z (by simp [World.setCell]) (fun g _ _ hne => Below.heap_setCell _ _ _ _ hne) N1 N2 N3
    have HF := Lib.hid (drawnV_fin0 (n := 4200) hA4.own (by have := szVa_root t y t.num t.name; omega) (smallB_root HNB.out _ _ _ _ ((smallB_of t HNB.out).1)) (hc3.belowP ((Below.refl z w3).setCell (by simp) _) (by omega)) hpl (grown_set hg3' (by omega) _ _))
    clear r3 b3 hA3 hA4
    go_wp2
    exact bodyPost_ret (v := .agg #[.int .i64 y, .int .i64 t.num, .string t.name, .slice L t.labels.length lc, .slice A t.args.length ac]) (by simp [results, Tryd.results35, go_sem, d0, d1, d2, d3, d4]) rfl (HF.out _ _ _ _ _)
  by_cases h1 : x = 1
  · subst h1
    have HPK := Lib.hid (pickN p B w2 hc2)
    go_wp2_with fail
    refine HPK.out.mono ?_
    rintro e w3 ⟨⟨y, rfl, hy⟩, hc3, hg3a⟩
    have hg3 := only_trans (World.grownBy_alloc w2 _ _) hg3a
    clear hg3a
    have hyb : -999999999999 ≤ y ∧ y ≤ 999999999999 := by
      simp at hy
      omega
    have hs3 := hg3.size
    have hA3 := hA2.grown hg3 (by omega)
    have b3 := b2.grown hg3 (by omega)
    have r3 := r2.grown hg3 (by omega)
    have hg3' := only_trans hg2' hg3
    clear hA2 b2 r2 hg2' hg3 hc2
    have d0 : w3.cell? ⟨w.heap.size, 0, none⟩ = some (.int .i64 0) := r3.cell 0
    have f0 : w3.frozen? ⟨w.heap.size, 0, none⟩ = false := r3.free 0
    have d1 : w3.cell? ⟨w.heap.size, 1, none⟩ = some (.int .i64 0) := r3.cell 1
    have f1 : w3.frozen? ⟨w.heap.size, 1, none⟩ = false := r3.free 1
    have d2 : w3.cell? ⟨w.heap.size, 2, none⟩ = some (.string ⟨#[]⟩) := r3.cell 2
    have f2 : w3.frozen? ⟨w.heap.size, 2, none⟩ = false := r3.free 2
    have d3 : w3.cell? ⟨w.heap.size, 3, none⟩ = some (.slice none 0 0) := r3.cell 3
    have f3 : w3.frozen? ⟨w.heap.size, 3, none⟩ = false := r3.free 3
    have d4 : w3.cell? ⟨w.heap.size, 4, none⟩ = some (.slice none 0 0) := r3.cell 4
    have f4 : w3.frozen? ⟨w.heap.size, 4, none⟩ = false := r3.free 4
    have q0 : w3.cell? ⟨z, 0, none⟩ = some (.int .i64 t.kind) := b3.cell 0
    have u0 : w3.frozen? ⟨z, 0, none⟩ = false := b3.free 0
    have q1 : w3.cell? ⟨z, 1, none⟩ = some (.int .i64 t.num) := b3.cell 1
    have u1 : w3.frozen? ⟨z, 1, none⟩ = false := b3.free 1
    have q2 : w3.cell? ⟨z, 2, none⟩ = some (.string t.name) := b3.cell 2
    have u2 : w3.frozen? ⟨z, 2, none⟩ = false := b3.free 2
    have q3 : w3.cell? ⟨z, 3, none⟩ = some (.slice L t.labels.length lc) := b3.cell 3
    have u3 : w3.frozen? ⟨z, 3, none⟩ = false := b3.free 3
    have q4 : w3.cell? ⟨z, 4, none⟩ = some (.slice A t.args.length ac) := b3.cell 4
    have u4 : w3.frozen? ⟨z, 4, none⟩ = false := b3.free 4
    have hA4 := (hA3.root t.kind y t.name hA3.name).but (w' := w3.setCell ⟨z, 1, none⟩ (.int .i64 y)) z (by simp [World.setCell]) (fun g _ _ hne => Below.heap_setCell _ _ _ _ hne) N1 N2 N3
    have HF := Lib.hid (drawnV_fin0 (n := 4200) hA4.own (by have := szVa_root t t.kind y t.name; omega) (smallB_root HNB.out _ _ _ _ (hyb)) (hc3.belowP ((Below.refl z w3).setCell (by simp) _) (by omega)) hpl (grown_set hg3' (by omega) _ _))
    clear r3 b3 hA3 hA4
    go_wp2
    exact bodyPost_ret (v := .agg #[.int .i64 t.kind, .int .i64 y, .string t.name, .slice L t.labels.length lc, .slice A t.args.length ac]) (by simp [results, Tryd.results35, go_sem, d0, d1, d2, d3, d4]) rfl (HF.out _ _ _ _ _)
  by_cases h2 : x = 2
  · subst h2
    obtain ⟨i0, hi0, hw0, hw1, hw2⟩ := info_parts infoString
    have hll : t.labels.length ≤ 4096 := by
      have := szVa_eq t
      omega
    have d0 : w2.cell? ⟨w.heap.size, 0, none⟩ = some (.int .i64 0) := r2.cell 0
    have f0 : w2.frozen? ⟨w.heap.size, 0, none⟩ = false := r2.free 0
    have d1 : w2.cell? ⟨w.heap.size, 1, none⟩ = some (.int .i64 0) := r2.cell 1
    have f1 : w2.frozen? ⟨w.heap.size, 1, none⟩ = false := r2.free 1
    have d2 : w2.cell? ⟨w.heap.size, 2, none⟩ = some (.string ⟨#[]⟩) := r2.cell 2
    have f2 : w2.frozen? ⟨w.heap.size, 2, none⟩ = false := r2.free 2
    have d3 : w2.cell? ⟨w.heap.size, 3, none⟩ = some (.slice none 0 0) := r2.cell 3
    have f3 : w2.frozen? ⟨w.heap.size, 3, none⟩ = false := r2.free 3
    have d4 : w2.cell? ⟨w.heap.size, 4, none⟩ = some (.slice none 0 0) := r2.cell 4
    have f4 : w2.frozen? ⟨w.heap.size, 4, none⟩ = false := r2.free 4
    have q0 : w2.cell? ⟨z, 0, none⟩ = some (.int .i64 t.kind) := b2.cell 0
    have u0 : w2.frozen? ⟨z, 0, none⟩ = false := b2.free 0
    have q1 : w2.cell? ⟨z, 1, none⟩ = some (.int .i64 t.num) := b2.cell 1
    have u1 : w2.frozen? ⟨z, 1, none⟩ = false := b2.free 1
    have q2 : w2.cell? ⟨z, 2, none⟩ = some (.string t.name) := b2.cell 2
    have u2 : w2.frozen? ⟨z, 2, none⟩ = false := b2.free 2
    have q3 : w2.cell? ⟨z, 3, none⟩ = some (.slice L t.labels.length lc) := b2.cell 3
    have u3 : w2.frozen? ⟨z, 3, none⟩ = false := b2.free 3
    have q4 : w2.cell? ⟨z, 4, none⟩ = some (.slice A t.args.length ac) := b2.cell 4
    have u4 : w2.frozen? ⟨z, 4, none⟩ = false := b2.free 4
    have HA5 := Lib.hid (hA2.keep (w' := w2.alloc (.cells #[.string ⟨#[122]⟩] 9)) (by simp) (fun g _ hl => Below.heap_alloc _ _ _ hl) (fun g _ hl => Below.heap_alloc _ _ _ hl) (fun _ _ b _ hl => Below.heap_alloc _ _ _ hl))
    have hN := news1 w2 9 (.string ⟨#[122]⟩) rfl
    have HA2 := Lib.hid hA2
    have HG2 := Lib.hid hg2'
    have HR2 := Lib.hid r2
    have HB2 := Lib.hid b2
    have HC2 := Lib.hid hc2
    clear hA2 hc2 hg2' r2 b2
    go_wp2_with (at_builtin; refine wpList_append_lies _ rfl (.tmp 24) (.tmp 25) _ rfl (w.heap.size + 1) 9 i0 (.string ⟨#[]⟩) 1 16 Tryd.underlying24 hi0 hw0 hw1 hw2 rfl (by decide) _ t.labels.length (strVals t.labels) rfl HA5.out.row ⟨w2.heap.size, 0, none⟩ 1 1 [.string ⟨#[122]⟩] rfl rfl hN.1 hN.2 (by omega) (by unfold maxLen; omega) (by omega) (by simp; omega) (w2.heap.size + 1) (by simp) ?_; intro g cap w5 hown5 hg5 hat5 hlt5; have HAG := Lib.hid (HA5.out.label ⟨#[122]⟩ (by unfold maxLen; decide) hown5 hg5 (hat5.imp id (fun e => by simp; omega))); have hlo := (fun q (hq : (Value.slice L t.labels.length lc).ownBlock = some q) => (HA2.out.row.lt q hq)); have hB5 : Below (w.heap.size + 1) w2 w5 := ((Below.refl (w.heap.size + 1) w2).alloc (by omega) _).grown hg5 (by simp; omega) (fun q hq => (hlo q hq).1); have b5 : Whole1 w5 z 27 #[.int .i64 t.kind, .int .i64 t.num, .string t.name, .slice L t.labels.length lc, .slice A t.args.length ac] := ((hg5.block z (by simp; omega) (fun e => N1 e.symm)).trans (Below.heap_alloc _ _ _ hzl)).trans HB2.out; have r5 : Whole1 w5 w.heap.size 27 #[.int .i64 0, .int .i64 0, .string ⟨#[]⟩, .slice none 0 0, .slice none 0 0] := HR2.out.below hB5 (by omega); have D0 : w5.cell? ⟨w.heap.size, 0, none⟩ = some (.int .i64 0) := r5.cell 0; have F0 : w5.frozen? ⟨w.heap.size, 0, none⟩ = false := r5.free 0; have D1 : w5.cell? ⟨w.heap.size, 1, none⟩ = some (.int .i64 0) := r5.cell 1; have F1 : w5.frozen? ⟨w.heap.size, 1, none⟩ = false := r5.free 1; have D2 : w5.cell? ⟨w.heap.size, 2, none⟩ = some (.string ⟨#[]⟩) := r5.cell 2; have F2 : w5.frozen? ⟨w.heap.size, 2, none⟩ = false := r5.free 2; have D3 : w5.cell? ⟨w.heap.size, 3, none⟩ = some (.slice none 0 0) := r5.cell 3; have F3 : w5.frozen? ⟨w.heap.size, 3, none⟩ = false := r5.free 3; have D4 : w5.cell? ⟨w.heap.size, 4, none⟩ = some (.slice none 0 0) := r5.cell 4; have F4 : w5.frozen? ⟨w.heap.size, 4, none⟩ = false := r5.free 4; have Q0 : w5.cell? ⟨z, 0, none⟩ = some (.int .i64 t.kind) := b5.cell 0; have U0 : w5.frozen? ⟨z, 0, none⟩ = false := b5.free 0; have Q1 : w5.cell? ⟨z, 1, none⟩ = some (.int .i64 t.num) := b5.cell 1; have U1 : w5.frozen? ⟨z, 1, none⟩ = false := b5.free 1; have Q2 : w5.cell? ⟨z, 2, none⟩ = some (.string t.name) := b5.cell 2; have U2 : w5.frozen? ⟨z, 2, none⟩ = false := b5.free 2; have Q3 : w5.cell? ⟨z, 3, none⟩ = some (.slice L t.labels.length lc) := b5.cell 3; have U3 : w5.frozen? ⟨z, 3, none⟩ = false := b5.free 3; have Q4 : w5.cell? ⟨z, 4, none⟩ = some (.slice A t.args.length ac) := b5.cell 4; have U4 : w5.frozen? ⟨z, 4, none⟩ = false := b5.free 4; have hgz : g ≠ z := (fun e => hat5.elim (fun h => N1 (by rw [← e]; exact h)) (fun h => by omega)); have HC5 := Lib.hid (HC2.out.belowP hB5 (by omega)); have HG5 := Lib.hid (grown_low HG2.out hB5 (by omega)); have HAZ := Lib.hid (HAG.out.but (w' := w5.setCell ⟨z, 3, none⟩ (.slice (some ⟨g, 0, none⟩) (t.labels.length + 1) cap)) z (by simp [World.setCell]) (fun q _ _ hne => Below.heap_setCell _ _ _ _ hne) (fun e => hgz (Option.some.inj e)) N2 N3); have hbz : Below z w5 (w5.setCell ⟨z, 3, none⟩ (.slice (some ⟨g, 0, none⟩) (t.labels.length + 1) cap)) := (Below.refl z w5).setCell (Nat.le_refl _) _; have HF := Lib.hid (drawnV_fin0 (n := 4200) HAZ.out.own (by rw [vsz_label]; have h9 : (⟨#[122]⟩ : ByteArray).size = 1 := rfl; omega) (smallB_root HNB.out _ _ _ _ (smallB_of t HNB.out).1) (HC5.out.belowP hbz (by omega)) hpl (grown_low HG5.out hbz (by omega))); clear r5 b5 hB5 hbz hown5 hg5 hat5 hlo)
    go_wp2
    exact bodyPost_ret (v := .agg #[.int .i64 t.kind, .int .i64 t.num, .string t.name, .slice (some ⟨g, 0, none⟩) (t.labels ++ [(⟨#[122]⟩ : ByteArray)]).length cap, .slice A t.args.length ac]) (by simp [results, Tryd.results35, go_sem, D0, D1, D2, D3, D4]) rfl (HF.out _ _ _ _ _)
  by_cases h3 : x = 3
  · subst h3
    obtain ⟨i1, hi1, hy0, hy1, hy2⟩ := info_parts infoValue
    have hla : t.args.length ≤ 4096 := by
      have := szVa_eq t
      have := szVas_len t.args
      omega
    have HIN := Lib.hid (l5Int_any (-5) w2.drew)
    have d0 : w2.cell? ⟨w.heap.size, 0, none⟩ = some (.int .i64 0) := r2.cell 0
    have f0 : w2.frozen? ⟨w.heap.size, 0, none⟩ = false := r2.free 0
    have d1 : w2.cell? ⟨w.heap.size, 1, none⟩ = some (.int .i64 0) := r2.cell 1
    have f1 : w2.frozen? ⟨w.heap.size, 1, none⟩ = false := r2.free 1
    have d2 : w2.cell? ⟨w.heap.size, 2, none⟩ = some (.string ⟨#[]⟩) := r2.cell 2
    have f2 : w2.frozen? ⟨w.heap.size, 2, none⟩ = false := r2.free 2
    have d3 : w2.cell? ⟨w.heap.size, 3, none⟩ = some (.slice none 0 0) := r2.cell 3
    have f3 : w2.frozen? ⟨w.heap.size, 3, none⟩ = false := r2.free 3
    have d4 : w2.cell? ⟨w.heap.size, 4, none⟩ = some (.slice none 0 0) := r2.cell 4
    have f4 : w2.frozen? ⟨w.heap.size, 4, none⟩ = false := r2.free 4
    have q0 : w2.cell? ⟨z, 0, none⟩ = some (.int .i64 t.kind) := b2.cell 0
    have u0 : w2.frozen? ⟨z, 0, none⟩ = false := b2.free 0
    have q1 : w2.cell? ⟨z, 1, none⟩ = some (.int .i64 t.num) := b2.cell 1
    have u1 : w2.frozen? ⟨z, 1, none⟩ = false := b2.free 1
    have q2 : w2.cell? ⟨z, 2, none⟩ = some (.string t.name) := b2.cell 2
    have u2 : w2.frozen? ⟨z, 2, none⟩ = false := b2.free 2
    have q3 : w2.cell? ⟨z, 3, none⟩ = some (.slice L t.labels.length lc) := b2.cell 3
    have u3 : w2.frozen? ⟨z, 3, none⟩ = false := b2.free 3
    have q4 : w2.cell? ⟨z, 4, none⟩ = some (.slice A t.args.length ac) := b2.cell 4
    have u4 : w2.frozen? ⟨z, 4, none⟩ = false := b2.free 4
    have HA2 := Lib.hid hA2
    have HG2 := Lib.hid hg2'
    have HR2 := Lib.hid r2
    have HB2 := Lib.hid b2
    have HC2 := Lib.hid hc2
    clear hA2 hc2 hg2' r2 b2
    go_wp2
    go_region_law (first
      | (go_simp; go_at_call 70; (with_reducible refine HIN.out.mono ?_); rintro e w4 ⟨rfl, hb4'⟩; have hb4 : Below w2.heap.size w2 w4 := below_a0 hb4'; clear hb4'; have hs4 := hb4.size; have HU := Lib.hid (VaIn.leaf w4 (Span w2.heap.size w4.heap.size) 1 (-5) ⟨#[]⟩ none none 0 0 (by unfold maxLen; decide)); have HBB := Lib.hid hb4; have HA4 := Lib.hid (HA2.out.keep (w' := w4) hs4 (fun g _ hl => hb4.block g hl) (fun g _ hl => hb4.block g hl) (fun _ _ b _ hl => hb4.block b hl)); have b4 : Whole1 w4 z 27 #[.int .i64 t.kind, .int .i64 t.num, .string t.name, .slice L t.labels.length lc, .slice A t.args.length ac] := HB2.out.below hb4 hzl; have HB4 := Lib.hid b4; have HR4 : Hid (Whole1 w4 w.heap.size 27 #[.int .i64 0, .int .i64 0, .string ⟨#[]⟩, .slice none 0 0, .slice none 0 0]) := Lib.hid (HR2.out.below hb4 HR2.out.lt); have HG4 := Lib.hid (only_below HG2.out hb4); have HC4 := Lib.hid (HC2.out.belowP hb4 HC2.out.lt); have p1 : w4.cell? ⟨z, 4, none⟩ = some (.slice A t.args.length ac) := b4.cell 4; have hz4 : z < w4.heap.size := b4.lt; have p1' : (w4.alloc (.cells #[.int .i64 1, .int .i64 (-5), .string ⟨#[]⟩, .slice none 0 0, .slice none 0 0] 27)).cell? ⟨z, 4, none⟩ = some (.slice A t.args.length ac) := ((((Below.refl w4.heap.size w4).alloc (Nat.le_refl _) _)).cell (p := ⟨z, 4, none⟩) hz4).trans p1; clear b4 hb4)
      | (have hN := news5 w4 27 (.int .i64 1) (.int .i64 (-5)) (.string ⟨#[]⟩) (.slice none 0 0) (.slice none 0 0); have HA5 := Lib.hid (HA4.out.keep (w' := w4.alloc (.cells #[.int .i64 1, .int .i64 (-5), .string ⟨#[]⟩, .slice none 0 0, .slice none 0 0] 27)) (by simp) (fun g _ hl => Below.heap_alloc _ _ _ hl) (fun g _ hl => Below.heap_alloc _ _ _ hl) (fun _ _ b _ hl => Below.heap_alloc _ _ _ hl)); refine step_append_lies _ (by rfl) (.tmp 31) (.tmp 33) _ (by rfl) (w.heap.size + 1) 27 i1 (.agg #[.int .i64 0, .int .i64 0, .string ⟨#[]⟩, .slice none 0 0, .slice none 0 0]) 5 80 Tryd.underlying25 hi1 hy0 hy1 hy2 rfl (by decide) _ t.args.length xs (by rfl) HA5.out.parts.own ⟨w4.heap.size, 0, none⟩ 1 1 [.int .i64 1, .int .i64 (-5), .string ⟨#[]⟩, .slice none 0 0, .slice none 0 0] (by rfl) rfl hN.1 hN.2 (by omega) (by unfold maxLen; omega) (by omega) (by simp; omega) (w4.heap.size + 1) (by simp) ?_; intro g cap w5 hown5 hg5 hat5 hlt5; have HAG := Lib.hid (HA2.out.arg (.mk 1 (-5) ⟨#[]⟩ [] []) HBB.out (by omega) (by unfold maxLen; omega) HU.out hown5 hg5 hat5); have hlo := (fun q (hq : (Value.slice A t.args.length ac).ownBlock = some q) => (HA2.out.parts.own.lt q hq)); have hB5 : Below (w.heap.size + 1) w4 w5 := ((Below.refl (w.heap.size + 1) w4).alloc (by omega) _).grown hg5 (by simp; omega) (fun q hq => (hlo q hq).1); have b5 : Whole1 w5 z 27 #[.int .i64 t.kind, .int .i64 t.num, .string t.name, .slice L t.labels.length lc, .slice A t.args.length ac] := ((hg5.block z (by simp; omega) (fun e => N2 e.symm)).trans (Below.heap_alloc _ _ _ hz4)).trans HB4.out; have r5 : Whole1 w5 w.heap.size 27 #[.int .i64 0, .int .i64 0, .string ⟨#[]⟩, .slice none 0 0, .slice none 0 0] := HR4.out.below hB5 (by omega); have D0 : w5.cell? ⟨w.heap.size, 0, none⟩ = some (.int .i64 0) := r5.cell 0; have F0 : w5.frozen? ⟨w.heap.size, 0, none⟩ = false := r5.free 0; have D1 : w5.cell? ⟨w.heap.size, 1, none⟩ = some (.int .i64 0) := r5.cell 1; have F1 : w5.frozen? ⟨w.heap.size, 1, none⟩ = false := r5.free 1; have D2 : w5.cell? ⟨w.heap.size, 2, none⟩ = some (.string ⟨#[]⟩) := r5.cell 2; have F2 : w5.frozen? ⟨w.heap.size, 2, none⟩ = false := r5.free 2; have D3 : w5.cell? ⟨w.heap.size, 3, none⟩ = some (.slice none 0 0) := r5.cell 3; have F3 : w5.frozen? ⟨w.heap.size, 3, none⟩ = false := r5.free 3; have D4 : w5.cell? ⟨w.heap.size, 4, none⟩ = some (.slice none 0 0) := r5.cell 4; have F4 : w5.frozen? ⟨w.heap.size, 4, none⟩ = false := r5.free 4; have Q0 : w5.cell? ⟨z, 0, none⟩ = some (.int .i64 t.kind) := b5.cell 0; have U0 : w5.frozen? ⟨z, 0, none⟩ = false := b5.free 0; have Q1 : w5.cell? ⟨z, 1, none⟩ = some (.int .i64 t.num) := b5.cell 1; have U1 : w5.frozen? ⟨z, 1, none⟩ = false := b5.free 1; have Q2 : w5.cell? ⟨z, 2, none⟩ = some (.string t.name) := b5.cell 2; have U2 : w5.frozen? ⟨z, 2, none⟩ = false := b5.free 2; have Q3 : w5.cell? ⟨z, 3, none⟩ = some (.slice L t.labels.length lc) := b5.cell 3; have U3 : w5.frozen? ⟨z, 3, none⟩ = false := b5.free 3; have Q4 : w5.cell? ⟨z, 4, none⟩ = some (.slice A t.args.length ac) := b5.cell 4; have U4 : w5.frozen? ⟨z, 4, none⟩ = false := b5.free 4; have hgz : g ≠ z := (fun e => hat5.elim (fun h => N2 (by rw [h, e])) (fun h => by omega)); have HC5 := Lib.hid (HC4.out.belowP hB5 (by omega)); have HG5 := Lib.hid (grown_low HG4.out hB5 (by omega)); have HAZ := Lib.hid (HAG.out.but (w' := w5.setCell ⟨z, 4, none⟩ (.slice (some ⟨g, 0, none⟩) (t.args.length + 1) cap)) z (by simp [World.setCell]) (fun q _ _ hne => Below.heap_setCell _ _ _ _ hne) N1 (fun e => hgz (Option.some.inj e)) (vspan_snoc N3 (by omega))); have hbz : Below z w5 (w5.setCell ⟨z, 4, none⟩ (.slice (some ⟨g, 0, none⟩) (t.args.length + 1) cap)) := (Below.refl z w5).setCell (Nat.le_refl _) _; have HF := Lib.hid (drawnV_fin0 (n := 4200) HAZ.out.own (by rw [vsz_arg]; have := szVa_leaf 1 (-5) 0; omega) (smallB_arg HNB.out (by decide)) (HC5.out.belowP hbz (by omega)) hpl (grown_low HG5.out hbz (by omega))); clear r5 b5 hB5 hbz hown5 hg5 hat5 hlo))
    all_goals
      go_wp2
      exact bodyPost_ret (v := .agg #[.int .i64 t.kind, .int .i64 t.num, .string t.name, .slice L t.labels.length lc, .slice (some ⟨g, 0, none⟩) (t.args ++ [Va.mk 1 (-5) ⟨#[]⟩ [] []]).length cap]) (by simp [results, Tryd.results35, go_sem, D0, D1, D2, D3, D4]) rfl (HF.out _ _ _ _ _)
  by_cases h4 : x = 4
  · subst h4
    have HPK := Lib.hid (pickS p B w2 hc2)
    go_wp2_with fail
    refine HPK.out.mono ?_
    rintro e w3 ⟨⟨s, rfl, hs⟩, hc3, hg3a⟩
    have hg3 := only_trans (World.grownBy_alloc w2 _ _) hg3a
    clear hg3a
    have hss : s.size ≤ 1 := by
      simp at hs
      rcases hs with rfl | rfl | rfl | rfl <;> decide
    clear hs
    have hs3 := hg3.size
    have hA3 := hA2.grown hg3 (by omega)
    have b3 := b2.grown hg3 (by omega)
    have r3 := r2.grown hg3 (by omega)
    have hg3' := only_trans hg2' hg3
    clear hA2 b2 r2 hg2' hg3 hc2
    have d0 : w3.cell? ⟨w.heap.size, 0, none⟩ = some (.int .i64 0) := r3.cell 0
    have f0 : w3.frozen? ⟨w.heap.size, 0, none⟩ = false := r3.free 0
    have d1 : w3.cell? ⟨w.heap.size, 1, none⟩ = some (.int .i64 0) := r3.cell 1
    have f1 : w3.frozen? ⟨w.heap.size, 1, none⟩ = false := r3.free 1
    have d2 : w3.cell? ⟨w.heap.size, 2, none⟩ = some (.string ⟨#[]⟩) := r3.cell 2
    have f2 : w3.frozen? ⟨w.heap.size, 2, none⟩ = false := r3.free 2
    have d3 : w3.cell? ⟨w.heap.size, 3, none⟩ = some (.slice none 0 0) := r3.cell 3
    have f3 : w3.frozen? ⟨w.heap.size, 3, none⟩ = false := r3.free 3
    have d4 : w3.cell? ⟨w.heap.size, 4, none⟩ = some (.slice none 0 0) := r3.cell 4
    have f4 : w3.frozen? ⟨w.heap.size, 4, none⟩ = false := r3.free 4
    have q0 : w3.cell? ⟨z, 0, none⟩ = some (.int .i64 t.kind) := b3.cell 0
    have u0 : w3.frozen? ⟨z, 0, none⟩ = false := b3.free 0
    have q1 : w3.cell? ⟨z, 1, none⟩ = some (.int .i64 t.num) := b3.cell 1
    have u1 : w3.frozen? ⟨z, 1, none⟩ = false := b3.free 1
    have q2 : w3.cell? ⟨z, 2, none⟩ = some (.string t.name) := b3.cell 2
    have u2 : w3.frozen? ⟨z, 2, none⟩ = false := b3.free 2
    have q3 : w3.cell? ⟨z, 3, none⟩ = some (.slice L t.labels.length lc) := b3.cell 3
    have u3 : w3.frozen? ⟨z, 3, none⟩ = false := b3.free 3
    have q4 : w3.cell? ⟨z, 4, none⟩ = some (.slice A t.args.length ac) := b3.cell 4
    have u4 : w3.frozen? ⟨z, 4, none⟩ = false := b3.free 4
    have hA4 := (hA3.root t.kind t.num s (Nat.le_trans hss (by unfold maxLen; decide))).but (w' := w3.setCell ⟨z, 2, none⟩ (.string s)) z (by simp [World.setCell]) (fun g _ _ hne => Below.heap_setCell _ _ _ _ hne) N1 N2 N3
    have HF := Lib.hid (drawnV_fin0 (n := 4200) hA4.own (by have := szVa_root t t.kind t.num s; omega) (smallB_root HNB.out _ _ _ _ ((smallB_of t HNB.out).1)) (hc3.belowP ((Below.refl z w3).setCell (by simp) _) (by omega)) hpl (grown_set hg3' (by omega) _ _))
    clear r3 b3 hA3 hA4
    go_wp2
    exact bodyPost_ret (v := .agg #[.int .i64 t.kind, .int .i64 t.num, .string s, .slice L t.labels.length lc, .slice A t.args.length ac]) (by simp [results, Tryd.results35, go_sem, d0, d1, d2, d3, d4]) rfl (HF.out _ _ _ _ _)
  have d0 : w2.cell? ⟨w.heap.size, 0, none⟩ = some (.int .i64 0) := r2.cell 0
  have f0 : w2.frozen? ⟨w.heap.size, 0, none⟩ = false := r2.free 0
  have d1 : w2.cell? ⟨w.heap.size, 1, none⟩ = some (.int .i64 0) := r2.cell 1
  have f1 : w2.frozen? ⟨w.heap.size, 1, none⟩ = false := r2.free 1
  have d2 : w2.cell? ⟨w.heap.size, 2, none⟩ = some (.string ⟨#[]⟩) := r2.cell 2
  have f2 : w2.frozen? ⟨w.heap.size, 2, none⟩ = false := r2.free 2
  have d3 : w2.cell? ⟨w.heap.size, 3, none⟩ = some (.slice none 0 0) := r2.cell 3
  have f3 : w2.frozen? ⟨w.heap.size, 3, none⟩ = false := r2.free 3
  have d4 : w2.cell? ⟨w.heap.size, 4, none⟩ = some (.slice none 0 0) := r2.cell 4
  have f4 : w2.frozen? ⟨w.heap.size, 4, none⟩ = false := r2.free 4
  have q0 : w2.cell? ⟨z, 0, none⟩ = some (.int .i64 t.kind) := b2.cell 0
  have u0 : w2.frozen? ⟨z, 0, none⟩ = false := b2.free 0
  have q1 : w2.cell? ⟨z, 1, none⟩ = some (.int .i64 t.num) := b2.cell 1
  have u1 : w2.frozen? ⟨z, 1, none⟩ = false := b2.free 1
  have q2 : w2.cell? ⟨z, 2, none⟩ = some (.string t.name) := b2.cell 2
  have u2 : w2.frozen? ⟨z, 2, none⟩ = false := b2.free 2
  have q3 : w2.cell? ⟨z, 3, none⟩ = some (.slice L t.labels.length lc) := b2.cell 3
  have u3 : w2.frozen? ⟨z, 3, none⟩ = false := b2.free 3
  have q4 : w2.cell? ⟨z, 4, none⟩ = some (.slice A t.args.length ac) := b2.cell 4
  have u4 : w2.frozen? ⟨z, 4, none⟩ = false := b2.free 4
  have HF := Lib.hid (drawnV_fin0 (n := 4200) hA2.own (by omega) HNB.out hc2 hpl hg2')
  clear hA2 b2 r2
  go_wp2
  exact bodyPost_ret (v := .agg #[.int .i64 t.kind, .int .i64 t.num, .string t.name, .slice L t.labels.length lc, .slice A t.args.length ac]) (by simp [results, Tryd.results35, go_sem, d0, d1, d2, d3, d4]) rfl (HF.out _ _ _ _ _)

end Go.Proofs.YtlmbnefoobameaaDoor
