/- The drawn tree is bent; the draws of types. -/
import Derived.Test.YtlmbnefoobameaaDoorDraw3
import Derived.Test.YtlmbnefoobameaaDoorGrow
namespace Go.Proofs.YtlmbnefoobameaaDoor
open Go.RowKit
attribute [local go_sem ↓] Go.wp_at_zero Go.wp_at_succ

theorem drawn_fin_ty {w w3 : World} {B p n : Nat} {v : Value} {t : Ty} (h : OwnTy w3 (w.heap.size + 1) v t) (hn : szTy t ≤ n) (hc : CurAt w3 B p) (hp : p < w.heap.size) (hg : w.grownBy w3 (some p)) (a b c : Value) :
    DrawnTy w B p n (.returned v) (((w3.setCell ⟨w.heap.size, 0, none⟩ a).setCell ⟨w.heap.size, 1, none⟩ b).setCell ⟨w.heap.size, 2, none⟩ c) := by
  have hb : Below w.heap.size w3 (((w3.setCell ⟨w.heap.size, 0, none⟩ a).setCell ⟨w.heap.size, 1, none⟩ b).setCell ⟨w.heap.size, 2, none⟩ c) := (((Below.refl w.heap.size w3).setCell (by simp) _).setCell (by simp) _).setCell (by simp) _
  have hk : ∀ g, g ≠ w.heap.size → (((w3.setCell ⟨w.heap.size, 0, none⟩ a).setCell ⟨w.heap.size, 1, none⟩ b).setCell ⟨w.heap.size, 2, none⟩ c).heap[g]? = w3.heap[g]? := fun g hg => by
    rw [Below.heap_setCell _ _ _ _ hg, Below.heap_setCell _ _ _ _ hg, Below.heap_setCell _ _ _ _ hg]
  exact ⟨⟨v, t, rfl, (h.keep hb.size (fun g h1 _ => hk g (by omega))).base (by omega), hn⟩, hc.belowP hb hp, ⟨hb.os.trans hg.os, hb.tape.trans hg.tape, hb.output.trans hg.output, Nat.le_trans hg.size hb.size, fun i hi hne => (hk i (by omega)).trans (hg.block i hi hne)⟩⟩

theorem pick_azZ (p B : Nat) (W : World) (h : CurAt W B p) :
    Calls Tryd.prog 73 #[.pointer (some ⟨p, 0, none⟩), .slice (some ⟨W.heap.size, 0, none⟩) 3 3] (W.alloc (.cells #[.string ⟨#[97]⟩, .string ⟨#[122]⟩, .string ⟨#[90]⟩] 9)).drew (DrawnStr (W.alloc (.cells #[.string ⟨#[97]⟩, .string ⟨#[122]⟩, .string ⟨#[90]⟩] 9)).drew B p [⟨#[97]⟩, ⟨#[122]⟩, ⟨#[90]⟩]) :=
  l1Pick_any p B (W.heap.size + 1) 3 (some ⟨W.heap.size, 0, none⟩) [⟨#[97]⟩, ⟨#[122]⟩, ⟨#[90]⟩] _ (CurAt.belowP h (((Below.refl W.heap.size W).alloc (Nat.le_refl _) _).drew) h.lt) (StrsAt.of_whole (t := 9) (Whole1.new W _ _) _ (by omega)) (fun q b off e => by cases e; have := h.lt; omega) (by decide) (by decide)
theorem l3Int_new (w : World) : Calls Tryd.prog 74 #[] w.drew (fun e w' => ∃ L lc A ac, e = .returned (.agg #[.int .i64 1, .slice L 0 lc, .slice A 0 ac]) ∧ TyIn w' (Span w.heap.size w'.heap.size) (.agg #[.int .i64 1, .slice L 0 lc, .slice A 0 ac]) (.mk 1 [] []) ∧ Below w.heap.size w w') := by
  refine (l3Int_any w.drew).mono ?_
  rintro e w' ⟨v, rfl, hO, hb⟩
  have hi := hO.owned
  obtain ⟨L, lc, A, ac, rfl⟩ := hO.open
  exact ⟨L, lc, A, ac, rfl, hi, below_a0 hb⟩

set_option maxHeartbeats 4000000 in
theorem specBent_any (p B : Nat) (w : World) (hc : CurAt w B p) : Calls Tryd.prog 36 #[.pointer (some ⟨p, 0, none⟩)] w (DrawnTy w B p 4200) := by
  have hpl := hc.lt
  obtain ⟨hb0, r0, hs0⟩ := boxes1 w 30 #[.int .i64 0, .slice none 0 0, .slice none 0 0]
  have hc0 : CurAt (w.alloc (.cells #[.int .i64 0, .slice none 0 0, .slice none 0 0] 30)) B p := hc.alloc3 _
  have hg0 : w.grownBy (w.alloc (.cells #[.int .i64 0, .slice none 0 0, .slice none 0 0] 30)) (some p) := World.grownBy_alloc w _ _
  have HD : Hid (∀ W, CurAt W B p → Calls Tryd.prog 32 #[.pointer (some ⟨p, 0, none⟩), .int .i64 4] W (DrawnTy W B p 4096)) := Lib.hid (fun W h => specDraw_any 4 (Nat.le_refl _) p B W h)
  have H10 := Lib.hid (fun W h => l1Below_any p B 10 W h (by omega) (by omega))
  have H7 := Lib.hid (fun W h => l1Below_any p B 7 W h (by omega) (by omega))
  have H6 := Lib.hid (fun W h => l1Below_any p B 6 W h (by omega) (by omega))
  clear hc hb0
  go_enter Tryd.func36, Tryd.ntmps36
  go_wp2_with fail
  refine (HD.out _ hc0).mono ?_
  rintro e w1 ⟨⟨v, t, rfl, hO, hz⟩, hc1, hg1⟩
  rw [hs0] at hO
  obtain ⟨L, lc, A, ac, xs, vs, lo, hi, rfl, hA1⟩ := hO.named
  have r1 : Whole1 w1 w.heap.size 30 #[.int .i64 0, .slice none 0 0, .slice none 0 0] := (hg1.block w.heap.size r0.lt (fun e => by injection e with e; omega)).trans r0
  have hg1' := only_trans hg0 hg1
  have hs1 := hg1.size
  rw [hs0] at hs1
  clear hO r0 hg0 hg1 hc0 hs0
  go_wp2_with fail
  have hbW := (Below.refl w1.heap.size w1).alloc (Nat.le_refl _) (.cells #[.int .i64 t.kind, .slice L t.labels.length lc, .slice A t.args.length ac] 30)
  have hcW := hc1.belowP hbW hc1.lt
  have rb := Whole1.new w1 30 #[.int .i64 t.kind, .slice L t.labels.length lc, .slice A t.args.length ac]
  have hOW := hA1.keep (w' := w1.alloc (.cells #[.int .i64 t.kind, .slice L t.labels.length lc, .slice A t.args.length ac] 30)) hbW.size (fun g _ hl => hbW.block g hl) (fun g _ hl => hbW.block g hl) (fun _ _ b _ hl => hbW.block b hl)
  have rW := r1.below hbW r1.lt
  have hgW := only_below hg1' hbW
  have hsW : (w1.alloc (.cells #[.int .i64 t.kind, .slice L t.labels.length lc, .slice A t.args.length ac] 30)).heap.size = w1.heap.size + 1 := by simp
  have N1 : (Value.slice L t.labels.length lc).ownBlock ≠ some w1.heap.size := fun e => by have := (hA1.row.lt _ e).2; omega
  have N2 : (Value.slice A t.args.length ac).ownBlock ≠ some w1.heap.size := fun e => by have := (hA1.parts.own.lt _ e).2; omega
  have N3 : ∀ i, i < t.args.length → ¬ Span (lo i) (hi i) w1.heap.size := fun i hi' hb => by have := (hA1.parts.low i hi').2; have := hb.2; omega
  clear hbW hc1 hA1 r1 hg1'
  generalize hz1 : w1.heap.size = z at *
  generalize w1.alloc (.cells #[.int .i64 t.kind, .slice L t.labels.length lc, .slice A t.args.length ac] 30) = W at *
  refine (H10.out _ hcW).mono ?_
  rintro e w2 ⟨⟨x, rfl, hx0, hx1⟩, hc2, hg2⟩
  have hs2 := hg2.size
  have hA2 := hOW.grown hg2 (by omega)
  have b2 : Whole1 w2 z 30 #[.int .i64 t.kind, .slice L t.labels.length lc, .slice A t.args.length ac] := (hg2.block z (by omega) (fun e => by injection e with e; omega)).trans rb
  have r2 : Whole1 w2 w.heap.size 30 #[.int .i64 0, .slice none 0 0, .slice none 0 0] := (hg2.block w.heap.size (by omega) (fun e => by injection e with e; omega)).trans rW
  have hg2' := only_trans hgW hg2
  clear hcW rb hOW rW hgW hg2
  have hzr : z ≠ w.heap.size := by omega
  have hrz : w.heap.size ≠ z := by omega
  by_cases h0 : x = 0
  · subst h0
    go_wp2_with fail
    refine (H7.out _ hc2).mono ?_
    rintro e w3 ⟨⟨y, rfl, hy0, hy1⟩, hc3, hg3⟩
    have hs3 := hg3.size
    have hA3 := hA2.grown hg3 (by omega)
    have b3 : Whole1 w3 z 30 #[.int .i64 t.kind, .slice L t.labels.length lc, .slice A t.args.length ac] := (hg3.block z (by omega) (fun e => by injection e with e; omega)).trans b2
    have r3 : Whole1 w3 w.heap.size 30 #[.int .i64 0, .slice none 0 0, .slice none 0 0] := (hg3.block w.heap.size (by omega) (fun e => by injection e with e; omega)).trans r2
    have hg3' := only_trans hg2' hg3
    have d0 : w3.cell? ⟨w.heap.size, 0, none⟩ = some (.int .i64 0) := r3.cell 0
    have f0 : w3.frozen? ⟨w.heap.size, 0, none⟩ = false := r3.free 0
    have d1 : w3.cell? ⟨w.heap.size, 1, none⟩ = some (.slice none 0 0) := r3.cell 1
    have f1 : w3.frozen? ⟨w.heap.size, 1, none⟩ = false := r3.free 1
    have d2 : w3.cell? ⟨w.heap.size, 2, none⟩ = some (.slice none 0 0) := r3.cell 2
    have f2 : w3.frozen? ⟨w.heap.size, 2, none⟩ = false := r3.free 2
    have q0 : w3.cell? ⟨z, 0, none⟩ = some (.int .i64 t.kind) := b3.cell 0
    have u0 : w3.frozen? ⟨z, 0, none⟩ = false := b3.free 0
    have q1 : w3.cell? ⟨z, 1, none⟩ = some (.slice L t.labels.length lc) := b3.cell 1
    have u1 : w3.frozen? ⟨z, 1, none⟩ = false := b3.free 1
    have q2 : w3.cell? ⟨z, 2, none⟩ = some (.slice A t.args.length ac) := b3.cell 2
    have u2 : w3.frozen? ⟨z, 2, none⟩ = false := b3.free 2
    have hA4 := (hA3.kind y).but (w' := w3.setCell ⟨z, 0, none⟩ (.int .i64 y)) z (by simp [World.setCell]) (fun g _ _ hne => Below.heap_setCell _ _ _ _ hne) N1 N2 N3
    have HF := Lib.hid (drawn_fin_ty (n := 4200) hA4.own (by rw [szTy_eq] at hz ⊢; simp only [Ty.labels, Ty.args] at hz ⊢; omega) (hc3.belowP ((Below.refl z w3).setCell (by simp) _) (by omega)) hpl ⟨hg3'.os, hg3'.tape, hg3'.output, by simpa [World.setCell] using hg3'.size, fun i h1 h2 => (Below.heap_setCell _ _ _ _ (by show i ≠ z; omega)).trans (hg3'.block i h1 h2)⟩)
    clear r3 b3 hA3 hA4
    go_wp2
    exact bodyPost_ret (v := .agg #[.int .i64 y, .slice L t.labels.length lc, .slice A t.args.length ac]) (by simp [results, Tryd.results36, go_sem, d0, d1, d2]) rfl (HF.out _ _ _)
  · by_cases h1 : x = 1
    · subst h1
      obtain ⟨i0, hi0, hw0, hw1, hw2⟩ := info_parts infoString
      have hll : t.labels.length ≤ 4096 := by
        have := szTy_eq t
        omega
      have HPK := Lib.hid (pick_azZ p B w2 hc2)
      have d0 : w2.cell? ⟨w.heap.size, 0, none⟩ = some (.int .i64 0) := r2.cell 0
      have f0 : w2.frozen? ⟨w.heap.size, 0, none⟩ = false := r2.free 0
      have d1 : w2.cell? ⟨w.heap.size, 1, none⟩ = some (.slice none 0 0) := r2.cell 1
      have f1 : w2.frozen? ⟨w.heap.size, 1, none⟩ = false := r2.free 1
      have d2 : w2.cell? ⟨w.heap.size, 2, none⟩ = some (.slice none 0 0) := r2.cell 2
      have f2 : w2.frozen? ⟨w.heap.size, 2, none⟩ = false := r2.free 2
      have q0 : w2.cell? ⟨z, 0, none⟩ = some (.int .i64 t.kind) := b2.cell 0
      have u0 : w2.frozen? ⟨z, 0, none⟩ = false := b2.free 0
      have q1 : w2.cell? ⟨z, 1, none⟩ = some (.slice L t.labels.length lc) := b2.cell 1
      have u1 : w2.frozen? ⟨z, 1, none⟩ = false := b2.free 1
      have q2 : w2.cell? ⟨z, 2, none⟩ = some (.slice A t.args.length ac) := b2.cell 2
      have u2 : w2.frozen? ⟨z, 2, none⟩ = false := b2.free 2
      have hzl := b2.lt
      have hbL := (Below.refl w2.heap.size w2).alloc (Nat.le_refl _) (.cells #[.string ⟨#[97]⟩, .string ⟨#[122]⟩, .string ⟨#[90]⟩] 9)
      have q1' : (w2.alloc (.cells #[.string ⟨#[97]⟩, .string ⟨#[122]⟩, .string ⟨#[90]⟩] 9)).cell? ⟨z, 1, none⟩ = some (.slice L t.labels.length lc) := (hbL.cell (p := ⟨z, 1, none⟩) hzl).trans q1
      have HAL := Lib.hid (hA2.keep (w' := w2.alloc (.cells #[.string ⟨#[97]⟩, .string ⟨#[122]⟩, .string ⟨#[90]⟩] 9)) hbL.size (fun g _ hl => hbL.block g hl) (fun g _ hl => hbL.block g hl) (fun _ _ b _ hl => hbL.block b hl))
      have HGL := Lib.hid (only_below hg2' hbL)
      have HRL := Lib.hid (r2.below hbL r2.lt)
      have HBL := Lib.hid (b2.below hbL b2.lt)
      have hzL : z < (w2.alloc (.cells #[.string ⟨#[97]⟩, .string ⟨#[122]⟩, .string ⟨#[90]⟩] 9)).heap.size := Nat.lt_of_lt_of_le hzl hbL.size
      have hsL := hbL.size
      clear hA2 hc2 hg2' r2 b2 hbL
      go_wp2
      go_region_law (first
        | (go_simp; go_at_call 73; (with_reducible refine HPK.out.mono ?_); rintro e w4 ⟨⟨s, rfl, hs⟩, hc4, hg4'⟩; have hg4 : (w2.alloc (.cells #[.string ⟨#[97]⟩, .string ⟨#[122]⟩, .string ⟨#[90]⟩] 9)).grownBy w4 (some p) := ⟨hg4'.os, hg4'.tape, hg4'.output, hg4'.size, hg4'.block⟩; clear hg4'; have hs4 := hg4.size; have HS := Lib.hid hs; have HA4 := Lib.hid (OwnAt.grown (w := w2.alloc (.cells #[.string ⟨#[97]⟩, .string ⟨#[122]⟩, .string ⟨#[90]⟩] 9)) HAL.out hg4 (by omega)); have b4 : Whole1 w4 z 30 #[.int .i64 t.kind, .slice L t.labels.length lc, .slice A t.args.length ac] := (hg4.block z hzL (fun e => by injection e with e; omega)).trans HBL.out; have HB4 := Lib.hid b4; have HR4 : Hid (Whole1 w4 w.heap.size 30 #[.int .i64 0, .slice none 0 0, .slice none 0 0]) := Lib.hid ((hg4.block w.heap.size HRL.out.lt (fun e => by injection e with e; omega)).trans HRL.out); have HG4 := Lib.hid (only_trans (b := w2.alloc (.cells #[.string ⟨#[97]⟩, .string ⟨#[122]⟩, .string ⟨#[90]⟩] 9)) HGL.out hg4); have HC4 := Lib.hid hc4; have p1 : w4.cell? ⟨z, 1, none⟩ = some (.slice L t.labels.length lc) := b4.cell 1; have hz4 : z < w4.heap.size := b4.lt; have p1' : (w4.alloc (.cells #[.string s] 9)).cell? ⟨z, 1, none⟩ = some (.slice L t.labels.length lc) := ((((Below.refl w4.heap.size w4).alloc (Nat.le_refl _) _)).cell (p := ⟨z, 1, none⟩) hz4).trans p1; clear b4 hc4 hg4 hs)
        | (have hN := news1 w4 9 (.string s) rfl; have HA5 := Lib.hid (HA4.out.keep (w' := w4.alloc (.cells #[.string s] 9)) (by simp) (fun g _ hl => Below.heap_alloc _ _ _ hl) (fun g _ hl => Below.heap_alloc _ _ _ hl) (fun _ _ b _ hl => Below.heap_alloc _ _ _ hl)); refine step_append_lies _ (by rfl) (.tmp 18) (.tmp 22) _ (by rfl) (w.heap.size + 1) 9 i0 (.string ⟨#[]⟩) 1 16 Tryd.underlying24 hi0 hw0 hw1 hw2 rfl (by decide) _ t.labels.length (strVals t.labels) (by rfl) HA5.out.row ⟨w4.heap.size, 0, none⟩ 1 1 [.string s] (by rfl) rfl hN.1 hN.2 (by omega) (by unfold maxLen; omega) (by omega) (by simp; omega) (w4.heap.size + 1) (by simp) ?_; intro g cap w5 hown5 hg5 hat5 hlt5; have HAG := Lib.hid (HA5.out.label s (by have := HS.out; simp at this; rcases this with rfl | rfl | rfl <;> (unfold maxLen; decide)) hown5 hg5 (hat5.imp id (fun e => by simp; omega))); have hlo := (fun q (hq : (Value.slice L t.labels.length lc).ownBlock = some q) => (HA4.out.row.lt q hq)); have hB5 : Below (w.heap.size + 1) w4 w5 := ((Below.refl (w.heap.size + 1) w4).alloc (by omega) _).grown hg5 (by simp; omega) (fun q hq => (hlo q hq).1); have b5 : Whole1 w5 z 30 #[.int .i64 t.kind, .slice L t.labels.length lc, .slice A t.args.length ac] := ((hg5.block z (by simp; omega) (fun e => N1 e.symm)).trans (Below.heap_alloc _ _ _ hz4)).trans HB4.out; have r5 : Whole1 w5 w.heap.size 30 #[.int .i64 0, .slice none 0 0, .slice none 0 0] := HR4.out.below hB5 (by omega); have D0 : w5.cell? ⟨w.heap.size, 0, none⟩ = some (.int .i64 0) := r5.cell 0; have F0 : w5.frozen? ⟨w.heap.size, 0, none⟩ = false := r5.free 0; have D1 : w5.cell? ⟨w.heap.size, 1, none⟩ = some (.slice none 0 0) := r5.cell 1; have F1 : w5.frozen? ⟨w.heap.size, 1, none⟩ = false := r5.free 1; have D2 : w5.cell? ⟨w.heap.size, 2, none⟩ = some (.slice none 0 0) := r5.cell 2; have F2 : w5.frozen? ⟨w.heap.size, 2, none⟩ = false := r5.free 2; have Q0 : w5.cell? ⟨z, 0, none⟩ = some (.int .i64 t.kind) := b5.cell 0; have U0 : w5.frozen? ⟨z, 0, none⟩ = false := b5.free 0; have Q1 : w5.cell? ⟨z, 1, none⟩ = some (.slice L t.labels.length lc) := b5.cell 1; have U1 : w5.frozen? ⟨z, 1, none⟩ = false := b5.free 1; have Q2 : w5.cell? ⟨z, 2, none⟩ = some (.slice A t.args.length ac) := b5.cell 2; have U2 : w5.frozen? ⟨z, 2, none⟩ = false := b5.free 2; have hgz : g ≠ z := (fun e => hat5.elim (fun h => N1 (by rw [h, e])) (fun h => by omega)); have HC5 := Lib.hid (HC4.out.belowP hB5 (by omega)); have HG5 := Lib.hid (grown_low HG4.out hB5 (by omega)); have HAZ := Lib.hid (HAG.out.but (w' := w5.setCell ⟨z, 1, none⟩ (.slice (some ⟨g, 0, none⟩) (t.labels.length + 1) cap)) z (by simp [World.setCell]) (fun q _ _ hne => Below.heap_setCell _ _ _ _ hne) (fun e => hgz (Option.some.inj e)) N2 N3); have hbz : Below z w5 (w5.setCell ⟨z, 1, none⟩ (.slice (some ⟨g, 0, none⟩) (t.labels.length + 1) cap)) := (Below.refl z w5).setCell (Nat.le_refl _) _; have HF := Lib.hid (drawn_fin_ty (n := 4200) HAZ.out.own (by rw [sz_label]; have := HS.out; simp at this; rcases this with rfl | rfl | rfl <;> (simp [ByteArray.size]; omega)) (HC5.out.belowP hbz (by omega)) hpl (grown_low HG5.out hbz (by omega))); clear r5 b5 hB5 hbz hown5 hg5 hat5 hlo))
      all_goals
        go_wp2
        exact bodyPost_ret (v := .agg #[.int .i64 t.kind, .slice (some ⟨g, 0, none⟩) (t.labels ++ [s]).length cap, .slice A t.args.length ac]) (by simp [results, Tryd.results36, go_sem, D0, D1, D2]) rfl (HF.out _ _ _)
    · by_cases h2 : x = 2
      · subst h2
        obtain ⟨i1, hi1, hy0, hy1, hy2⟩ := info_parts infoType
        have hla : t.args.length ≤ 4096 := by
          have := szTy_eq t
          have := szTys_len t.args
          omega
        have HIN := Lib.hid (l3Int_new w2)
        have d0 : w2.cell? ⟨w.heap.size, 0, none⟩ = some (.int .i64 0) := r2.cell 0
        have f0 : w2.frozen? ⟨w.heap.size, 0, none⟩ = false := r2.free 0
        have d1 : w2.cell? ⟨w.heap.size, 1, none⟩ = some (.slice none 0 0) := r2.cell 1
        have f1 : w2.frozen? ⟨w.heap.size, 1, none⟩ = false := r2.free 1
        have d2 : w2.cell? ⟨w.heap.size, 2, none⟩ = some (.slice none 0 0) := r2.cell 2
        have f2 : w2.frozen? ⟨w.heap.size, 2, none⟩ = false := r2.free 2
        have q0 : w2.cell? ⟨z, 0, none⟩ = some (.int .i64 t.kind) := b2.cell 0
        have u0 : w2.frozen? ⟨z, 0, none⟩ = false := b2.free 0
        have q1 : w2.cell? ⟨z, 1, none⟩ = some (.slice L t.labels.length lc) := b2.cell 1
        have u1 : w2.frozen? ⟨z, 1, none⟩ = false := b2.free 1
        have q2 : w2.cell? ⟨z, 2, none⟩ = some (.slice A t.args.length ac) := b2.cell 2
        have u2 : w2.frozen? ⟨z, 2, none⟩ = false := b2.free 2
        have hzl := b2.lt
        have HA2 := Lib.hid hA2
        have HG2 := Lib.hid hg2'
        have HR2 := Lib.hid r2
        have HB2 := Lib.hid b2
        have HC2 := Lib.hid hc2
        clear hA2 hc2 hg2' r2 b2
        go_wp2
        go_region_law (first
          | (go_simp; go_at_call 74; (with_reducible refine HIN.out.mono ?_); rintro e w4 ⟨L4, lc4, A4, ac4, rfl, hu4, hb4⟩; have hs4 := hb4.size; have HU := Lib.hid hu4; have HBB := Lib.hid hb4; have HA4 := Lib.hid (HA2.out.keep (w' := w4) hs4 (fun g _ hl => hb4.block g hl) (fun g _ hl => hb4.block g hl) (fun _ _ b _ hl => hb4.block b hl)); have b4 : Whole1 w4 z 30 #[.int .i64 t.kind, .slice L t.labels.length lc, .slice A t.args.length ac] := HB2.out.below hb4 hzl; have HB4 := Lib.hid b4; have HR4 : Hid (Whole1 w4 w.heap.size 30 #[.int .i64 0, .slice none 0 0, .slice none 0 0]) := Lib.hid (HR2.out.below hb4 HR2.out.lt); have HG4 := Lib.hid (only_below HG2.out hb4); have HC4 := Lib.hid (HC2.out.belowP hb4 HC2.out.lt); have p1 : w4.cell? ⟨z, 2, none⟩ = some (.slice A t.args.length ac) := b4.cell 2; have hz4 : z < w4.heap.size := b4.lt; have p1' : (w4.alloc (.cells #[.int .i64 1, .slice L4 0 lc4, .slice A4 0 ac4] 30)).cell? ⟨z, 2, none⟩ = some (.slice A t.args.length ac) := ((((Below.refl w4.heap.size w4).alloc (Nat.le_refl _) _)).cell (p := ⟨z, 2, none⟩) hz4).trans p1; clear b4 hu4 hb4)
          | (have hN := news3 w4 30 (.int .i64 1) (.slice L4 0 lc4) (.slice A4 0 ac4); have HA5 := Lib.hid (HA4.out.keep (w' := w4.alloc (.cells #[.int .i64 1, .slice L4 0 lc4, .slice A4 0 ac4] 30)) (by simp) (fun g _ hl => Below.heap_alloc _ _ _ hl) (fun g _ hl => Below.heap_alloc _ _ _ hl) (fun _ _ b _ hl => Below.heap_alloc _ _ _ hl)); refine step_append_lies _ (by rfl) (.tmp 28) (.tmp 30) _ (by rfl) (w.heap.size + 1) 30 i1 (.agg #[.int .i64 0, .slice none 0 0, .slice none 0 0]) 3 56 Tryd.underlying28 hi1 hy0 hy1 hy2 rfl (by decide) _ t.args.length xs (by rfl) HA5.out.parts.own ⟨w4.heap.size, 0, none⟩ 1 1 [.int .i64 1, .slice L4 0 lc4, .slice A4 0 ac4] (by rfl) rfl hN.1 hN.2 (by omega) (by unfold maxLen; omega) (by omega) (by simp; omega) (w4.heap.size + 1) (by simp) ?_; intro g cap w5 hown5 hg5 hat5 hlt5; have HAG := Lib.hid (HA2.out.arg (.mk 1 [] []) HBB.out (by omega) (by unfold maxLen; omega) HU.out hown5 hg5 hat5); have hlo := (fun q (hq : (Value.slice A t.args.length ac).ownBlock = some q) => (HA2.out.parts.own.lt q hq)); have hB5 : Below (w.heap.size + 1) w4 w5 := ((Below.refl (w.heap.size + 1) w4).alloc (by omega) _).grown hg5 (by simp; omega) (fun q hq => (hlo q hq).1); have b5 : Whole1 w5 z 30 #[.int .i64 t.kind, .slice L t.labels.length lc, .slice A t.args.length ac] := ((hg5.block z (by simp; omega) (fun e => N2 e.symm)).trans (Below.heap_alloc _ _ _ hz4)).trans HB4.out; have r5 : Whole1 w5 w.heap.size 30 #[.int .i64 0, .slice none 0 0, .slice none 0 0] := HR4.out.below hB5 (by omega); have D0 : w5.cell? ⟨w.heap.size, 0, none⟩ = some (.int .i64 0) := r5.cell 0; have F0 : w5.frozen? ⟨w.heap.size, 0, none⟩ = false := r5.free 0; have D1 : w5.cell? ⟨w.heap.size, 1, none⟩ = some (.slice none 0 0) := r5.cell 1; have F1 : w5.frozen? ⟨w.heap.size, 1, none⟩ = false := r5.free 1; have D2 : w5.cell? ⟨w.heap.size, 2, none⟩ = some (.slice none 0 0) := r5.cell 2; have F2 : w5.frozen? ⟨w.heap.size, 2, none⟩ = false := r5.free 2; have Q0 : w5.cell? ⟨z, 0, none⟩ = some (.int .i64 t.kind) := b5.cell 0; have U0 : w5.frozen? ⟨z, 0, none⟩ = false := b5.free 0; have Q1 : w5.cell? ⟨z, 1, none⟩ = some (.slice L t.labels.length lc) := b5.cell 1; have U1 : w5.frozen? ⟨z, 1, none⟩ = false := b5.free 1; have Q2 : w5.cell? ⟨z, 2, none⟩ = some (.slice A t.args.length ac) := b5.cell 2; have U2 : w5.frozen? ⟨z, 2, none⟩ = false := b5.free 2; have hgz : g ≠ z := (fun e => hat5.elim (fun h => N2 (by rw [h, e])) (fun h => by omega)); have HC5 := Lib.hid (HC4.out.belowP hB5 (by omega)); have HG5 := Lib.hid (grown_low HG4.out hB5 (by omega)); have HAZ := Lib.hid (HAG.out.but (w' := w5.setCell ⟨z, 2, none⟩ (.slice (some ⟨g, 0, none⟩) (t.args.length + 1) cap)) z (by simp [World.setCell]) (fun q _ _ hne => Below.heap_setCell _ _ _ _ hne) N1 (fun e => hgz (Option.some.inj e)) (span_snoc N3 (by omega))); have hbz : Below z w5 (w5.setCell ⟨z, 2, none⟩ (.slice (some ⟨g, 0, none⟩) (t.args.length + 1) cap)) := (Below.refl z w5).setCell (Nat.le_refl _) _; have HF := Lib.hid (drawn_fin_ty (n := 4200) HAZ.out.own (by rw [sz_arg]; simp only [szTy, szTys, sumSizes, List.map_nil, List.sum_nil, List.length_nil]; omega) (HC5.out.belowP hbz (by omega)) hpl (grown_low HG5.out hbz (by omega))); clear r5 b5 hB5 hbz hown5 hg5 hat5 hlo))
        all_goals
          go_wp2
          exact bodyPost_ret (v := .agg #[.int .i64 t.kind, .slice L t.labels.length lc, .slice (some ⟨g, 0, none⟩) (t.args ++ [Ty.mk 1 [] []]).length cap]) (by simp [results, Tryd.results36, go_sem, D0, D1, D2]) rfl (HF.out _ _ _)
      · by_cases h3 : x = 3
        · subst h3
          go_wp2_with fail
          refine (H6.out _ hc2).mono ?_
          rintro e w3 ⟨⟨y, rfl, hy0, hy1⟩, hc3, hg3⟩
          have hs3 := hg3.size
          have hA3 := (hA2.grown hg3 (by omega)).own
          have b3 : Whole1 w3 z 30 #[.int .i64 t.kind, .slice L t.labels.length lc, .slice A t.args.length ac] := (hg3.block z (by omega) (fun e => by injection e with e; omega)).trans b2
          have r3 : Whole1 w3 w.heap.size 30 #[.int .i64 0, .slice none 0 0, .slice none 0 0] := (hg3.block w.heap.size (by omega) (fun e => by injection e with e; omega)).trans r2
          have hg3' := only_trans hg2' hg3
          clear hg3 b2 r2 hg2' hA2 hc2
          go_wp2
          go_loopw [5] (fun i wr => ∃ (k : Nat) (t' : Ty) (L' A' : Option Addr) (lc' ac' : Nat), (k : Int) ≤ 1 + y ∧ i = .int .i64 k ∧ Whole1 wr z 30 #[.int .i64 t'.kind, .slice L' t'.labels.length lc', .slice A' t'.args.length ac'] ∧ OwnTy wr (w.heap.size + 1) (.agg #[.int .i64 t'.kind, .slice L' t'.labels.length lc', .slice A' t'.args.length ac']) t' ∧ szTy t' ≤ 4096 + k ∧ Whole1 wr w.heap.size 30 #[.int .i64 0, .slice none 0 0, .slice none 0 0] ∧ CurAt wr B p ∧ w.grownBy wr (some p)) (fun i _ => (1 + y).toNat - (intOf i).toNat)
          case atStart => exact ⟨0, t, L, A, lc, ac, by omega, rfl, b3, hA3, by omega, r3, hc3, hg3'⟩
          case round =>
            obtain ⟨k, t', L', A', lc', ac', hk, rfl, hb, hO, hz', hr, hc, hg⟩ := hrel
            have hzl := hb.lt
            have d0 : wr.cell? ⟨w.heap.size, 0, none⟩ = some (.int .i64 0) := hr.cell 0
            have f0 : wr.frozen? ⟨w.heap.size, 0, none⟩ = false := hr.free 0
            have d1 : wr.cell? ⟨w.heap.size, 1, none⟩ = some (.slice none 0 0) := hr.cell 1
            have f1 : wr.frozen? ⟨w.heap.size, 1, none⟩ = false := hr.free 1
            have d2 : wr.cell? ⟨w.heap.size, 2, none⟩ = some (.slice none 0 0) := hr.cell 2
            have f2 : wr.frozen? ⟨w.heap.size, 2, none⟩ = false := hr.free 2
            have q0 : wr.cell? ⟨z, 0, none⟩ = some (.int .i64 t'.kind) := hb.cell 0
            have u0 : wr.frozen? ⟨z, 0, none⟩ = false := hb.free 0
            have q1 : wr.cell? ⟨z, 1, none⟩ = some (.slice L' t'.labels.length lc') := hb.cell 1
            have u1 : wr.frozen? ⟨z, 1, none⟩ = false := hb.free 1
            have q2 : wr.cell? ⟨z, 2, none⟩ = some (.slice A' t'.args.length ac') := hb.cell 2
            have u2 : wr.frozen? ⟨z, 2, none⟩ = false := hb.free 2
            have HO := Lib.hid hO
            have HR := Lib.hid hr
            have HBX := Lib.hid hb
            have HG := Lib.hid hg
            have HCC := Lib.hid hc
            clear hO hr hb hg hc b3 r3 hA3 hc3 hg3'
            by_cases hlt : (k : Int) < 1 + y
            · have HL := Lib.hid (l3List_any t' _ wr HO.out.owned.here (by omega))
              go_wp2_with fail
              refine HL.out.mono ?_
              rintro e w4 ⟨v', rfl, hO4, hb4⟩
              obtain ⟨L4, lc4, A4, ac4, rfl⟩ := hO4.open
              have b4 := HBX.out.below hb4 hzl
              have HR4 := Lib.hid (HR.out.below hb4 HR.out.lt)
              have u0' : w4.frozen? ⟨z, 0, none⟩ = false := b4.free 0
              have u1' : w4.frozen? ⟨z, 1, none⟩ = false := b4.free 1
              have u2' : w4.frozen? ⟨z, 2, none⟩ = false := b4.free 2
              have q0' : w4.cell? ⟨z, 0, none⟩ = some (.int .i64 t'.kind) := b4.cell 0
              have q1' : w4.cell? ⟨z, 1, none⟩ = some (.slice L' t'.labels.length lc') := b4.cell 1
              have q2' : w4.cell? ⟨z, 2, none⟩ = some (.slice A' t'.args.length ac') := b4.cell 2
              have HB4 := Lib.hid b4
              have HO4 := Lib.hid hO4
              clear b4 hO4
              have hrl := HR.out.lt
              go_wp2
              go_roundw
              case rel => exact ⟨k + 1, .mk 5 [] [t'], L4, A4, lc4, ac4, by omega, by go_num, ((HB4.out.set 0 _).set 1 _).set 2 _, (OwnTy.keep HO4.out (by simp [World.setCell]) (fun g hg' _ => by
                have hne : g ≠ z := by omega
                rw [Below.heap_setCell _ _ _ _ hne, Below.heap_setCell _ _ _ _ hne, Below.heap_setCell _ _ _ _ hne])).base (by omega), by simp only [szTy, szTys, sumSizes, List.map_nil, List.sum_nil, List.length_nil]; omega, (((Below.heap_setCell _ _ _ _ hrz).trans ((Below.heap_setCell _ _ _ _ hrz).trans (Below.heap_setCell _ _ _ _ hrz)))).trans HR4.out, (HCC.out.belowP hb4 HCC.out.lt).belowP ((((Below.refl z w4).setCell (by simp) _).setCell (by simp) _).setCell (by simp) _) (by omega), box_grown (only_below HG.out hb4) (by omega) _ _ _⟩
              case measure => simp [intOf]; omega
            · have HF := Lib.hid (drawn_fin_ty (n := 4200) HO.out (by omega) HCC.out hpl HG.out)
              go_wp2
              exact bodyPost_ret (v := .agg #[.int .i64 t'.kind, .slice L' t'.labels.length lc', .slice A' t'.args.length ac']) (by simp [results, Tryd.results36, go_sem, d0, d1, d2]) rfl (HF.out _ _ _)
        · have HF := Lib.hid (drawn_fin_ty (n := 4200) hA2.own (by omega) hc2 hpl hg2')
          have d0 : w2.cell? ⟨w.heap.size, 0, none⟩ = some (.int .i64 0) := r2.cell 0
          have f0 : w2.frozen? ⟨w.heap.size, 0, none⟩ = false := r2.free 0
          have d1 : w2.cell? ⟨w.heap.size, 1, none⟩ = some (.slice none 0 0) := r2.cell 1
          have f1 : w2.frozen? ⟨w.heap.size, 1, none⟩ = false := r2.free 1
          have d2 : w2.cell? ⟨w.heap.size, 2, none⟩ = some (.slice none 0 0) := r2.cell 2
          have f2 : w2.frozen? ⟨w.heap.size, 2, none⟩ = false := r2.free 2
          have q0 : w2.cell? ⟨z, 0, none⟩ = some (.int .i64 t.kind) := b2.cell 0
          have u0 : w2.frozen? ⟨z, 0, none⟩ = false := b2.free 0
          have q1 : w2.cell? ⟨z, 1, none⟩ = some (.slice L t.labels.length lc) := b2.cell 1
          have u1 : w2.frozen? ⟨z, 1, none⟩ = false := b2.free 1
          have q2 : w2.cell? ⟨z, 2, none⟩ = some (.slice A t.args.length ac) := b2.cell 2
          have u2 : w2.frozen? ⟨z, 2, none⟩ = false := b2.free 2
          clear hA2 b2 r2
          go_wp2
          exact bodyPost_ret (v := .agg #[.int .i64 t.kind, .slice L t.labels.length lc, .slice A t.args.length ac]) (by simp [results, Tryd.results36, go_sem, d0, d1, d2]) rfl (HF.out _ _ _)

end Go.Proofs.YtlmbnefoobameaaDoor

namespace Go.Proofs.YtlmbnefoobameaaDoor
open Go.RowKit
attribute [local go_sem ↓] Go.wp_at_zero Go.wp_at_succ

/-- A tree is drawn, in new blocks; what was there stands. -/
def GivesTy (w : World) (e : Ending) (w' : World) : Prop := (∃ v t, e = .returned v ∧ TyIn w' (Span w.heap.size w'.heap.size) v t ∧ szTy t ≤ 4200) ∧ Below w.heap.size w w'

theorem BytesAt.alloc {w : World} {A : Option Addr} {n : Nat} (h : BytesAt w w.heap.size A n) (o : Obj) : BytesAt (w.alloc o) (w.alloc o).heap.size A n :=
  (h.below ((Below.refl w.heap.size w).alloc (Nat.le_refl _) o)).keepMore (by simp)
theorem tyIn_set3 {w2 : World} {lo : Nat} {v : Value} {t : Ty} (h : TyIn w2 (Span lo w2.heap.size) v t) (q b0 : Nat) (hq : q < lo) (hb : b0 ≤ lo) (a b c : Value) :
    TyIn (((w2.setCell ⟨q, 0, none⟩ a).setCell ⟨q, 1, none⟩ b).setCell ⟨q, 2, none⟩ c) (Span b0 (((w2.setCell ⟨q, 0, none⟩ a).setCell ⟨q, 1, none⟩ b).setCell ⟨q, 2, none⟩ c).heap.size) v t := by
  have hk : ∀ g, g ≠ q → (((w2.setCell ⟨q, 0, none⟩ a).setCell ⟨q, 1, none⟩ b).setCell ⟨q, 2, none⟩ c).heap[g]? = w2.heap[g]? := fun g hg => by
    rw [Below.heap_setCell _ _ _ _ hg, Below.heap_setCell _ _ _ _ hg, Below.heap_setCell _ _ _ _ hg]
  have hs : (((w2.setCell ⟨q, 0, none⟩ a).setCell ⟨q, 1, none⟩ b).setCell ⟨q, 2, none⟩ c).heap.size = w2.heap.size := by simp [World.setCell]
  rw [hs]
  exact (h.keep fun g hg _ => hk g (by have := hg.1; omega)).wide fun g hg => ⟨Nat.le_trans hb hg.1, hg.2⟩

/-- A tree and a string are drawn. -/
def GivesTyName (w : World) (e : Ending) (w' : World) : Prop := (∃ v t s, e = .returned (.tuple #[v, .string s]) ∧ TyIn w' (Span w.heap.size w'.heap.size) v t ∧ szTy t ≤ 4200 ∧ s.size ≤ 8) ∧ Below w.heap.size w w'
theorem pick_abpz (p B : Nat) (W : World) (h : CurAt W B p) :
    Calls Tryd.prog 73 #[.pointer (some ⟨p, 0, none⟩), .slice (some ⟨W.heap.size, 0, none⟩) 4 4] (W.alloc (.cells #[.string ⟨#[97]⟩, .string ⟨#[98]⟩, .string ⟨#[112]⟩, .string ⟨#[122]⟩] 9)) (DrawnStr (W.alloc (.cells #[.string ⟨#[97]⟩, .string ⟨#[98]⟩, .string ⟨#[112]⟩, .string ⟨#[122]⟩] 9)) B p [⟨#[97]⟩, ⟨#[98]⟩, ⟨#[112]⟩, ⟨#[122]⟩]) :=
  l1Pick_any p B (W.heap.size + 1) 4 (some ⟨W.heap.size, 0, none⟩) [⟨#[97]⟩, ⟨#[98]⟩, ⟨#[112]⟩, ⟨#[122]⟩] _ (CurAt.belowP h ((Below.refl W.heap.size W).alloc (Nat.le_refl _) _) h.lt) (StrsAt.of_whole (t := 9) (Whole1.new W _ _) _ (by omega)) (fun q b off e => by cases e; have := h.lt; omega) (by decide) (by decide)
theorem pick_abpz' (p B : Nat) (W : World) (h : CurAt W B p) :
    Calls Tryd.prog 73 #[.pointer (some ⟨p, 0, none⟩), .slice (some ⟨W.heap.size, 0, none⟩) 4 4] (W.alloc (.cells #[.string ⟨#[97]⟩, .string ⟨#[98]⟩, .string ⟨#[112]⟩, .string ⟨#[122]⟩] 9)).drew (DrawnStr (W.alloc (.cells #[.string ⟨#[97]⟩, .string ⟨#[98]⟩, .string ⟨#[112]⟩, .string ⟨#[122]⟩] 9)).drew B p [⟨#[97]⟩, ⟨#[98]⟩, ⟨#[112]⟩, ⟨#[122]⟩]) :=
  l1Pick_any p B (W.heap.size + 1) 4 (some ⟨W.heap.size, 0, none⟩) [⟨#[97]⟩, ⟨#[98]⟩, ⟨#[112]⟩, ⟨#[122]⟩] _ (CurAt.belowP h (((Below.refl W.heap.size W).alloc (Nat.le_refl _) _).drew) h.lt) (StrsAt.of_whole (t := 9) (Whole1.new W _ _) _ (by omega)) (fun q b off e => by cases e; have := h.lt; omega) (by decide) (by decide)

end Go.Proofs.YtlmbnefoobameaaDoor
