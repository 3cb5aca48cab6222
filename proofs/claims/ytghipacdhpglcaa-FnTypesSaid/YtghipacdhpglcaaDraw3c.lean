/- DrawEqualType. -/
import Derived.Test.YtghipacdhpglcaaDraw3b
import Derived.Test.YtghipacdhpglcaaSpecCopy
import Derived.Deep.RegionHeld3
import Derived.Deep.DeepCutAuto
namespace Go.Proofs.Ytghipacdhpglcaa
set_option maxRecDepth 100000
open Go.RowKit
attribute [local go_sem ↓] Go.wp_at_zero Go.wp_at_succ

/-- Two trees are drawn; what was there stands. -/
def GivesTwoTy (w : World) (e : Ending) (w' : World) : Prop := (∃ v t v' t', e = .returned (.tuple #[v, v']) ∧ TyIn w' (Span w.heap.size w'.heap.size) v t ∧ szTy t ≤ 4200 ∧ TyIn w' (Span w.heap.size w'.heap.size) v' t' ∧ szTy t' ≤ 4200) ∧ Below w.heap.size w w'

set_option maxHeartbeats 4000000 in
theorem drawEqualType_any (A : Option Addr) (n cap : Nat) (w : World) (hA : BytesAt w w.heap.size A n) (hn : n ≤ 2 ^ 47) :
    Calls Try.prog 33 #[.slice A n cap] w (GivesTwoTy w) := by
  obtain ⟨hb0, r0, R0, hs0⟩ := boxes2 w 36 36 #[.int .i64 0, .slice none 0 0, .slice none 0 0] #[.int .i64 0, .slice none 0 0, .slice none 0 0]
  have hc := Lib.hid (l1New_any A n cap ((w.alloc (.cells #[.int .i64 0, .slice none 0 0, .slice none 0 0] 36)).alloc (.cells #[.int .i64 0, .slice none 0 0, .slice none 0 0] 36)) ((hA.alloc _).alloc _) hn)
  have hp := Lib.hid (fun p B W h => specBent_any p B W h)
  have ho := Lib.hid (fun p B W h => l1Once_any p B 2 W h (by omega) (by omega))
  clear hA
  go_enter Try.func33, Try.ntmps33
  go_wp2_with fail
  refine hc.out.mono ?_
  rintro e w1 ⟨p, rfl, hc1, hb1⟩
  go_wp2_with fail
  refine (hp.out p _ w1 hc1).mono ?_
  rintro e w2 ⟨⟨v, t, rfl, hO, hz⟩, hc2, hg2⟩
  have hi := hO.owned
  obtain ⟨L, lc, A2, ac, rfl⟩ := hO.open
  have hs1 := hb1.size
  have hs2 := hg2.size
  have hb2 := below_only hb1 hg2 hb1.size hc1.low
  have r2 := r0.below hb2 r0.lt
  have R2 := R0.below hb2 R0.lt
  have hp1 := hc1.lt
  have hlow := hc1.low
  rw [hs0] at hs1 hlow
  have hbw := hb0.trans (hb2.mono hb0.size)
  go_wp2_with fail
  have hbB := (Below.refl w2.heap.size w2).alloc (Nat.le_refl _) (.cells #[.int .i64 t.kind, .slice L t.labels.length lc, .slice A2 t.args.length ac] 36)
  have hcB := hc2.belowP hbB hc2.lt
  have rb := Whole1.new w2 36 #[.int .i64 t.kind, .slice L t.labels.length lc, .slice A2 t.args.length ac]
  have hiB := hi.keep (w' := w2.alloc (.cells #[.int .i64 t.kind, .slice L t.labels.length lc, .slice A2 t.args.length ac] 36)) (fun g hg _ => hbB.block g hg.2)
  have rB := r2.below hbB r2.lt
  have RB := R2.below hbB R2.lt
  have hbwB := hbw.trans (hbB.mono (by omega))
  have hsB : (w2.alloc (.cells #[.int .i64 t.kind, .slice L t.labels.length lc, .slice A2 t.args.length ac] 36)).heap.size = w2.heap.size + 1 := by simp
  clear hi hO hc1 hb1 hc2 hg2 hb2 r2 r0 hb0 hbw hbB hs0 R0 R2
  generalize hz2 : w2.heap.size = z at *
  generalize w2.alloc (.cells #[.int .i64 t.kind, .slice L t.labels.length lc, .slice A2 t.args.length ac] 36) = W at *
  refine (ho.out p _ W hcB).mono ?_
  rintro e w3 ⟨⟨b, rfl⟩, hc3, hg3⟩
  have hs3 := hg3.size
  have hzr : z ≠ w.heap.size := by omega
  have hzr1 : z ≠ w.heap.size + 1 := by omega
  have rb3 : Whole1 w3 z 36 #[.int .i64 t.kind, .slice L t.labels.length lc, .slice A2 t.args.length ac] := (hg3.block z rb.lt (fun e => by injection e with e; omega)).trans rb
  have r3 : Whole1 w3 w.heap.size 36 #[.int .i64 0, .slice none 0 0, .slice none 0 0] := (hg3.block w.heap.size rB.lt (fun e => by injection e with e; omega)).trans rB
  have R3 : Whole1 w3 (w.heap.size + 1) 36 #[.int .i64 0, .slice none 0 0, .slice none 0 0] := (hg3.block (w.heap.size + 1) RB.lt (fun e => by injection e with e; omega)).trans RB
  have hi3 := hiB.keep (w' := w3) (fun g hg hl => hg3.block g hl (fun e => by injection e with e; have := hg.1; omega))
  have hbw3 := below_only hbwB hg3 (Nat.le_trans (by omega) (Nat.le_of_eq hsB.symm)) (by omega)
  have c0 : w3.cell? ⟨z, 0, none⟩ = some (.int .i64 t.kind) := rb3.cell 0
  have c1 : w3.cell? ⟨z, 1, none⟩ = some (.slice L t.labels.length lc) := rb3.cell 1
  have c2 : w3.cell? ⟨z, 2, none⟩ = some (.slice A2 t.args.length ac) := rb3.cell 2
  clear rb rB RB hiB hbwB hcB hg3
  have j0 : w3.drew.cell? ⟨z, 0, none⟩ = some (.int .i64 t.kind) := c0
  have j1 : w3.drew.cell? ⟨z, 1, none⟩ = some (.slice L t.labels.length lc) := c1
  have j2 : w3.drew.cell? ⟨z, 2, none⟩ = some (.slice A2 t.args.length ac) := c2
  have HI3 := Lib.hid hi3
  have HBW := Lib.hid hbw3
  have HC3 := Lib.hid hc3
  have HRB := Lib.hid rb3
  have HR3 := Lib.hid r3
  have HRR := Lib.hid R3
  have HCP := Lib.hid (specCopy_any t (.agg #[.int .i64 t.kind, .slice L t.labels.length lc, .slice A2 t.args.length ac]) w3.drew ((hi3.here.up (Below.refl _ _).drew)) (by omega))
  have HPB := Lib.hid (hp.out p _ w3.drew (hc3.belowP ((Below.refl w3.heap.size w3).drew) hc3.lt))
  clear hi3 hbw3 hc3 rb3 r3 R3
  cases b
  case true =>
    go_upto_region 4 with fail
    go_region_held3 (fun x : World => x.cell? ⟨z, 0, none⟩ = some (.int .i64 t.kind) ∧ x.cell? ⟨z, 1, none⟩ = some (.slice L t.labels.length lc) ∧ x.cell? ⟨z, 2, none⟩ = some (.slice A2 t.args.length ac))
      (first | (with_reducible exact ⟨j0, j1, j2⟩) | (with_reducible exact ⟨e0, e1, e2⟩) | (with_reducible exact ⟨u0, u1, u2⟩) | (with_reducible exact ⟨v0, v1, v2⟩))
      (first | (go_at_call 73; (with_reducible refine HCP.out.mono ?_); rintro e w4 ⟨v4, rfl, hv4, hb4'⟩; have hb4 : Below w3.heap.size w3 w4 := below_a0 hb4'; have hs4 := hb4.size; obtain ⟨L4, lc4, A4, ac4, _, rfl, _⟩ := hv4.open; have b4 : Whole1 w4 z 36 #[.int .i64 t.kind, .slice L t.labels.length lc, .slice A2 t.args.length ac] := HRB.out.below hb4 HRB.out.lt; have r4 := HR3.out.below hb4 HR3.out.lt; have R4 := HRR.out.below hb4 HRR.out.lt; have hi4 := HI3.out.keep (w' := w4) (fun g _ hl => hb4.block g hl); have hi5 : TyIn w4 (Span w1.heap.size w4.heap.size) (.agg #[.int .i64 t.kind, .slice L t.labels.length lc, .slice A2 t.args.length ac]) t := hi4.wide (fun g hg => ⟨hg.1, by have := hg.2; omega⟩); have hv5 : TyIn w4 (Span w1.heap.size w4.heap.size) (.agg #[.int .i64 t.kind, .slice L4 t.labels.length lc4, .slice A4 t.args.length ac4]) t := hv4.wide (fun g hg => ⟨Nat.le_trans (show w1.heap.size ≤ w3.heap.size by omega) hg.1, hg.2⟩); have hbw4 : Below w.heap.size w w4 := HBW.out.trans (hb4.mono (by omega)); have hzz := hz; clear hb4 hb4'; have e0 : w4.cell? ⟨z, 0, none⟩ = some (.int .i64 t.kind) := b4.cell 0; have e1 : w4.cell? ⟨z, 1, none⟩ = some (.slice L t.labels.length lc) := b4.cell 1; have e2 : w4.cell? ⟨z, 2, none⟩ = some (.slice A2 t.args.length ac) := b4.cell 2; have d0 : w4.cell? ⟨w.heap.size, 0, none⟩ = some (.int .i64 0) := r4.cell 0; have d1 : w4.cell? ⟨w.heap.size, 1, none⟩ = some (.slice none 0 0) := r4.cell 1; have d2 : w4.cell? ⟨w.heap.size, 2, none⟩ = some (.slice none 0 0) := r4.cell 2; have D0 : w4.cell? ⟨w.heap.size + 1, 0, none⟩ = some (.int .i64 0) := R4.cell 0; have D1 : w4.cell? ⟨w.heap.size + 1, 1, none⟩ = some (.slice none 0 0) := R4.cell 1; have D2 : w4.cell? ⟨w.heap.size + 1, 2, none⟩ = some (.slice none 0 0) := R4.cell 2; have f0 : w4.frozen? ⟨w.heap.size, 0, none⟩ = false := r4.free 0; have f1 : w4.frozen? ⟨w.heap.size, 1, none⟩ = false := r4.free 1; have f2 : w4.frozen? ⟨w.heap.size, 2, none⟩ = false := r4.free 2; have F0 : w4.frozen? ⟨w.heap.size + 1, 0, none⟩ = false := R4.free 0; have F1 : w4.frozen? ⟨w.heap.size + 1, 1, none⟩ = false := R4.free 1; have F2 : w4.frozen? ⟨w.heap.size + 1, 2, none⟩ = false := R4.free 2; have hz5 : (((w4.setCell ⟨w.heap.size, 0, none⟩ (.int .i64 t.kind)).setCell ⟨w.heap.size, 1, none⟩ (.slice L t.labels.length lc)).setCell ⟨w.heap.size, 2, none⟩ (.slice A2 t.args.length ac)).heap[z]? = w4.heap[z]? := (by rw [Below.heap_setCell _ _ _ _ hzr, Below.heap_setCell _ _ _ _ hzr, Below.heap_setCell _ _ _ _ hzr]); have hz6 : ((((((w4.setCell ⟨w.heap.size, 0, none⟩ (.int .i64 t.kind)).setCell ⟨w.heap.size, 1, none⟩ (.slice L t.labels.length lc)).setCell ⟨w.heap.size, 2, none⟩ (.slice A2 t.args.length ac)).setCell ⟨w.heap.size + 1, 0, none⟩ (.int .i64 t.kind)).setCell ⟨w.heap.size + 1, 1, none⟩ (.slice L4 t.labels.length lc4)).setCell ⟨w.heap.size + 1, 2, none⟩ (.slice A4 t.args.length ac4)).heap[z]? = w4.heap[z]? := (by rw [Below.heap_setCell _ _ _ _ hzr1, Below.heap_setCell _ _ _ _ hzr1, Below.heap_setCell _ _ _ _ hzr1]; exact hz5); have u0 := (World.cell?_of_block (a := ⟨z, 0, none⟩) hz5).trans e0; have u1 := (World.cell?_of_block (a := ⟨z, 1, none⟩) hz5).trans e1; have u2 := (World.cell?_of_block (a := ⟨z, 2, none⟩) hz5).trans e2; have v0 := (World.cell?_of_block (a := ⟨z, 0, none⟩) hz6).trans e0; have v1 := (World.cell?_of_block (a := ⟨z, 1, none⟩) hz6).trans e1; have v2 := (World.cell?_of_block (a := ⟨z, 2, none⟩) hz6).trans e2; have HF : Hid (GivesTwoTy w (.returned (.tuple #[.agg #[.int .i64 t.kind, .slice L t.labels.length lc, .slice A2 t.args.length ac], .agg #[.int .i64 t.kind, .slice L4 t.labels.length lc4, .slice A4 t.args.length ac4]])) ((((((w4.setCell ⟨w.heap.size, 0, none⟩ (.int .i64 t.kind)).setCell ⟨w.heap.size, 1, none⟩ (.slice L t.labels.length lc)).setCell ⟨w.heap.size, 2, none⟩ (.slice A2 t.args.length ac)).setCell ⟨w.heap.size + 1, 0, none⟩ (.int .i64 t.kind)).setCell ⟨w.heap.size + 1, 1, none⟩ (.slice L4 t.labels.length lc4)).setCell ⟨w.heap.size + 1, 2, none⟩ (.slice A4 t.args.length ac4))) := Lib.hid ⟨⟨_, t, _, t, rfl, tyIn_set3 (tyIn_set3 hi5 w.heap.size w1.heap.size (by omega) (Nat.le_refl _) _ _ _) (w.heap.size + 1) w.heap.size (by omega) (by omega) _ _ _, hz, tyIn_set3 (tyIn_set3 hv5 w.heap.size w1.heap.size (by omega) (Nat.le_refl _) _ _ _) (w.heap.size + 1) w.heap.size (by omega) (by omega) _ _ _, hzz⟩, (((((hbw4.setCell (p := ⟨w.heap.size, 0, none⟩) (Nat.le_refl _) _).setCell (p := ⟨w.heap.size, 1, none⟩) (Nat.le_refl _) _).setCell (p := ⟨w.heap.size, 2, none⟩) (Nat.le_refl _) _).setCell (p := ⟨w.heap.size + 1, 0, none⟩) (Nat.le_succ _) _).setCell (p := ⟨w.heap.size + 1, 1, none⟩) (Nat.le_succ _) _).setCell (p := ⟨w.heap.size + 1, 2, none⟩) (Nat.le_succ _) _⟩; clear b4 r4 R4 hi4 hi5 hv4 hv5 hbw4 hz5 hz6))
    all_goals
      clear u0 u1 u2 v0 v1 v2 e0 e1 e2
      go_wp2
      exact bodyPost_ret (v := .tuple #[.agg #[.int .i64 t.kind, .slice L t.labels.length lc, .slice A2 t.args.length ac], .agg #[.int .i64 t.kind, .slice L4 t.labels.length lc4, .slice A4 t.args.length ac4]]) (by simp [results, Try.results33, go_sem, d0, d1, d2, D0, D1, D2]) rfl HF.out
  case false =>
    go_upto_region 5 with fail
    go_region_held3 (fun x : World => x.cell? ⟨z, 0, none⟩ = some (.int .i64 t.kind) ∧ x.cell? ⟨z, 1, none⟩ = some (.slice L t.labels.length lc) ∧ x.cell? ⟨z, 2, none⟩ = some (.slice A2 t.args.length ac))
      (first | (with_reducible exact ⟨j0, j1, j2⟩) | (with_reducible exact ⟨e0, e1, e2⟩) | (with_reducible exact ⟨u0, u1, u2⟩) | (with_reducible exact ⟨v0, v1, v2⟩))
      (first | (go_at_call 69; (with_reducible refine HPB.out.mono ?_); rintro e w4 ⟨⟨v4, t2, rfl, hO4, hzz⟩, hc4, hg4'⟩; have hg4 : w3.grownBy w4 (some p) := ⟨hg4'.os, hg4'.tape, hg4'.output, hg4'.size, hg4'.block⟩; clear hg4'; have hs4 := hg4.size; have hv4 := hO4.owned; obtain ⟨L4, lc4, A4, ac4, rfl⟩ := hO4.open; have b4 : Whole1 w4 z 36 #[.int .i64 t.kind, .slice L t.labels.length lc, .slice A2 t.args.length ac] := (hg4.block z HRB.out.lt (fun e => by injection e with e; omega)).trans HRB.out; have r4 : Whole1 w4 w.heap.size 36 #[.int .i64 0, .slice none 0 0, .slice none 0 0] := (hg4.block w.heap.size HR3.out.lt (fun e => by injection e with e; omega)).trans HR3.out; have R4 : Whole1 w4 (w.heap.size + 1) 36 #[.int .i64 0, .slice none 0 0, .slice none 0 0] := (hg4.block (w.heap.size + 1) HRR.out.lt (fun e => by injection e with e; omega)).trans HRR.out; have hi4 := HI3.out.keep (w' := w4) (fun g hg hl => hg4.block g hl (fun e => by injection e with e; have := hg.1; omega)); have hi5 : TyIn w4 (Span w1.heap.size w4.heap.size) (.agg #[.int .i64 t.kind, .slice L t.labels.length lc, .slice A2 t.args.length ac]) t := hi4.wide (fun g hg => ⟨hg.1, by have := hg.2; omega⟩); have hv5 : TyIn w4 (Span w1.heap.size w4.heap.size) (.agg #[.int .i64 t2.kind, .slice L4 t2.labels.length lc4, .slice A4 t2.args.length ac4]) t2 := hv4.wide (fun g hg => ⟨Nat.le_trans (show w1.heap.size ≤ w3.heap.size by omega) hg.1, hg.2⟩); have hbw4 := below_only HBW.out hg4 (by omega) (by omega); clear hg4 hc4 hO4; have e0 : w4.cell? ⟨z, 0, none⟩ = some (.int .i64 t.kind) := b4.cell 0; have e1 : w4.cell? ⟨z, 1, none⟩ = some (.slice L t.labels.length lc) := b4.cell 1; have e2 : w4.cell? ⟨z, 2, none⟩ = some (.slice A2 t.args.length ac) := b4.cell 2; have d0 : w4.cell? ⟨w.heap.size, 0, none⟩ = some (.int .i64 0) := r4.cell 0; have d1 : w4.cell? ⟨w.heap.size, 1, none⟩ = some (.slice none 0 0) := r4.cell 1; have d2 : w4.cell? ⟨w.heap.size, 2, none⟩ = some (.slice none 0 0) := r4.cell 2; have D0 : w4.cell? ⟨w.heap.size + 1, 0, none⟩ = some (.int .i64 0) := R4.cell 0; have D1 : w4.cell? ⟨w.heap.size + 1, 1, none⟩ = some (.slice none 0 0) := R4.cell 1; have D2 : w4.cell? ⟨w.heap.size + 1, 2, none⟩ = some (.slice none 0 0) := R4.cell 2; have f0 : w4.frozen? ⟨w.heap.size, 0, none⟩ = false := r4.free 0; have f1 : w4.frozen? ⟨w.heap.size, 1, none⟩ = false := r4.free 1; have f2 : w4.frozen? ⟨w.heap.size, 2, none⟩ = false := r4.free 2; have F0 : w4.frozen? ⟨w.heap.size + 1, 0, none⟩ = false := R4.free 0; have F1 : w4.frozen? ⟨w.heap.size + 1, 1, none⟩ = false := R4.free 1; have F2 : w4.frozen? ⟨w.heap.size + 1, 2, none⟩ = false := R4.free 2; have hz5 : (((w4.setCell ⟨w.heap.size, 0, none⟩ (.int .i64 t.kind)).setCell ⟨w.heap.size, 1, none⟩ (.slice L t.labels.length lc)).setCell ⟨w.heap.size, 2, none⟩ (.slice A2 t.args.length ac)).heap[z]? = w4.heap[z]? := (by rw [Below.heap_setCell _ _ _ _ hzr, Below.heap_setCell _ _ _ _ hzr, Below.heap_setCell _ _ _ _ hzr]); have hz6 : ((((((w4.setCell ⟨w.heap.size, 0, none⟩ (.int .i64 t.kind)).setCell ⟨w.heap.size, 1, none⟩ (.slice L t.labels.length lc)).setCell ⟨w.heap.size, 2, none⟩ (.slice A2 t.args.length ac)).setCell ⟨w.heap.size + 1, 0, none⟩ (.int .i64 t2.kind)).setCell ⟨w.heap.size + 1, 1, none⟩ (.slice L4 t2.labels.length lc4)).setCell ⟨w.heap.size + 1, 2, none⟩ (.slice A4 t2.args.length ac4)).heap[z]? = w4.heap[z]? := (by rw [Below.heap_setCell _ _ _ _ hzr1, Below.heap_setCell _ _ _ _ hzr1, Below.heap_setCell _ _ _ _ hzr1]; exact hz5); have u0 := (World.cell?_of_block (a := ⟨z, 0, none⟩) hz5).trans e0; have u1 := (World.cell?_of_block (a := ⟨z, 1, none⟩) hz5).trans e1; have u2 := (World.cell?_of_block (a := ⟨z, 2, none⟩) hz5).trans e2; have v0 := (World.cell?_of_block (a := ⟨z, 0, none⟩) hz6).trans e0; have v1 := (World.cell?_of_block (a := ⟨z, 1, none⟩) hz6).trans e1; have v2 := (World.cell?_of_block (a := ⟨z, 2, none⟩) hz6).trans e2; have HF : Hid (GivesTwoTy w (.returned (.tuple #[.agg #[.int .i64 t.kind, .slice L t.labels.length lc, .slice A2 t.args.length ac], .agg #[.int .i64 t2.kind, .slice L4 t2.labels.length lc4, .slice A4 t2.args.length ac4]])) ((((((w4.setCell ⟨w.heap.size, 0, none⟩ (.int .i64 t.kind)).setCell ⟨w.heap.size, 1, none⟩ (.slice L t.labels.length lc)).setCell ⟨w.heap.size, 2, none⟩ (.slice A2 t.args.length ac)).setCell ⟨w.heap.size + 1, 0, none⟩ (.int .i64 t2.kind)).setCell ⟨w.heap.size + 1, 1, none⟩ (.slice L4 t2.labels.length lc4)).setCell ⟨w.heap.size + 1, 2, none⟩ (.slice A4 t2.args.length ac4))) := Lib.hid ⟨⟨_, t, _, t2, rfl, tyIn_set3 (tyIn_set3 hi5 w.heap.size w1.heap.size (by omega) (Nat.le_refl _) _ _ _) (w.heap.size + 1) w.heap.size (by omega) (by omega) _ _ _, hz, tyIn_set3 (tyIn_set3 hv5 w.heap.size w1.heap.size (by omega) (Nat.le_refl _) _ _ _) (w.heap.size + 1) w.heap.size (by omega) (by omega) _ _ _, hzz⟩, (((((hbw4.setCell (p := ⟨w.heap.size, 0, none⟩) (Nat.le_refl _) _).setCell (p := ⟨w.heap.size, 1, none⟩) (Nat.le_refl _) _).setCell (p := ⟨w.heap.size, 2, none⟩) (Nat.le_refl _) _).setCell (p := ⟨w.heap.size + 1, 0, none⟩) (Nat.le_succ _) _).setCell (p := ⟨w.heap.size + 1, 1, none⟩) (Nat.le_succ _) _).setCell (p := ⟨w.heap.size + 1, 2, none⟩) (Nat.le_succ _) _⟩; clear b4 r4 R4 hi4 hi5 hv4 hv5 hbw4 hz5 hz6))
    all_goals
      clear u0 u1 u2 v0 v1 v2 e0 e1 e2
      go_wp2
      exact bodyPost_ret (v := .tuple #[.agg #[.int .i64 t.kind, .slice L t.labels.length lc, .slice A2 t.args.length ac], .agg #[.int .i64 t2.kind, .slice L4 t2.labels.length lc4, .slice A4 t2.args.length ac4]]) (by simp [results, Try.results33, go_sem, d0, d1, d2, D0, D1, D2]) rfl HF.out

end Go.Proofs.Ytghipacdhpglcaa
