/- DrawHasType. -/
import Derived.Test.YtlmbnefoobameaaDoorVDraws
import Derived.Deep.RegionHeld3
import Derived.Deep.DeepCutAuto
namespace Go.Proofs.YtlmbnefoobameaaDoor
set_option maxRecDepth 100000
open Go.RowKit
attribute [local go_sem ↓] Go.wp_at_zero Go.wp_at_succ

/-- A value and a type are drawn; what was there stands. -/
def GivesVaTy (w : World) (e : Ending) (w' : World) : Prop := (∃ v t v' y, e = .returned (.tuple #[v, v']) ∧ VaIn w' (Span w.heap.size w'.heap.size) v t ∧ szVa t ≤ 4200 ∧ smallB t = true ∧ TyIn w' (Span w.heap.size w'.heap.size) v' y ∧ szTy y ≤ 4200) ∧ Below w.heap.size w w'

theorem drewHeap (X : World) : X.drew.heap = X.heap := rfl
theorem fin8 {w W : World} {v v' : Value} {t : Va} {y : Ty} {a hi b hj : Nat} (HB : Below w.heap.size w W) (HV : VaIn W (Span a hi) v t) (HT : TyIn W (Span b hj) v' y) (h1 : szVa t ≤ 4200) (h2 : smallB t = true) (h3 : szTy y ≤ 4200) (ha : w.heap.size + 2 ≤ a) (hh : hi ≤ W.heap.size) (hb : w.heap.size + 2 ≤ b) (hq : hj ≤ W.heap.size) (c0 c1 c2 c3 c4 e0 e1 e2 : Value) : GivesVaTy w (.returned (.tuple #[v, v'])) (((((((((W.setCell ⟨w.heap.size, 0, none⟩ c0).setCell ⟨w.heap.size, 1, none⟩ c1).setCell ⟨w.heap.size, 2, none⟩ c2).setCell ⟨w.heap.size, 3, none⟩ c3).setCell ⟨w.heap.size, 4, none⟩ c4).setCell ⟨w.heap.size + 1, 0, none⟩ e0).setCell ⟨w.heap.size + 1, 1, none⟩ e1).setCell ⟨w.heap.size + 1, 2, none⟩ e2).drew) := by
  have hk : ∀ g, g ≠ w.heap.size → g ≠ w.heap.size + 1 → (((((((((W.setCell ⟨w.heap.size, 0, none⟩ c0).setCell ⟨w.heap.size, 1, none⟩ c1).setCell ⟨w.heap.size, 2, none⟩ c2).setCell ⟨w.heap.size, 3, none⟩ c3).setCell ⟨w.heap.size, 4, none⟩ c4).setCell ⟨w.heap.size + 1, 0, none⟩ e0).setCell ⟨w.heap.size + 1, 1, none⟩ e1).setCell ⟨w.heap.size + 1, 2, none⟩ e2).drew).heap[g]? = W.heap[g]? := fun g g1 g2 => by
    rw [drewHeap]
    rw [Below.heap_setCell _ _ _ _ g2, Below.heap_setCell _ _ _ _ g2, Below.heap_setCell _ _ _ _ g2, Below.heap_setCell _ _ _ _ g1, Below.heap_setCell _ _ _ _ g1, Below.heap_setCell _ _ _ _ g1, Below.heap_setCell _ _ _ _ g1, Below.heap_setCell _ _ _ _ g1]
  have hs : (((((((((W.setCell ⟨w.heap.size, 0, none⟩ c0).setCell ⟨w.heap.size, 1, none⟩ c1).setCell ⟨w.heap.size, 2, none⟩ c2).setCell ⟨w.heap.size, 3, none⟩ c3).setCell ⟨w.heap.size, 4, none⟩ c4).setCell ⟨w.heap.size + 1, 0, none⟩ e0).setCell ⟨w.heap.size + 1, 1, none⟩ e1).setCell ⟨w.heap.size + 1, 2, none⟩ e2).drew).heap.size = W.heap.size := by
    rw [drewHeap]
    simp [World.setCell]
  refine ⟨⟨_, t, _, y, rfl, ?_, h1, h2, ?_, h3⟩, ((((((((HB.setCell (p := ⟨w.heap.size, 0, none⟩) (Nat.le_refl _) _).setCell (p := ⟨w.heap.size, 1, none⟩) (Nat.le_refl _) _).setCell (p := ⟨w.heap.size, 2, none⟩) (Nat.le_refl _) _).setCell (p := ⟨w.heap.size, 3, none⟩) (Nat.le_refl _) _).setCell (p := ⟨w.heap.size, 4, none⟩) (Nat.le_refl _) _).setCell (p := ⟨w.heap.size + 1, 0, none⟩) (Nat.le_succ _) _).setCell (p := ⟨w.heap.size + 1, 1, none⟩) (Nat.le_succ _) _).setCell (p := ⟨w.heap.size + 1, 2, none⟩) (Nat.le_succ _) _).drew⟩
  · rw [hs]
    exact (HV.keep (fun g hg _ => hk g (by have := hg.1; omega) (by have := hg.1; omega))).wide (fun g hg => ⟨by have := hg.1; omega, by have := hg.2; omega⟩)
  · rw [hs]
    exact (HT.keep (fun g hg _ => hk g (by have := hg.1; omega) (by have := hg.1; omega))).wide (fun g hg => ⟨by have := hg.1; omega, by have := hg.2; omega⟩)

set_option maxHeartbeats 8000000 in
theorem drawHasType_any (A : Option Addr) (n cap : Nat) (w : World) (hA : BytesAt w w.heap.size A n) (hn : n ≤ 2 ^ 47) :
    Calls Tryd.prog 7 #[.slice A n cap] w (GivesVaTy w) := by
  obtain ⟨hb0, r0, R0, hs0⟩ := boxes2 w 27 30 #[.int .i64 0, .int .i64 0, .string ⟨#[]⟩, .slice none 0 0, .slice none 0 0] #[.int .i64 0, .slice none 0 0, .slice none 0 0]
  have hc := Lib.hid (l1New_any A n cap ((w.alloc (.cells #[.int .i64 0, .int .i64 0, .string ⟨#[]⟩, .slice none 0 0, .slice none 0 0] 27)).alloc (.cells #[.int .i64 0, .slice none 0 0, .slice none 0 0] 30)) ((hA.alloc _).alloc _) hn)
  have HD := Lib.hid (fun p B W h => specDrawQ_any 4 (Nat.le_refl _) p B W h)
  have HV := Lib.hid (fun (t : Ty) v S p B W h1 h2 h3 h4 h5 => specDrawV_any t v S p B W h1 h2 h3 h4 h5)
  have hp := Lib.hid (fun p B W h => specBentV_any p B W h)
  have hpt := Lib.hid (fun p B W h => specBent_any p B W h)
  have H6 := Lib.hid (fun p B W h => l1Below_any p B 6 W h (by omega) (by omega))
  clear hA
  go_enter Tryd.func7, Tryd.ntmps7
  go_wp2_with fail
  refine hc.out.mono ?_
  rintro e w1 ⟨p, rfl, hc1, hb1⟩
  have hp1 := hc1.lt
  have hlow := hc1.low
  have hs1 := hb1.size
  rw [hs0] at hs1 hlow
  have r1 := r0.below hb1 r0.lt
  have R1 := R0.below hb1 R0.lt
  have hbw1 := hb0.trans (hb1.mono hb0.size)
  clear r0 R0 hb0 hb1 hs0
  go_wp2_with fail
  refine (HD.out p _ w1 hc1).mono ?_
  rintro e w2 ⟨⟨v, y, rfl, hO, hyz, hyq⟩, hc2, hg2⟩
  have hs2 := hg2.size
  have HYZ : Hid (szTy y ≤ 4200) := Lib.hid (Nat.le_trans hyz (by decide))
  have HYQ := Lib.hid hyq
  have hiy := hO.owned
  obtain ⟨M, mc, DA, dc, rfl⟩ := hO.open
  have r2 := r1.grown hg2 (by omega)
  have R2 := R1.grown hg2 (by omega)
  have hbw2 := below_only hbw1 hg2 (by omega) (by omega)
  clear r1 R1 hbw1 hO hc1 hyz hyq hg2
  go_wp2_with fail
  have hbB := (Below.refl w2.heap.size w2).alloc (Nat.le_refl _) (.cells #[.int .i64 y.kind, .slice M y.labels.length mc, .slice DA y.args.length dc] 30)
  have hcB := hc2.belowP hbB hc2.lt
  have rt := Whole1.new w2 30 #[.int .i64 y.kind, .slice M y.labels.length mc, .slice DA y.args.length dc]
  have hit := hiy.keep (w' := w2.alloc (.cells #[.int .i64 y.kind, .slice M y.labels.length mc, .slice DA y.args.length dc] 30)) (fun g hg _ => hbB.block g hg.2)
  have r3 := r2.below hbB r2.lt
  have R3 := R2.below hbB R2.lt
  have hbw3 := hbw2.trans (hbB.mono (by omega))
  have hsB : (w2.alloc (.cells #[.int .i64 y.kind, .slice M y.labels.length mc, .slice DA y.args.length dc] 30)).heap.size = w2.heap.size + 1 := by simp
  clear hiy hc2 r2 R2 hbw2 hbB
  generalize hz2 : w2.heap.size = zt at *
  generalize w2.alloc (.cells #[.int .i64 y.kind, .slice M y.labels.length mc, .slice DA y.args.length dc] 30) = W at *
  have HVY := Lib.hid (HV.out y _ _ p _ W hit (fun h => by have := h.1; omega) hcB HYQ.out.1 (by have := HYQ.out.2; omega))
  have HIT := Lib.hid hit
  clear hit
  refine HVY.out.mono ?_
  rintro e wv ⟨⟨v, t, rfl, hO, htz, htn⟩, hcv, hgv⟩
  have hsv := hgv.size
  have HTZ : Hid (szVa t ≤ 4200 ∧ smallB t = true) := Lib.hid ⟨Nat.le_trans htz (by have := HYQ.out.2; omega), htn⟩
  have hiv := hO.owned
  obtain ⟨L, lc, A2, ac, rfl⟩ := hO.open
  have r4 := r3.grown hgv (by omega)
  have R4 := R3.grown hgv (by omega)
  have rt4 := rt.grown hgv (by omega)
  have hbw4 := below_only hbw3 hgv (by omega) (by omega)
  have hit4 := HIT.out.keep (w' := wv) (fun g hg hl => hgv.block g hl (fun e => by injection e with e; have := hg.1; omega))
  clear r3 R3 rt hbw3 hcB hO htz htn hgv HVY HIT
  go_wp2_with fail
  have hbB := (Below.refl wv.heap.size wv).alloc (Nat.le_refl _) (.cells #[.int .i64 t.kind, .int .i64 t.num, .string t.name, .slice L t.labels.length lc, .slice A2 t.args.length ac] 27)
  have hcB := hcv.belowP hbB hcv.lt
  have rv := Whole1.new wv 27 #[.int .i64 t.kind, .int .i64 t.num, .string t.name, .slice L t.labels.length lc, .slice A2 t.args.length ac]
  have hiv5 := hiv.keep (w' := wv.alloc (.cells #[.int .i64 t.kind, .int .i64 t.num, .string t.name, .slice L t.labels.length lc, .slice A2 t.args.length ac] 27)) (fun g hg _ => hbB.block g hg.2)
  have hit5 := hit4.keep (w' := wv.alloc (.cells #[.int .i64 t.kind, .int .i64 t.num, .string t.name, .slice L t.labels.length lc, .slice A2 t.args.length ac] 27)) (fun g hg _ => hbB.block g (by have := hg.2; omega))
  have r5 := r4.below hbB r4.lt
  have R5 := R4.below hbB R4.lt
  have rt5 := rt4.below hbB rt4.lt
  have hbw5 := hbw4.trans (hbB.mono (by omega))
  have hsV : (wv.alloc (.cells #[.int .i64 t.kind, .int .i64 t.num, .string t.name, .slice L t.labels.length lc, .slice A2 t.args.length ac] 27)).heap.size = wv.heap.size + 1 := by simp
  clear hiv hit4 hcv r4 R4 rt4 hbw4 hbB
  generalize hz3 : wv.heap.size = zv at *
  generalize wv.alloc (.cells #[.int .i64 t.kind, .int .i64 t.num, .string t.name, .slice L t.labels.length lc, .slice A2 t.args.length ac] 27) = W2 at *
  refine (H6.out p _ W2 hcB).mono ?_
  rintro e w3 ⟨⟨x, rfl, hx0, hx1⟩, hc3, hg3⟩
  have hs3 := hg3.size
  have hztr : zt ≠ w.heap.size := by omega
  have hztr1 : zt ≠ w.heap.size + 1 := by omega
  have hzvr : zv ≠ w.heap.size := by omega
  have hzvr1 : zv ≠ w.heap.size + 1 := by omega
  have rt3 := rt5.grown hg3 (by omega)
  have rv3 := rv.grown hg3 (by omega)
  have HR3 := Lib.hid (r5.grown hg3 (by omega))
  have HRR := Lib.hid (R5.grown hg3 (by omega))
  have HIT := Lib.hid (hit5.keep (w' := w3) (fun g hg hl => hg3.block g hl (fun e => by injection e with e; have := hg.1; omega)))
  have HIV := Lib.hid (hiv5.keep (w' := w3) (fun g hg hl => hg3.block g hl (fun e => by injection e with e; have := hg.1; omega)))
  have HBW := Lib.hid (below_only hbw5 hg3 (by omega) (by omega))
  have HPB := Lib.hid (hp.out p _ w3.drew (hc3.belowP ((Below.refl w3.heap.size w3).drew) hc3.lt))
  have HPT := Lib.hid (hpt.out p _ w3.drew (hc3.belowP ((Below.refl w3.heap.size w3).drew) hc3.lt))
  have HRT := Lib.hid rt3
  have HRV := Lib.hid rv3
  clear rt5 rv r5 R5 hit5 hiv5 hbw5 hg3 hc3 hcB
  by_cases h0 : x = 0
  · subst h0
    have j0 : w3.drew.cell? ⟨zt, 0, none⟩ = some (.int .i64 y.kind) := rt3.cell 0
    have j1 : w3.drew.cell? ⟨zt, 1, none⟩ = some (.slice M y.labels.length mc) := rt3.cell 1
    have j2 : w3.drew.cell? ⟨zt, 2, none⟩ = some (.slice DA y.args.length dc) := rt3.cell 2
    clear rt3 rv3
    go_upto_region 6 with fail
    go_region_held3 (fun x : World => x.cell? ⟨zt, 0, none⟩ = some (.int .i64 y.kind) ∧ x.cell? ⟨zt, 1, none⟩ = some (.slice M y.labels.length mc) ∧ x.cell? ⟨zt, 2, none⟩ = some (.slice DA y.args.length dc))
      (first | (with_reducible exact ⟨j0, j1, j2⟩) | (with_reducible exact ⟨e0, e1, e2⟩) | (with_reducible exact ⟨u0, u1, u2⟩) | (with_reducible exact ⟨v0, v1, v2⟩))
      (first | (go_at_call 35; (with_reducible refine HPB.out.mono ?_); rintro e w4 ⟨⟨v4, t2, rfl, hO4, hzz, hnz⟩, hc4, hg4'⟩; have hg4 : w3.grownBy w4 (some p) := ⟨hg4'.os, hg4'.tape, hg4'.output, hg4'.size, hg4'.block⟩; clear hg4'; have hs4 := hg4.size; have hv4 := hO4.owned; obtain ⟨L4, lc4, A4, ac4, rfl⟩ := hO4.open; have r4 := HR3.out.grown hg4 (by omega); have R4 := HRR.out.grown hg4 (by omega); have hbw4 := below_only HBW.out hg4 (by omega) (by omega); have b4 := HRT.out.grown hg4 (by omega); have hi5 : TyIn w4 (Span w1.heap.size w4.heap.size) (.agg #[.int .i64 y.kind, .slice M y.labels.length mc, .slice DA y.args.length dc]) y := (HIT.out.keep (w' := w4) (fun g hg hl => hg4.block g hl (fun e => by injection e with e; have := hg.1; omega))).wide (fun g hg => ⟨by have := hg.1; omega, by have := hg.2; omega⟩); have hv5 : VaIn w4 (Span w1.heap.size w4.heap.size) (.agg #[.int .i64 t2.kind, .int .i64 t2.num, .string t2.name, .slice L4 t2.labels.length lc4, .slice A4 t2.args.length ac4]) t2 := hv4.wide (fun g hg => ⟨Nat.le_trans (show w1.heap.size ≤ w3.heap.size by omega) hg.1, hg.2⟩); have e0 : w4.cell? ⟨zt, 0, none⟩ = some (.int .i64 y.kind) := b4.cell 0; have e1 : w4.cell? ⟨zt, 1, none⟩ = some (.slice M y.labels.length mc) := b4.cell 1; have e2 : w4.cell? ⟨zt, 2, none⟩ = some (.slice DA y.args.length dc) := b4.cell 2; have d0 : w4.cell? ⟨w.heap.size, 0, none⟩ = some (.int .i64 0) := r4.cell 0; have f0 : w4.frozen? ⟨w.heap.size, 0, none⟩ = false := r4.free 0; have d1 : w4.cell? ⟨w.heap.size, 1, none⟩ = some (.int .i64 0) := r4.cell 1; have f1 : w4.frozen? ⟨w.heap.size, 1, none⟩ = false := r4.free 1; have d2 : w4.cell? ⟨w.heap.size, 2, none⟩ = some (.string ⟨#[]⟩) := r4.cell 2; have f2 : w4.frozen? ⟨w.heap.size, 2, none⟩ = false := r4.free 2; have d3 : w4.cell? ⟨w.heap.size, 3, none⟩ = some (.slice none 0 0) := r4.cell 3; have f3 : w4.frozen? ⟨w.heap.size, 3, none⟩ = false := r4.free 3; have d4 : w4.cell? ⟨w.heap.size, 4, none⟩ = some (.slice none 0 0) := r4.cell 4; have f4 : w4.frozen? ⟨w.heap.size, 4, none⟩ = false := r4.free 4; have D0 : w4.cell? ⟨w.heap.size + 1, 0, none⟩ = some (.int .i64 0) := R4.cell 0; have F0 : w4.frozen? ⟨w.heap.size + 1, 0, none⟩ = false := R4.free 0; have D1 : w4.cell? ⟨w.heap.size + 1, 1, none⟩ = some (.slice none 0 0) := R4.cell 1; have F1 : w4.frozen? ⟨w.heap.size + 1, 1, none⟩ = false := R4.free 1; have D2 : w4.cell? ⟨w.heap.size + 1, 2, none⟩ = some (.slice none 0 0) := R4.cell 2; have F2 : w4.frozen? ⟨w.heap.size + 1, 2, none⟩ = false := R4.free 2; have hz5 : (((((w4.setCell ⟨w.heap.size, 0, none⟩ (.int .i64 t2.kind)).setCell ⟨w.heap.size, 1, none⟩ (.int .i64 t2.num)).setCell ⟨w.heap.size, 2, none⟩ (.string t2.name)).setCell ⟨w.heap.size, 3, none⟩ (.slice L4 t2.labels.length lc4)).setCell ⟨w.heap.size, 4, none⟩ (.slice A4 t2.args.length ac4)).heap[zt]? = w4.heap[zt]? := (by rw [Below.heap_setCell _ _ _ _ hztr, Below.heap_setCell _ _ _ _ hztr, Below.heap_setCell _ _ _ _ hztr, Below.heap_setCell _ _ _ _ hztr, Below.heap_setCell _ _ _ _ hztr]); have hz6 : ((((((((w4.setCell ⟨w.heap.size, 0, none⟩ (.int .i64 t2.kind)).setCell ⟨w.heap.size, 1, none⟩ (.int .i64 t2.num)).setCell ⟨w.heap.size, 2, none⟩ (.string t2.name)).setCell ⟨w.heap.size, 3, none⟩ (.slice L4 t2.labels.length lc4)).setCell ⟨w.heap.size, 4, none⟩ (.slice A4 t2.args.length ac4)).setCell ⟨w.heap.size + 1, 0, none⟩ (.int .i64 y.kind)).setCell ⟨w.heap.size + 1, 1, none⟩ (.slice M y.labels.length mc)).setCell ⟨w.heap.size + 1, 2, none⟩ (.slice DA y.args.length dc)).heap[zt]? = w4.heap[zt]? := (by rw [Below.heap_setCell _ _ _ _ hztr1, Below.heap_setCell _ _ _ _ hztr1, Below.heap_setCell _ _ _ _ hztr1]; exact hz5); have u0 := (World.cell?_of_block (a := ⟨zt, 0, none⟩) hz5).trans e0; have v0 := (World.cell?_of_block (a := ⟨zt, 0, none⟩) hz6).trans e0; have u1 := (World.cell?_of_block (a := ⟨zt, 1, none⟩) hz5).trans e1; have v1 := (World.cell?_of_block (a := ⟨zt, 1, none⟩) hz6).trans e1; have u2 := (World.cell?_of_block (a := ⟨zt, 2, none⟩) hz5).trans e2; have v2 := (World.cell?_of_block (a := ⟨zt, 2, none⟩) hz6).trans e2; have hkk : ∀ g, g ≠ w.heap.size → g ≠ w.heap.size + 1 → ((((((((w4.setCell ⟨w.heap.size, 0, none⟩ (.int .i64 t2.kind)).setCell ⟨w.heap.size, 1, none⟩ (.int .i64 t2.num)).setCell ⟨w.heap.size, 2, none⟩ (.string t2.name)).setCell ⟨w.heap.size, 3, none⟩ (.slice L4 t2.labels.length lc4)).setCell ⟨w.heap.size, 4, none⟩ (.slice A4 t2.args.length ac4)).setCell ⟨w.heap.size + 1, 0, none⟩ (.int .i64 y.kind)).setCell ⟨w.heap.size + 1, 1, none⟩ (.slice M y.labels.length mc)).setCell ⟨w.heap.size + 1, 2, none⟩ (.slice DA y.args.length dc)).heap[g]? = w4.heap[g]? := (fun g h1 h2 => by rw [Below.heap_setCell _ _ _ _ h2, Below.heap_setCell _ _ _ _ h2, Below.heap_setCell _ _ _ _ h2, Below.heap_setCell _ _ _ _ h1, Below.heap_setCell _ _ _ _ h1, Below.heap_setCell _ _ _ _ h1, Below.heap_setCell _ _ _ _ h1, Below.heap_setCell _ _ _ _ h1]); have hss : ((((((((w4.setCell ⟨w.heap.size, 0, none⟩ (.int .i64 t2.kind)).setCell ⟨w.heap.size, 1, none⟩ (.int .i64 t2.num)).setCell ⟨w.heap.size, 2, none⟩ (.string t2.name)).setCell ⟨w.heap.size, 3, none⟩ (.slice L4 t2.labels.length lc4)).setCell ⟨w.heap.size, 4, none⟩ (.slice A4 t2.args.length ac4)).setCell ⟨w.heap.size + 1, 0, none⟩ (.int .i64 y.kind)).setCell ⟨w.heap.size + 1, 1, none⟩ (.slice M y.labels.length mc)).setCell ⟨w.heap.size + 1, 2, none⟩ (.slice DA y.args.length dc)).heap.size = w4.heap.size := (by simp [World.setCell]); have HF : Hid (GivesVaTy w (.returned (.tuple #[.agg #[.int .i64 t2.kind, .int .i64 t2.num, .string t2.name, .slice L4 t2.labels.length lc4, .slice A4 t2.args.length ac4], .agg #[.int .i64 y.kind, .slice M y.labels.length mc, .slice DA y.args.length dc]])) ((((((((w4.setCell ⟨w.heap.size, 0, none⟩ (.int .i64 t2.kind)).setCell ⟨w.heap.size, 1, none⟩ (.int .i64 t2.num)).setCell ⟨w.heap.size, 2, none⟩ (.string t2.name)).setCell ⟨w.heap.size, 3, none⟩ (.slice L4 t2.labels.length lc4)).setCell ⟨w.heap.size, 4, none⟩ (.slice A4 t2.args.length ac4)).setCell ⟨w.heap.size + 1, 0, none⟩ (.int .i64 y.kind)).setCell ⟨w.heap.size + 1, 1, none⟩ (.slice M y.labels.length mc)).setCell ⟨w.heap.size + 1, 2, none⟩ (.slice DA y.args.length dc))) := Lib.hid ⟨⟨_, t2, _, y, rfl, (by rw [hss]; exact (hv5.keep (fun g hg _ => hkk g (by have := hg.1; omega) (by have := hg.1; omega))).wide (fun g hg => ⟨by have := hg.1; omega, hg.2⟩)), hzz, hnz, (by rw [hss]; exact (hi5.keep (fun g hg _ => hkk g (by have := hg.1; omega) (by have := hg.1; omega))).wide (fun g hg => ⟨by have := hg.1; omega, hg.2⟩)), HYZ.out⟩, ((((((((hbw4.setCell (p := ⟨w.heap.size, 0, none⟩) (Nat.le_refl _) _).setCell (p := ⟨w.heap.size, 1, none⟩) (Nat.le_refl _) _).setCell (p := ⟨w.heap.size, 2, none⟩) (Nat.le_refl _) _).setCell (p := ⟨w.heap.size, 3, none⟩) (Nat.le_refl _) _).setCell (p := ⟨w.heap.size, 4, none⟩) (Nat.le_refl _) _).setCell (p := ⟨w.heap.size + 1, 0, none⟩) (Nat.le_succ _) _).setCell (p := ⟨w.heap.size + 1, 1, none⟩) (Nat.le_succ _) _).setCell (p := ⟨w.heap.size + 1, 2, none⟩) (Nat.le_succ _) _)⟩; clear b4 r4 R4 hi5 hv4 hv5 hbw4 hz5 hz6 hkk hss hg4 hc4 hO4))
    all_goals
      go_wp2
      exact bodyPost_ret (v := .tuple #[.agg #[.int .i64 t2.kind, .int .i64 t2.num, .string t2.name, .slice L4 t2.labels.length lc4, .slice A4 t2.args.length ac4], .agg #[.int .i64 y.kind, .slice M y.labels.length mc, .slice DA y.args.length dc]]) (by simp [results, Tryd.results7, go_sem, d0, d1, d2, d3, d4, D0, D1, D2]) rfl HF.out
  · by_cases h1 : x = 1
    · subst h1
      have j0 : w3.drew.cell? ⟨zv, 0, none⟩ = some (.int .i64 t.kind) := rv3.cell 0
      have j1 : w3.drew.cell? ⟨zv, 1, none⟩ = some (.int .i64 t.num) := rv3.cell 1
      have j2 : w3.drew.cell? ⟨zv, 2, none⟩ = some (.string t.name) := rv3.cell 2
      have j3 : w3.drew.cell? ⟨zv, 3, none⟩ = some (.slice L t.labels.length lc) := rv3.cell 3
      have j4 : w3.drew.cell? ⟨zv, 4, none⟩ = some (.slice A2 t.args.length ac) := rv3.cell 4
      clear rt3 rv3
      go_upto_region 8 with fail
      go_region_held3 (fun x : World => x.cell? ⟨zv, 0, none⟩ = some (.int .i64 t.kind) ∧ x.cell? ⟨zv, 1, none⟩ = some (.int .i64 t.num) ∧ x.cell? ⟨zv, 2, none⟩ = some (.string t.name) ∧ x.cell? ⟨zv, 3, none⟩ = some (.slice L t.labels.length lc) ∧ x.cell? ⟨zv, 4, none⟩ = some (.slice A2 t.args.length ac))
        (first | (with_reducible exact ⟨j0, j1, j2, j3, j4⟩) | (with_reducible exact ⟨e0, e1, e2, e3, e4⟩) | (with_reducible exact ⟨u0, u1, u2, u3, u4⟩) | (with_reducible exact ⟨v0, v1, v2, v3, v4⟩))
        (first | (go_at_call 36; (with_reducible refine HPT.out.mono ?_); rintro e w4 ⟨⟨v4, y2, rfl, hO4, hzz⟩, hc4, hg4'⟩; have hg4 : w3.grownBy w4 (some p) := ⟨hg4'.os, hg4'.tape, hg4'.output, hg4'.size, hg4'.block⟩; clear hg4'; have hs4 := hg4.size; have hv4 := hO4.owned; obtain ⟨L4, lc4, A4, ac4, rfl⟩ := hO4.open; have r4 := HR3.out.grown hg4 (by omega); have R4 := HRR.out.grown hg4 (by omega); have hbw4 := below_only HBW.out hg4 (by omega) (by omega); have b4 := HRV.out.grown hg4 (by omega); have hi5 : VaIn w4 (Span w1.heap.size w4.heap.size) (.agg #[.int .i64 t.kind, .int .i64 t.num, .string t.name, .slice L t.labels.length lc, .slice A2 t.args.length ac]) t := (HIV.out.keep (w' := w4) (fun g hg hl => hg4.block g hl (fun e => by injection e with e; have := hg.1; omega))).wide (fun g hg => ⟨by have := hg.1; omega, by have := hg.2; omega⟩); have hv5 : TyIn w4 (Span w1.heap.size w4.heap.size) (.agg #[.int .i64 y2.kind, .slice L4 y2.labels.length lc4, .slice A4 y2.args.length ac4]) y2 := hv4.wide (fun g hg => ⟨Nat.le_trans (show w1.heap.size ≤ w3.heap.size by omega) hg.1, hg.2⟩); have e0 : w4.cell? ⟨zv, 0, none⟩ = some (.int .i64 t.kind) := b4.cell 0; have e1 : w4.cell? ⟨zv, 1, none⟩ = some (.int .i64 t.num) := b4.cell 1; have e2 : w4.cell? ⟨zv, 2, none⟩ = some (.string t.name) := b4.cell 2; have e3 : w4.cell? ⟨zv, 3, none⟩ = some (.slice L t.labels.length lc) := b4.cell 3; have e4 : w4.cell? ⟨zv, 4, none⟩ = some (.slice A2 t.args.length ac) := b4.cell 4; have d0 : w4.cell? ⟨w.heap.size, 0, none⟩ = some (.int .i64 0) := r4.cell 0; have f0 : w4.frozen? ⟨w.heap.size, 0, none⟩ = false := r4.free 0; have d1 : w4.cell? ⟨w.heap.size, 1, none⟩ = some (.int .i64 0) := r4.cell 1; have f1 : w4.frozen? ⟨w.heap.size, 1, none⟩ = false := r4.free 1; have d2 : w4.cell? ⟨w.heap.size, 2, none⟩ = some (.string ⟨#[]⟩) := r4.cell 2; have f2 : w4.frozen? ⟨w.heap.size, 2, none⟩ = false := r4.free 2; have d3 : w4.cell? ⟨w.heap.size, 3, none⟩ = some (.slice none 0 0) := r4.cell 3; have f3 : w4.frozen? ⟨w.heap.size, 3, none⟩ = false := r4.free 3; have d4 : w4.cell? ⟨w.heap.size, 4, none⟩ = some (.slice none 0 0) := r4.cell 4; have f4 : w4.frozen? ⟨w.heap.size, 4, none⟩ = false := r4.free 4; have D0 : w4.cell? ⟨w.heap.size + 1, 0, none⟩ = some (.int .i64 0) := R4.cell 0; have F0 : w4.frozen? ⟨w.heap.size + 1, 0, none⟩ = false := R4.free 0; have D1 : w4.cell? ⟨w.heap.size + 1, 1, none⟩ = some (.slice none 0 0) := R4.cell 1; have F1 : w4.frozen? ⟨w.heap.size + 1, 1, none⟩ = false := R4.free 1; have D2 : w4.cell? ⟨w.heap.size + 1, 2, none⟩ = some (.slice none 0 0) := R4.cell 2; have F2 : w4.frozen? ⟨w.heap.size + 1, 2, none⟩ = false := R4.free 2; have hz5 : (((((w4.setCell ⟨w.heap.size, 0, none⟩ (.int .i64 t.kind)).setCell ⟨w.heap.size, 1, none⟩ (.int .i64 t.num)).setCell ⟨w.heap.size, 2, none⟩ (.string t.name)).setCell ⟨w.heap.size, 3, none⟩ (.slice L t.labels.length lc)).setCell ⟨w.heap.size, 4, none⟩ (.slice A2 t.args.length ac)).heap[zv]? = w4.heap[zv]? := (by rw [Below.heap_setCell _ _ _ _ hzvr, Below.heap_setCell _ _ _ _ hzvr, Below.heap_setCell _ _ _ _ hzvr, Below.heap_setCell _ _ _ _ hzvr, Below.heap_setCell _ _ _ _ hzvr]); have hz6 : ((((((((w4.setCell ⟨w.heap.size, 0, none⟩ (.int .i64 t.kind)).setCell ⟨w.heap.size, 1, none⟩ (.int .i64 t.num)).setCell ⟨w.heap.size, 2, none⟩ (.string t.name)).setCell ⟨w.heap.size, 3, none⟩ (.slice L t.labels.length lc)).setCell ⟨w.heap.size, 4, none⟩ (.slice A2 t.args.length ac)).setCell ⟨w.heap.size + 1, 0, none⟩ (.int .i64 y2.kind)).setCell ⟨w.heap.size + 1, 1, none⟩ (.slice L4 y2.labels.length lc4)).setCell ⟨w.heap.size + 1, 2, none⟩ (.slice A4 y2.args.length ac4)).heap[zv]? = w4.heap[zv]? := (by rw [Below.heap_setCell _ _ _ _ hzvr1, Below.heap_setCell _ _ _ _ hzvr1, Below.heap_setCell _ _ _ _ hzvr1]; exact hz5); have u0 := (World.cell?_of_block (a := ⟨zv, 0, none⟩) hz5).trans e0; have v0 := (World.cell?_of_block (a := ⟨zv, 0, none⟩) hz6).trans e0; have u1 := (World.cell?_of_block (a := ⟨zv, 1, none⟩) hz5).trans e1; have v1 := (World.cell?_of_block (a := ⟨zv, 1, none⟩) hz6).trans e1; have u2 := (World.cell?_of_block (a := ⟨zv, 2, none⟩) hz5).trans e2; have v2 := (World.cell?_of_block (a := ⟨zv, 2, none⟩) hz6).trans e2; have u3 := (World.cell?_of_block (a := ⟨zv, 3, none⟩) hz5).trans e3; have v3 := (World.cell?_of_block (a := ⟨zv, 3, none⟩) hz6).trans e3; have u4 := (World.cell?_of_block (a := ⟨zv, 4, none⟩) hz5).trans e4; have v4 := (World.cell?_of_block (a := ⟨zv, 4, none⟩) hz6).trans e4; have hkk : ∀ g, g ≠ w.heap.size → g ≠ w.heap.size + 1 → ((((((((w4.setCell ⟨w.heap.size, 0, none⟩ (.int .i64 t.kind)).setCell ⟨w.heap.size, 1, none⟩ (.int .i64 t.num)).setCell ⟨w.heap.size, 2, none⟩ (.string t.name)).setCell ⟨w.heap.size, 3, none⟩ (.slice L t.labels.length lc)).setCell ⟨w.heap.size, 4, none⟩ (.slice A2 t.args.length ac)).setCell ⟨w.heap.size + 1, 0, none⟩ (.int .i64 y2.kind)).setCell ⟨w.heap.size + 1, 1, none⟩ (.slice L4 y2.labels.length lc4)).setCell ⟨w.heap.size + 1, 2, none⟩ (.slice A4 y2.args.length ac4)).heap[g]? = w4.heap[g]? := (fun g h1 h2 => by rw [Below.heap_setCell _ _ _ _ h2, Below.heap_setCell _ _ _ _ h2, Below.heap_setCell _ _ _ _ h2, Below.heap_setCell _ _ _ _ h1, Below.heap_setCell _ _ _ _ h1, Below.heap_setCell _ _ _ _ h1, Below.heap_setCell _ _ _ _ h1, Below.heap_setCell _ _ _ _ h1]); have hss : ((((((((w4.setCell ⟨w.heap.size, 0, none⟩ (.int .i64 t.kind)).setCell ⟨w.heap.size, 1, none⟩ (.int .i64 t.num)).setCell ⟨w.heap.size, 2, none⟩ (.string t.name)).setCell ⟨w.heap.size, 3, none⟩ (.slice L t.labels.length lc)).setCell ⟨w.heap.size, 4, none⟩ (.slice A2 t.args.length ac)).setCell ⟨w.heap.size + 1, 0, none⟩ (.int .i64 y2.kind)).setCell ⟨w.heap.size + 1, 1, none⟩ (.slice L4 y2.labels.length lc4)).setCell ⟨w.heap.size + 1, 2, none⟩ (.slice A4 y2.args.length ac4)).heap.size = w4.heap.size := (by simp [World.setCell]); have HF : Hid (GivesVaTy w (.returned (.tuple #[.agg #[.int .i64 t.kind, .int .i64 t.num, .string t.name, .slice L t.labels.length lc, .slice A2 t.args.length ac], .agg #[.int .i64 y2.kind, .slice L4 y2.labels.length lc4, .slice A4 y2.args.length ac4]])) ((((((((w4.setCell ⟨w.heap.size, 0, none⟩ (.int .i64 t.kind)).setCell ⟨w.heap.size, 1, none⟩ (.int .i64 t.num)).setCell ⟨w.heap.size, 2, none⟩ (.string t.name)).setCell ⟨w.heap.size, 3, none⟩ (.slice L t.labels.length lc)).setCell ⟨w.heap.size, 4, none⟩ (.slice A2 t.args.length ac)).setCell ⟨w.heap.size + 1, 0, none⟩ (.int .i64 y2.kind)).setCell ⟨w.heap.size + 1, 1, none⟩ (.slice L4 y2.labels.length lc4)).setCell ⟨w.heap.size + 1, 2, none⟩ (.slice A4 y2.args.length ac4))) := Lib.hid ⟨⟨_, t, _, y2, rfl, (by rw [hss]; exact (hi5.keep (fun g hg _ => hkk g (by have := hg.1; omega) (by have := hg.1; omega))).wide (fun g hg => ⟨by have := hg.1; omega, hg.2⟩)), HTZ.out.1, HTZ.out.2, (by rw [hss]; exact (hv5.keep (fun g hg _ => hkk g (by have := hg.1; omega) (by have := hg.1; omega))).wide (fun g hg => ⟨by have := hg.1; omega, hg.2⟩)), hzz⟩, ((((((((hbw4.setCell (p := ⟨w.heap.size, 0, none⟩) (Nat.le_refl _) _).setCell (p := ⟨w.heap.size, 1, none⟩) (Nat.le_refl _) _).setCell (p := ⟨w.heap.size, 2, none⟩) (Nat.le_refl _) _).setCell (p := ⟨w.heap.size, 3, none⟩) (Nat.le_refl _) _).setCell (p := ⟨w.heap.size, 4, none⟩) (Nat.le_refl _) _).setCell (p := ⟨w.heap.size + 1, 0, none⟩) (Nat.le_succ _) _).setCell (p := ⟨w.heap.size + 1, 1, none⟩) (Nat.le_succ _) _).setCell (p := ⟨w.heap.size + 1, 2, none⟩) (Nat.le_succ _) _)⟩; clear b4 r4 R4 hi5 hv4 hv5 hbw4 hz5 hz6 hkk hss hg4 hc4 hO4))
      all_goals
        go_wp2
        exact bodyPost_ret (v := .tuple #[.agg #[.int .i64 t.kind, .int .i64 t.num, .string t.name, .slice L t.labels.length lc, .slice A2 t.args.length ac], .agg #[.int .i64 y2.kind, .slice L4 y2.labels.length lc4, .slice A4 y2.args.length ac4]]) (by simp [results, Tryd.results7, go_sem, d0, d1, d2, d3, d4, D0, D1, D2]) rfl HF.out
    · have hx01 : (x == 0) = false := by rw [beq_eq_false_iff_ne]; exact h0
      have hx11 : (x == 1) = false := by rw [beq_eq_false_iff_ne]; exact h1
      have HN := Lib.hid (⟨hztr, hztr1, hzvr, hzvr1⟩ : zt ≠ w.heap.size ∧ zt ≠ w.heap.size + 1 ∧ zv ≠ w.heap.size ∧ zv ≠ w.heap.size + 1)
      have HSZ := Lib.hid (And.intro hs1 (And.intro hs2 (And.intro hsv (And.intro hs3 (And.intro hsB hsV)))))
      clear h0 h1 rt3 rv3 HPB HPT hztr hztr1 hzvr hzvr1
      go_upto_region 9 with fail
      obtain ⟨hztr, hztr1, hzvr, hzvr1⟩ := HN.out
      have j0 : w3.cell? ⟨zt, 0, none⟩ = some (.int .i64 y.kind) := HRT.out.cell 0
      have j1 : w3.cell? ⟨zt, 1, none⟩ = some (.slice M y.labels.length mc) := HRT.out.cell 1
      have j2 : w3.cell? ⟨zt, 2, none⟩ = some (.slice DA y.args.length dc) := HRT.out.cell 2
      have k0 : w3.cell? ⟨zv, 0, none⟩ = some (.int .i64 t.kind) := HRV.out.cell 0
      have k1 : w3.cell? ⟨zv, 1, none⟩ = some (.int .i64 t.num) := HRV.out.cell 1
      have k2 : w3.cell? ⟨zv, 2, none⟩ = some (.string t.name) := HRV.out.cell 2
      have k3 : w3.cell? ⟨zv, 3, none⟩ = some (.slice L t.labels.length lc) := HRV.out.cell 3
      have k4 : w3.cell? ⟨zv, 4, none⟩ = some (.slice A2 t.args.length ac) := HRV.out.cell 4
      have d0 : w3.cell? ⟨w.heap.size, 0, none⟩ = some (.int .i64 0) := HR3.out.cell 0
      have f0 : w3.frozen? ⟨w.heap.size, 0, none⟩ = false := HR3.out.free 0
      have d1 : w3.cell? ⟨w.heap.size, 1, none⟩ = some (.int .i64 0) := HR3.out.cell 1
      have f1 : w3.frozen? ⟨w.heap.size, 1, none⟩ = false := HR3.out.free 1
      have d2 : w3.cell? ⟨w.heap.size, 2, none⟩ = some (.string ⟨#[]⟩) := HR3.out.cell 2
      have f2 : w3.frozen? ⟨w.heap.size, 2, none⟩ = false := HR3.out.free 2
      have d3 : w3.cell? ⟨w.heap.size, 3, none⟩ = some (.slice none 0 0) := HR3.out.cell 3
      have f3 : w3.frozen? ⟨w.heap.size, 3, none⟩ = false := HR3.out.free 3
      have d4 : w3.cell? ⟨w.heap.size, 4, none⟩ = some (.slice none 0 0) := HR3.out.cell 4
      have f4 : w3.frozen? ⟨w.heap.size, 4, none⟩ = false := HR3.out.free 4
      have D0 : w3.cell? ⟨w.heap.size + 1, 0, none⟩ = some (.int .i64 0) := HRR.out.cell 0
      have F0 : w3.frozen? ⟨w.heap.size + 1, 0, none⟩ = false := HRR.out.free 0
      have D1 : w3.cell? ⟨w.heap.size + 1, 1, none⟩ = some (.slice none 0 0) := HRR.out.cell 1
      have F1 : w3.frozen? ⟨w.heap.size + 1, 1, none⟩ = false := HRR.out.free 1
      have D2 : w3.cell? ⟨w.heap.size + 1, 2, none⟩ = some (.slice none 0 0) := HRR.out.cell 2
      have F2 : w3.frozen? ⟨w.heap.size + 1, 2, none⟩ = false := HRR.out.free 2
      have HF : Hid (GivesVaTy w (.returned (.tuple #[.agg #[.int .i64 t.kind, .int .i64 t.num, .string t.name, .slice L t.labels.length lc, .slice A2 t.args.length ac], .agg #[.int .i64 y.kind, .slice M y.labels.length mc, .slice DA y.args.length dc]])) (((((((((w3.setCell ⟨w.heap.size, 0, none⟩ (.int .i64 t.kind)).setCell ⟨w.heap.size, 1, none⟩ (.int .i64 t.num)).setCell ⟨w.heap.size, 2, none⟩ (.string t.name)).setCell ⟨w.heap.size, 3, none⟩ (.slice L t.labels.length lc)).setCell ⟨w.heap.size, 4, none⟩ (.slice A2 t.args.length ac)).setCell ⟨w.heap.size + 1, 0, none⟩ (.int .i64 y.kind)).setCell ⟨w.heap.size + 1, 1, none⟩ (.slice M y.labels.length mc)).setCell ⟨w.heap.size + 1, 2, none⟩ (.slice DA y.args.length dc))).drew) := Lib.hid (fin8 HBW.out HIV.out HIT.out HTZ.out.1 HTZ.out.2 HYZ.out (by omega) (by omega) (by omega) (by omega) _ _ _ _ _ _ _ _)
      go_region
      all_goals
        go_wp2
        exact bodyPost_ret (v := .tuple #[.agg #[.int .i64 t.kind, .int .i64 t.num, .string t.name, .slice L t.labels.length lc, .slice A2 t.args.length ac], .agg #[.int .i64 y.kind, .slice M y.labels.length mc, .slice DA y.args.length dc]]) (by simp [results, Tryd.results7, go_sem, d0, d1, d2, d3, d4, D0, D1, D2]) rfl HF.out

end Go.Proofs.YtlmbnefoobameaaDoor
