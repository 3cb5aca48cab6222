/- Lemmas: VDraw4, VDraw5, SpecHas, VDraw, VBentLib. -/
import Derived.Test.YtceclhndagoddaaGreatDoorLawFnValueText_10
import Derived.Deep.DeepCutAuto
import Derived.Deep.DrawnRows
import Derived.Deep.RegionHeld3
import Derived.Test.YtceclhndagoddaaGreatDoorLawFnValueText_8
import Derived.Test.YtceclhndagoddaaGreatDoorLawFnValueText_7

section
namespace Go.Proofs.YtceclhndagoddaaGreatDoor
set_option maxRecDepth 100000
open Go.RowKit
attribute [local go_sem ↓] Go.wp_at_zero Go.wp_at_succ

theorem grown_cell {w w' : World} {p : Nat} (hg : w.grownBy w' (some p)) {a : Addr} (hl : a.block < w.heap.size) (hne : a.block ≠ p) : w'.cell? a = w.cell? a := World.cell?_of_block (w := w) (hg.block a.block hl (fun e => by injection e with e; exact hne e))

set_option maxHeartbeats 8000000 in
theorem specDrawV_4 (ls : List ByteArray) (ts : List Ty) (A : Option Addr) (gl off lc ac p B n : Nat) (S : Nat → Prop) (w : World) (hc : CurAt w B p) (hA : TysIn w S A ts) (hpS : ¬ S p) (hl : ∀ i, (h : i < ls.length) → w.cell? ⟨gl, off + i, none⟩ = some (.string ls[i])) (hglw : gl < w.heap.size) (hngl : gl ≠ p) (hz : ∀ i, (h : i < ls.length) → ls[i].size ≤ maxLen) (hlen : ts.length = ls.length) (h1l : 1 ≤ ls.length) (h2l : ls.length ≤ 1048576) (hn : sumSizes ls + ls.length + drawSzs ts + ts.length ≤ n)
    (hall : ∀ i, (h : i < ts.length) → ∀ (v : Value) (S' : Nat → Prop) (W : World), TyIn W S' v ts[i] → ¬ S' p → CurAt W B p → Calls Tryz.prog 27 #[.pointer (some ⟨p, 0, none⟩), v] W (DrawnVa W B p (drawSz ts[i]))) :
    Calls Tryz.prog 27 #[.pointer (some ⟨p, 0, none⟩), .agg #[.int .i64 4, .slice (some ⟨gl, off, none⟩) ls.length lc, .slice A ts.length ac]] w (DrawnVa w B p n) := by
  have hpl := hc.lt
  have h1lI : (1 : Int) ≤ (ls.length : Int) := by omega
  have h2lI : (ls.length : Int) ≤ 1048576 := by omega
  obtain ⟨hb0, p0, r0, hs0⟩ := boxes2 w 58 27 #[.int .i64 4, .slice (some ⟨gl, off, none⟩) ls.length lc, .slice A ts.length ac] #[.int .i64 0, .int .i64 0, .string ⟨#[]⟩, .slice none 0 0, .slice none 0 0]
  have HB := Lib.hid (fun W h => l1Below_any p B (ls.length : Int) W h (by omega) (by omega))
  have HALL := Lib.hid hall
  have HN := Lib.hid hz
  have HNH := Lib.hid hn
  have HL := Lib.hid hl
  have HLEN := Lib.hid hlen
  have hc0 := hc.belowP hb0 hpl
  have hg0 := only_below (only_refl w (some p)) hb0
  clear hc hall hb0 hz hn hl hlen
  go_enter Tryz.func27, Tryz.ntmps27
  go_upto_region 14 with fail
  generalize (w.alloc (.cells #[.int .i64 4, .slice (some ⟨gl, off, none⟩) ls.length lc, .slice A ts.length ac] 58)).alloc (.cells #[.int .i64 0, .int .i64 0, .string ⟨#[]⟩, .slice none 0 0, .slice none 0 0] 27) = w0 at *
  have q1 : w0.cell? ⟨w.heap.size, 1, none⟩ = some (.slice (some ⟨gl, off, none⟩) ls.length lc) := p0.cell 1
  go_wp2_with fail
  refine (HB.out _ hc0).mono ?_
  rintro e wc ⟨⟨x, rfl, hx0, hx1⟩, hcc, hgx⟩
  obtain ⟨k, rfl⟩ : ∃ k : Nat, x = (k : Int) := ⟨x.toNat, by omega⟩
  have hkl : k < ls.length := by omega
  have hkt : k < ts.length := by have := HLEN.out; omega
  have hklI : (k : Int) < (ls.length : Int) := by omega
  have hktI : (k : Int) < (ts.length : Int) := by omega
  have p1 := p0.grown hgx (by omega)
  have r1 := r0.grown hgx (by omega)
  have hgc := only_trans hg0 hgx
  have hcsz := hgx.size
  clear p0 r0 hg0 hgx hc0 q1
  obtain ⟨ga, off', M, mc, C, cc, S', rfl, hSga, hgaw, e0, e1, e2, ht, hss⟩ := hA.elem k hkt
  have hnga : ga ≠ p := fun e => hpS (by rw [← e]; exact hSga)
  have q0 : wc.cell? ⟨w.heap.size, 1, none⟩ = some (.slice (some ⟨gl, off, none⟩) ls.length lc) := p1.cell 1
  have q1 : wc.cell? ⟨w.heap.size, 2, none⟩ = some (.slice (some ⟨ga, off', none⟩) ts.length ac) := p1.cell 2
  have q2 : wc.cell? ⟨gl, off + k, none⟩ = some (.string ls[k]) := (grown_cell hgc (a := ⟨gl, off + k, none⟩) hglw hngl).trans (HL.out k hkl)
  have q3 : wc.cell? ⟨ga, off' + k * 3, none⟩ = some (.int .i64 ts[k].kind) := (grown_cell hgc (a := ⟨ga, off' + k * 3, none⟩) hgaw hnga).trans e0
  have q4 : wc.cell? ⟨ga, off' + k * 3 + 1, none⟩ = some (.slice M ts[k].labels.length mc) := (grown_cell hgc (a := ⟨ga, off' + k * 3 + 1, none⟩) hgaw hnga).trans e1
  have q5 : wc.cell? ⟨ga, off' + k * 3 + 2, none⟩ = some (.slice C ts[k].args.length cc) := (grown_cell hgc (a := ⟨ga, off' + k * 3 + 2, none⟩) hgaw hnga).trans e2
  have hpl1 := p1.lt
  have hnep : w.heap.size ≠ p := by omega
  have hglc : gl < wc.heap.size := by omega
  have hgac : ga < wc.heap.size := by omega
  have ed := (Below.refl wc.heap.size wc).drew
  have HT := Lib.hid (HALL.out k hkt _ S' wc.drew ((ht.grown hgc (fun h => hpS (hss _ h))).keep fun _ _ _ => rfl) (fun h => hpS (hss _ h)) (hcc.belowP ed hcc.lt))
  have HR0 := Lib.hid r1
  have HGC := Lib.hid hgc
  have hd0 := (ed.cell (p := ⟨w.heap.size, 1, none⟩) hpl1).trans q0
  have hd1 := (ed.cell (p := ⟨w.heap.size, 2, none⟩) hpl1).trans q1
  have hd2 := (ed.cell (p := ⟨gl, off + k, none⟩) hglc).trans q2
  have hd3 := (ed.cell (p := ⟨ga, off' + k * 3, none⟩) hgac).trans q3
  have hd4 := (ed.cell (p := ⟨ga, off' + k * 3 + 1, none⟩) hgac).trans q4
  have hd5 := (ed.cell (p := ⟨ga, off' + k * 3 + 2, none⟩) hgac).trans q5
  clear p1 r1 ht hss hSga hA hpS hgc hcc e0 e1 e2
  go_wp2
  go_region_held3 (fun x => x.cell? ⟨w.heap.size, 1, none⟩ = some (.slice (some ⟨gl, off, none⟩) ls.length lc) ∧ x.cell? ⟨w.heap.size, 2, none⟩ = some (.slice (some ⟨ga, off', none⟩) ts.length ac) ∧ x.cell? ⟨gl, off + k, none⟩ = some (.string ls[k]) ∧ x.cell? ⟨ga, off' + k * 3, none⟩ = some (.int .i64 ts[k].kind) ∧ x.cell? ⟨ga, off' + k * 3 + 1, none⟩ = some (.slice M ts[k].labels.length mc) ∧ x.cell? ⟨ga, off' + k * 3 + 2, none⟩ = some (.slice C ts[k].args.length cc)) ((first | (with_reducible exact ⟨hd0, hd1, hd2, hd3, hd4, hd5⟩) | (with_reducible exact ⟨k0, k1, k2, k3, k4, k5⟩) | (with_reducible exact ⟨m0, m1, m2, m3, m4, m5⟩) | (with_reducible exact ⟨s0, s1, s2, s3, s4, s5⟩)))
    (first | (go_at_call 27; refine HT.out.mono ?_; rintro e w1 ⟨⟨v1, u, rfl, ho1, hz1, hn1⟩, hc1, hg1⟩; have hg1' : wc.grownBy w1 (some p) := ⟨hg1.os, hg1.tape, hg1.output, hg1.size, hg1.block⟩; have HC1 := Lib.hid hc1; have HT1 := Lib.hid ho1.owned; have HZ1 := Lib.hid (And.intro hz1 hn1); obtain ⟨T1, U1, T2, U2, rfl⟩ := ho1.open; clear ho1 hc1 hz1 hn1 hg1; have hgA := grown_alloc hg1' (.cells #[.int .i64 u.kind, .int .i64 u.num, .string u.name, .slice T1 u.labels.length U1, .slice T2 u.args.length U2] 27); have r2 := HR0.out.grown hgA (by omega); have k0 := (grown_cell hg1' (a := ⟨w.heap.size, 1, none⟩) hpl1 hnep).trans q0; have k1 := (grown_cell hg1' (a := ⟨w.heap.size, 2, none⟩) hpl1 hnep).trans q1; have k2 := (grown_cell hg1' (a := ⟨gl, off + k, none⟩) hglc hngl).trans q2; have k3 := (grown_cell hg1' (a := ⟨ga, off' + k * 3, none⟩) hgac hnga).trans q3; have k4 := (grown_cell hg1' (a := ⟨ga, off' + k * 3 + 1, none⟩) hgac hnga).trans q4; have k5 := (grown_cell hg1' (a := ⟨ga, off' + k * 3 + 2, none⟩) hgac hnga).trans q5; have m0 := (grown_cell hgA (a := ⟨w.heap.size, 1, none⟩) hpl1 hnep).trans q0; have m1 := (grown_cell hgA (a := ⟨w.heap.size, 2, none⟩) hpl1 hnep).trans q1; have m2 := (grown_cell hgA (a := ⟨gl, off + k, none⟩) hglc hngl).trans q2; have m3 := (grown_cell hgA (a := ⟨ga, off' + k * 3, none⟩) hgac hnga).trans q3; have m4 := (grown_cell hgA (a := ⟨ga, off' + k * 3 + 1, none⟩) hgac hnga).trans q4; have m5 := (grown_cell hgA (a := ⟨ga, off' + k * 3 + 2, none⟩) hgac hnga).trans q5; have d0 : (w1.alloc (.cells #[.int .i64 u.kind, .int .i64 u.num, .string u.name, .slice T1 u.labels.length U1, .slice T2 u.args.length U2] 27)).cell? ⟨w.heap.size + 1, 0, none⟩ = some (.int .i64 0) := r2.cell 0; have f0 : (w1.alloc (.cells #[.int .i64 u.kind, .int .i64 u.num, .string u.name, .slice T1 u.labels.length U1, .slice T2 u.args.length U2] 27)).frozen? ⟨w.heap.size + 1, 0, none⟩ = false := r2.free 0; have d1 : (w1.alloc (.cells #[.int .i64 u.kind, .int .i64 u.num, .string u.name, .slice T1 u.labels.length U1, .slice T2 u.args.length U2] 27)).cell? ⟨w.heap.size + 1, 1, none⟩ = some (.int .i64 0) := r2.cell 1; have f1 : (w1.alloc (.cells #[.int .i64 u.kind, .int .i64 u.num, .string u.name, .slice T1 u.labels.length U1, .slice T2 u.args.length U2] 27)).frozen? ⟨w.heap.size + 1, 1, none⟩ = false := r2.free 1; have d2 : (w1.alloc (.cells #[.int .i64 u.kind, .int .i64 u.num, .string u.name, .slice T1 u.labels.length U1, .slice T2 u.args.length U2] 27)).cell? ⟨w.heap.size + 1, 2, none⟩ = some (.string ⟨#[]⟩) := r2.cell 2; have f2 : (w1.alloc (.cells #[.int .i64 u.kind, .int .i64 u.num, .string u.name, .slice T1 u.labels.length U1, .slice T2 u.args.length U2] 27)).frozen? ⟨w.heap.size + 1, 2, none⟩ = false := r2.free 2; have d3 : (w1.alloc (.cells #[.int .i64 u.kind, .int .i64 u.num, .string u.name, .slice T1 u.labels.length U1, .slice T2 u.args.length U2] 27)).cell? ⟨w.heap.size + 1, 3, none⟩ = some (.slice none 0 0) := r2.cell 3; have f3 : (w1.alloc (.cells #[.int .i64 u.kind, .int .i64 u.num, .string u.name, .slice T1 u.labels.length U1, .slice T2 u.args.length U2] 27)).frozen? ⟨w.heap.size + 1, 3, none⟩ = false := r2.free 3; have d4 : (w1.alloc (.cells #[.int .i64 u.kind, .int .i64 u.num, .string u.name, .slice T1 u.labels.length U1, .slice T2 u.args.length U2] 27)).cell? ⟨w.heap.size + 1, 4, none⟩ = some (.slice none 0 0) := r2.cell 4; have f4 : (w1.alloc (.cells #[.int .i64 u.kind, .int .i64 u.num, .string u.name, .slice T1 u.labels.length U1, .slice T2 u.args.length U2] 27)).frozen? ⟨w.heap.size + 1, 4, none⟩ = false := r2.free 4; have hbS := ((((((Below.refl (w.heap.size + 1) (w1.alloc (.cells #[.int .i64 u.kind, .int .i64 u.num, .string u.name, .slice T1 u.labels.length U1, .slice T2 u.args.length U2] 27))).setCell (p := ⟨w.heap.size + 1, 0, none⟩) (Nat.le_refl _) (.int .i64 4)).setCell (p := ⟨w.heap.size + 1, 1, none⟩) (Nat.le_refl _) (.int .i64 0)).setCell (p := ⟨w.heap.size + 1, 2, none⟩) (Nat.le_refl _) (.string ls[k])).setCell (p := ⟨w.heap.size + 1, 3, none⟩) (Nat.le_refl _) (.slice none 0 0)).setCell (p := ⟨w.heap.size + 1, 4, none⟩) (Nat.le_refl _) (.slice (some ⟨w1.heap.size, 0, none⟩) 1 1)); have s0 := (hbS.cell (p := ⟨w.heap.size, 1, none⟩) (Nat.lt_succ_self _)).trans m0; have s1 := (hbS.cell (p := ⟨w.heap.size, 2, none⟩) (Nat.lt_succ_self _)).trans m1; have s2 := (hbS.cell (p := ⟨gl, off + k, none⟩) (Nat.lt_succ_of_lt hglw)).trans m2; have s3 := (hbS.cell (p := ⟨ga, off' + k * 3, none⟩) (Nat.lt_succ_of_lt hgaw)).trans m3; have s4 := (hbS.cell (p := ⟨ga, off' + k * 3 + 1, none⟩) (Nat.lt_succ_of_lt hgaw)).trans m4; have s5 := (hbS.cell (p := ⟨ga, off' + k * 3 + 2, none⟩) (Nat.lt_succ_of_lt hgaw)).trans m5))
  have HF : Hid (∀ a b c d e : Value, DrawnVa w B p n (.returned (.agg #[.int .i64 4, .int .i64 0, .string ls[k], .slice none 0 0, .slice (some ⟨w1.heap.size, 0, none⟩) 1 1])) ((((((w1.alloc (.cells #[.int .i64 u.kind, .int .i64 u.num, .string u.name, .slice T1 u.labels.length U1, .slice T2 u.args.length U2] 27)).setCell ⟨w.heap.size + 1, 0, none⟩ a).setCell ⟨w.heap.size + 1, 1, none⟩ b).setCell ⟨w.heap.size + 1, 2, none⟩ c).setCell ⟨w.heap.size + 1, 3, none⟩ d).setCell ⟨w.heap.size + 1, 4, none⟩ e)) := by
    have hvg : VGather (w1.alloc (.cells #[.int .i64 u.kind, .int .i64 u.num, .string u.name, .slice T1 u.labels.length U1, .slice T2 u.args.length U2] 27)) (w.heap.size + 2) (.slice (some ⟨w1.heap.size, 0, none⟩) 1 1) 1 [u] := vgather_one (by omega) hg1'.size (HT1.out : VaIn w1 (Span wc.heap.size w1.heap.size) _ _)
    obtain ⟨xs, vs, lo, hi', hG⟩ := hvg
    have hown9 : OwnVa (w1.alloc (.cells #[.int .i64 u.kind, .int .i64 u.num, .string u.name, .slice T1 u.labels.length U1, .slice T2 u.args.length U2] 27)) (w.heap.size + 2) (.agg #[.int .i64 4, .int .i64 0, .string ls[k], .slice none 0 0, .slice (some ⟨w1.heap.size, 0, none⟩) 1 1]) (.mk 4 0 ls[k] [] [u]) := ⟨none, 0, some ⟨w1.heap.size, 0, none⟩, 1, xs, vs, lo, hi', rfl, HN.out k hkl, fun i h => absurd h (by simp [Va.labels]), by simp [Va.args, maxLen], World.ownsRow_nil _ _ _ 1, hG, fun gl h => by cases h⟩
    exact Lib.hid (drawnV_fin (w := w) (B := B) (p := p) (n := n) hown9 (by have h5 := HNH.out; have h6 := size_le_sumSizes ls k hkl; have h7 := drawSzs_part ts k hkt; have h8 := HZ1.out.1; have h9 : sumSizes [] = 0 := rfl; simp only [szVa, szVas, h9, List.length_nil]; omega) (smallB_mk _ _ _ _ _ (by omega) (fun i h => by
      have h0 : i = 0 := by simpa using h
      subst h0
      exact HZ1.out.2)) (HC1.out.belowP ((Below.refl _ w1).alloc (Nat.le_refl _) _) HC1.out.lt) hpl (only_trans HGC.out hgA))
  go_wp2
  exact bodyPost_ret (v := .agg #[.int .i64 4, .int .i64 0, .string ls[k], .slice none 0 0, .slice (some ⟨w1.heap.size, 0, none⟩) 1 1]) (by simp [results, Tryz.results27, go_sem, d0, d1, d2, d3, d4]) rfl (HF.out _ _ _ _ _)

end Go.Proofs.YtceclhndagoddaaGreatDoor
end

section
namespace Go.Proofs.YtceclhndagoddaaGreatDoor
set_option maxRecDepth 100000
open Go.RowKit
attribute [local go_sem ↓] Go.wp_at_zero Go.wp_at_succ

set_option maxHeartbeats 8000000 in
theorem specDrawV_5 (ls : List ByteArray) (ts : List Ty) (L A : Option Addr) (lc ac p B n : Nat) (S : Nat → Prop) (w : World) (hc : CurAt w B p) (hA : TysIn w S A ts) (hpS : ¬ S p) (h0t : 0 < ts.length) (hn : 3 * (1 + drawSz ts[0]) ≤ n)
    (hall : ∀ i, (h : i < ts.length) → ∀ (v : Value) (S' : Nat → Prop) (W : World), TyIn W S' v ts[i] → ¬ S' p → CurAt W B p → Calls Tryz.prog 27 #[.pointer (some ⟨p, 0, none⟩), v] W (DrawnVa W B p (drawSz ts[i]))) :
    Calls Tryz.prog 27 #[.pointer (some ⟨p, 0, none⟩), .agg #[.int .i64 5, .slice L ls.length lc, .slice A ts.length ac]] w (DrawnVa w B p n) := by
  have hpl := hc.lt
  have h0tI : (0 : Int) < (ts.length : Int) := by omega
  obtain ⟨hb0, p0, r0, hs0⟩ := boxes2 w 58 27 #[.int .i64 5, .slice L ls.length lc, .slice A ts.length ac] #[.int .i64 0, .int .i64 0, .string ⟨#[]⟩, .slice none 0 0, .slice none 0 0]
  have HB := Lib.hid (fun W h => l1Below_any p B 4 W h (by omega) (by omega))
  have HALL := Lib.hid hall
  have hc0 := hc.belowP hb0 hpl
  have hg0 := only_below (only_refl w (some p)) hb0
  clear hc hall hb0
  go_enter Tryz.func27, Tryz.ntmps27
  go_upto_region 16 with fail
  generalize (w.alloc (.cells #[.int .i64 5, .slice L ls.length lc, .slice A ts.length ac] 58)).alloc (.cells #[.int .i64 0, .int .i64 0, .string ⟨#[]⟩, .slice none 0 0, .slice none 0 0] 27) = w0 at *
  go_wp2_with fail
  have hbo := (Below.refl w0.heap.size w0).alloc (Nat.le_refl _) (.cells #[.int .i64 5, .int .i64 0, .string ⟨#[]⟩, .slice none 0 0, .slice none 0 0] 27)
  have ho := Whole1.new w0 27 #[.int .i64 5, .int .i64 0, .string ⟨#[]⟩, .slice none 0 0, .slice none 0 0]
  have po1 := p0.below hbo p0.lt
  have ro1 := r0.below hbo r0.lt
  refine (HB.out _ (hc0.belowP hbo hc0.lt)).mono ?_
  rintro e wc ⟨⟨x, rfl, hx0, hx1⟩, hcc, hgx⟩
  obtain ⟨m, rfl⟩ : ∃ m : Nat, x = (m : Int) := ⟨x.toNat, by omega⟩
  have hm3 : m ≤ 3 := by omega
  have p1 := po1.grown hgx (by omega)
  have r1 := ro1.grown hgx (by omega)
  have ho0 := ho.grown hgx (by omega)
  have hgc := only_trans (only_below hg0 hbo) hgx
  clear p0 r0 po1 ro1 ho hg0 hgx hc0 hbo
  rw [hs0] at ho0
  have hol : w.heap.size + 2 < wc.heap.size := ho0.lt
  have hplc : w.heap.size < wc.heap.size := p1.lt
  have hrl : w.heap.size + 1 < wc.heap.size := r1.lt
  have hgaz := hA.1
  have HA := Lib.hid hA
  have HPS := Lib.hid hpS
  have HGC := Lib.hid hgc
  obtain ⟨i1, hi1, hy0, hy1, hy2⟩ := info_parts infoValue
  clear hA hpS hgc
  go_wp2
  go_loopw [10] (fun i wr => ∃ (k c2 : Nat) (A2 : Option Addr) (us : List Va), k = us.length ∧ k ≤ m ∧ i = .int .i64 k ∧ szVas us ≤ k * (1 + drawSz ts[0]) ∧ smallBs us = true ∧ Whole1 wr (w.heap.size + 2) 27 #[.int .i64 5, .int .i64 0, .string ⟨#[]⟩, .slice none 0 0, .slice A2 k c2] ∧ VGather wr wc.heap.size (.slice A2 k c2) k us ∧ (∀ q, q < wc.heap.size → q ≠ (w.heap.size + 2) → q ≠ p → wr.heap[q]? = wc.heap[q]?) ∧ CurAt wr B p ∧ w.grownBy wr (some p) ∧ wc.heap.size ≤ wr.heap.size) (fun i _ => m - (intOf i).toNat)
  case atStart => exact ⟨0, 0, none, [], rfl, Nat.zero_le _, rfl, by simp [szVas], by rw [smallBs], ho0, VGather.start _ _ _, fun _ _ _ _ => rfl, hcc, HGC.out, Nat.le_refl _⟩
  case round =>
    obtain ⟨k, c2, A2, us, hul, hk, rfl, hszu, hnbu, ho, hga, hold, hcr, hb, hsz1⟩ := hrel
    have HOLD := Lib.hid hold
    have HSZU := Lib.hid hszu
    have HNBU := Lib.hid hnbu
    have HCR := Lib.hid hcr
    have HB9 := Lib.hid hb
    have p2 : Whole1 wr w.heap.size 58 #[.int .i64 5, .slice L ls.length lc, .slice A ts.length ac] := (hold _ hplc (by omega) (by omega)).trans p1
    have q2 : wr.cell? ⟨w.heap.size, 2, none⟩ = some (.slice A ts.length ac) := p2.cell 2
    have hpr : p < wr.heap.size := hcr.lt
    have HUL := Lib.hid hul
    clear hold hszu hnbu hcr hb hul
    by_cases hlt : k < m
    · have hltI : (k : Int) < (m : Int) := by omega
      obtain ⟨xs, vs, lo, hi', hG⟩ := hga
      obtain ⟨ga, off, M, mc, C, cc, S', rfl, hSga, hgal, e0, e1, e2, ht, hss⟩ := (HA.out.grown HB9.out HPS.out).elem 0 h0t
      simp only [Nat.zero_mul, Nat.add_zero] at e0 e1 e2
      have HT := Lib.hid (HALL.out 0 h0t _ S' wr.drew (ht.keep fun _ _ _ => rfl) (fun h => HPS.out (hss _ h)) (HCR.out.belowP ((Below.refl _ wr).drew) hpr))
      have HG := Lib.hid hG
      have HO := Lib.hid ho
      have o2 : wr.cell? ⟨w.heap.size + 2, 4, none⟩ = some (.slice A2 k c2) := ho.cell 4
      have f2 : wr.frozen? ⟨w.heap.size + 2, 4, none⟩ = false := ho.free 4
      have how : (w.heap.size + 2) < wr.heap.size := by omega
      have HOWN := Lib.hid hG.own
      clear hG ho ht p2 hss hSga
      go_wp2
      go_region_law (first
        | (go_simp; go_at_call 27; refine HT.out.mono ?_; rintro e w1 ⟨⟨v1, u, rfl, ho1, hz1, hn1⟩, hc1, hg1⟩; have hg1' : wr.grownBy w1 (some p) := ⟨hg1.os, hg1.tape, hg1.output, hg1.size, hg1.block⟩; have HC1 := Lib.hid hc1; have HT1 := Lib.hid ho1.owned; obtain ⟨T1, U1, T2, U2, rfl⟩ := ho1.open; clear ho1 hc1; have hs1 := hg1'.size; have y1 := HO.out.grown hg1' (by omega); have y2 : w1.cell? ⟨w.heap.size + 2, 4, none⟩ = some (.slice A2 k c2) := y1.cell 4; have y4 := y1.below ((Below.refl w1.heap.size w1).alloc (Nat.le_refl _) (.cells #[.int .i64 u.kind, .int .i64 u.num, .string u.name, .slice T1 u.labels.length U1, .slice T2 u.args.length U2] 27)) y1.lt; have y3 : (w1.alloc (.cells #[.int .i64 u.kind, .int .i64 u.num, .string u.name, .slice T1 u.labels.length U1, .slice T2 u.args.length U2] 27)).cell? ⟨w.heap.size + 2, 4, none⟩ = some (.slice A2 k c2) := y4.cell 4; clear y1 y4; have hown2 := World.ownsRow.alloc (own_keep5 HOWN.out (fun g hg => hg1'.block g (HOWN.out.lt g hg).2 (fun e => by cases e; have := (HOWN.out.lt p hg).1; omega))) (.cells #[.int .i64 u.kind, .int .i64 u.num, .string u.name, .slice T1 u.labels.length U1, .slice T2 u.args.length U2] 27); have hnews := news5 w1 27 (.int .i64 u.kind) (.int .i64 u.num) (.string u.name) (.slice T1 u.labels.length U1) (.slice T2 u.args.length U2))
        | (refine step_append_lies _ (by rfl) (.tmp 81) (.tmp 88) _ (by rfl) wc.heap.size 27 i1 (.agg #[.int .i64 0, .int .i64 0, .string ⟨#[]⟩, .slice none 0 0, .slice none 0 0]) 5 80 Tryz.underlying25 hi1 hy0 hy1 hy2 rfl (by decide) _ k xs (by rfl) hown2 ⟨w1.heap.size, 0, none⟩ 1 1 [.int .i64 u.kind, .int .i64 u.num, .string u.name, .slice T1 u.labels.length U1, .slice T2 u.args.length U2] (by rfl) rfl hnews.1 hnews.2 (by omega) (by unfold maxLen; omega) (by omega) (by simp; omega) (w1.heap.size + 1) (by simp) ?_; intro g cap w3 hown3 hg3 hat3 hlt3; have hvb := fun q (hq : (Value.slice A2 k c2).ownBlock = some q) => (HOWN.out.lt q hq).1; have ho3 : Whole1 w3 (w.heap.size + 2) 27 #[.int .i64 5, .int .i64 0, .string ⟨#[]⟩, .slice none 0 0, .slice A2 k c2] := ((hg3.block (w.heap.size + 2) (by simp; omega) (fun e => by have := hvb (w.heap.size + 2) e.symm; omega)).trans (Below.heap_alloc _ _ _ (by omega))).trans (HO.out.grown hg1' (by omega)); have m2 : w3.cell? ⟨w.heap.size + 2, 4, none⟩ = some (.slice A2 k c2) := ho3.cell 4; have n2 : w3.frozen? ⟨w.heap.size + 2, 4, none⟩ = false := ho3.free 4))
      all_goals
        go_wp2
        go_roundw
        case rel => exact ⟨k + 1, cap, some ⟨g, 0, none⟩, us ++ [u], by simp [HUL.out], by omega, by go_num, (by rw [szVas_append, szVas, szVas]; have := HSZU.out; rw [Nat.add_mul]; omega), smallBs_snoc us u HNBU.out hn1, vdraw_rel HUL.out hol (by omega) hpl hsz1 HG.out hg1' HC1.out HT1.out hown3 hg3 hat3 ho3 HOLD.out HB9.out⟩
        case measure => simp [intOf]; omega
    · have hke : m = k := by omega
      subst hke
      have hul := HUL.out
      have hltI : ¬ ((m : Nat) : Int) < (m : Int) := by omega
      have r2 : Whole1 wr (w.heap.size + 1) 27 #[.int .i64 0, .int .i64 0, .string ⟨#[]⟩, .slice none 0 0, .slice none 0 0] := (HOLD.out _ hrl (by omega) (by omega)).trans r1
      have o0 : wr.cell? ⟨w.heap.size + 2, 0, none⟩ = some (.int .i64 5) := ho.cell 0
      have o1 : wr.cell? ⟨w.heap.size + 2, 1, none⟩ = some (.int .i64 0) := ho.cell 1
      have o2 : wr.cell? ⟨w.heap.size + 2, 2, none⟩ = some (.string ⟨#[]⟩) := ho.cell 2
      have o3 : wr.cell? ⟨w.heap.size + 2, 3, none⟩ = some (.slice none 0 0) := ho.cell 3
      have o4 : wr.cell? ⟨w.heap.size + 2, 4, none⟩ = some (.slice A2 m c2) := ho.cell 4
      have d0 : wr.cell? ⟨w.heap.size + 1, 0, none⟩ = some (.int .i64 0) := r2.cell 0
      have f0 : wr.frozen? ⟨w.heap.size + 1, 0, none⟩ = false := r2.free 0
      have d1 : wr.cell? ⟨w.heap.size + 1, 1, none⟩ = some (.int .i64 0) := r2.cell 1
      have f1 : wr.frozen? ⟨w.heap.size + 1, 1, none⟩ = false := r2.free 1
      have d2 : wr.cell? ⟨w.heap.size + 1, 2, none⟩ = some (.string ⟨#[]⟩) := r2.cell 2
      have f2 : wr.frozen? ⟨w.heap.size + 1, 2, none⟩ = false := r2.free 2
      have d3 : wr.cell? ⟨w.heap.size + 1, 3, none⟩ = some (.slice none 0 0) := r2.cell 3
      have f3 : wr.frozen? ⟨w.heap.size + 1, 3, none⟩ = false := r2.free 3
      have d4 : wr.cell? ⟨w.heap.size + 1, 4, none⟩ = some (.slice none 0 0) := r2.cell 4
      have f4 : wr.frozen? ⟨w.heap.size + 1, 4, none⟩ = false := r2.free 4
      have HF : Hid (∀ a b c d e : Value, DrawnVa w B p n (.returned (.agg #[.int .i64 5, .int .i64 0, .string ⟨#[]⟩, .slice none 0 0, .slice A2 m c2])) (((((wr.setCell ⟨w.heap.size + 1, 0, none⟩ a).setCell ⟨w.heap.size + 1, 1, none⟩ b).setCell ⟨w.heap.size + 1, 2, none⟩ c).setCell ⟨w.heap.size + 1, 3, none⟩ d).setCell ⟨w.heap.size + 1, 4, none⟩ e)) := by
        obtain ⟨xs, vs, lo, hi', hG⟩ := hga
        have hown9 : OwnVa wr (w.heap.size + 2) _ (.mk 5 0 ⟨#[]⟩ [] us) := ⟨none, 0, A2, c2, xs, vs, lo, hi', rfl, Nat.zero_le _, fun i h => absurd h (by simp [Va.labels]), by simp only [Va.args]; unfold maxLen; omega, World.ownsRow_nil wr _ _ 1, by simp only [Va.args]; rw [← hul]; exact hG.base (by omega), fun gl h => by cases h⟩
        have hfin := fun a b c d e => drawnV_fin (w := w) (w3 := wr) (B := B) (p := p) (n := n) hown9 (by rw [szVa]; have := HSZU.out; have := Nat.mul_le_mul_right (1 + drawSz ts[0]) hm3; have h0 : (⟨#[]⟩ : ByteArray).size = 0 := rfl; rw [h0]; simp [sumSizes]; omega) (smallB_mk _ _ _ _ _ (by omega) (smallBs_at us HNBU.out)) HCR.out hpl HB9.out a b c d e
        exact Lib.hid (by intro a b c d e; have := hfin a b c d e; simp only [Va.kind, Va.num, Va.name, Va.labels, Va.args, ← hul] at this; exact this)
      clear p2 r2 ho hga q2 hul
      have q2 : wr.cell? ⟨w.heap.size, 2, none⟩ = some (.slice A ts.length ac) := by
        have : Whole1 wr w.heap.size 58 #[.int .i64 5, .slice L ls.length lc, .slice A ts.length ac] := (HOLD.out _ hplc (by omega) (by omega)).trans p1
        exact this.cell 2
      go_wp2
      exact bodyPost_ret (v := .agg #[.int .i64 5, .int .i64 0, .string ⟨#[]⟩, .slice none 0 0, .slice A2 m c2]) (by simp [results, Tryz.results27, go_sem, d0, d1, d2, d3, d4]) rfl (HF.out _ _ _ _ _)

end Go.Proofs.YtceclhndagoddaaGreatDoor
end

section
namespace Go.Proofs.YtceclhndagoddaaGreatDoor
open Go.RowKit

mutual
/-- Is the value one of the type's? -/
def hasB : Va → Ty → Bool
  | .mk k _ nm ls vs, t =>
    if t.kind = 1 then decide (k = 1) else if t.kind = 2 then decide (k = 2)
    else if t.kind = 3 then decide (k = 3) && textsB ls t.labels && hasZip vs t.args
    else if t.kind = 4 then decide (k = 4) && decide (0 ≤ idxOf t.labels nm) && hasHead vs t.args[(idxOf t.labels nm).toNat]?
    else decide (k = 5) && hasEach vs t.args[0]?
def hasZip : List Va → List Ty → Bool
  | [], _ => true
  | _ :: _, [] => false
  | v :: r, t :: s => hasB v t && hasZip r s
def hasHead : List Va → Option Ty → Bool
  | v :: _, some t => hasB v t
  | _, _ => false
def hasEach : List Va → Option Ty → Bool
  | v :: r, some t => hasB v t && hasEach r (some t)
  | _, _ => true
end
theorem hasZip_no : ∀ (vs : List Va) (ts : List Ty) (i : Nat) (h1 : i < vs.length) (h2 : i < ts.length), hasB vs[i] ts[i] = false → hasZip vs ts = false
  | v :: r, t :: s, 0, _, _, h => by
    rw [hasZip]
    have : hasB v t = false := h
    rw [this]
    rfl
  | v :: r, t :: s, i + 1, h1, h2, h => by
    rw [hasZip, hasZip_no r s i (by simpa using h1) (by simpa using h2) (by simpa using h), Bool.and_false]
theorem hasZip_yes : ∀ (vs : List Va) (ts : List Ty), vs.length ≤ ts.length → (∀ i, (h1 : i < vs.length) → (h2 : i < ts.length) → hasB vs[i] ts[i] = true) → hasZip vs ts = true
  | [], _, _, _ => by rw [hasZip]
  | v :: r, [], h, _ => absurd h (by simp)
  | v :: r, t :: s, h, hall => by
    rw [hasZip, show hasB v t = true from hall 0 (by simp) (by simp), hasZip_yes r s (by simpa using h) fun i h1 h2 => hall (i + 1) (by simpa using h1) (by simpa using h2)]
    rfl
theorem hasEach_no : ∀ (vs : List Va) (t : Ty) (i : Nat) (h1 : i < vs.length), hasB vs[i] t = false → hasEach vs (some t) = false
  | v :: r, t, 0, _, h => by
    rw [hasEach]
    have : hasB v t = false := h
    rw [this]
    rfl
  | v :: r, t, i + 1, h1, h => by
    rw [hasEach, hasEach_no r t i (by simpa using h1) (by simpa using h), Bool.and_false]
theorem hasEach_yes : ∀ (vs : List Va) (t : Ty), (∀ i, (h1 : i < vs.length) → hasB vs[i] t = true) → hasEach vs (some t) = true
  | [], _, _ => by simp [hasEach]
  | v :: r, t, hall => by
    rw [hasEach, show hasB v t = true from hall 0 (by simp), hasEach_yes r t fun i h1 => hall (i + 1) (by simpa using h1)]
    rfl
theorem hasHead_at (vs : List Va) (ts : List Ty) (i : Nat) (h0 : 0 < vs.length) (h1 : i < ts.length) : hasHead vs ts[i]? = hasB vs[0] ts[i] := by
  rw [List.getElem?_eq_getElem h1]
  cases vs with
  | nil => simp at h0
  | cons v r => rw [hasHead]; rfl
theorem idx_lt (ss : List ByteArray) (s : ByteArray) (h : 0 ≤ idxOf ss s) : (idxOf ss s).toNat < ss.length := by
  by_cases hx : ∃ k, ∃ h : k < ss.length, ss[k].data.toList = s.data.toList ∧ ∀ j, (hj : j < ss.length) → j < k → ss[j].data.toList ≠ s.data.toList
  · obtain ⟨k, hk, h1, h2⟩ := hx
    rw [idxOf_at ss s k hk h1 h2]
    simpa using hk
  · have : ∀ k j, (hj : j < ss.length) → j < k → ss[j].data.toList ≠ s.data.toList := by
      intro k
      induction k with
      | zero => intro j _ h; omega
      | succ k ih =>
        intro j hj hjk he
        by_cases e : j = k
        · subst e
          exact hx ⟨j, hj, he, ih⟩
        · exact ih j hj (by omega) he
    rw [idxOf_none ss s fun j hj => this ss.length j hj hj] at h
    omega
theorem formTy_mk (k : Int) (ls : List ByteArray) (ts : List Ty) (h : formTy (.mk k ls ts) = true) : nodeB k ls ts.length = true ∧ ∀ i, (h : i < ts.length) → formTy ts[i] = true := by
  rw [formTy, Bool.and_eq_true] at h
  refine ⟨h.2, fun i hi => ?_⟩
  cases hf : formTy ts[i] with
  | true => rfl
  | false => rw [formTys_no ts i hi hf] at h; simp at h
theorem nodeB_kind (k : Int) (ls : List ByteArray) (m : Nat) (h : nodeB k ls m = true) : (k = 1 ∨ k = 2) ∨ ((k = 3 ∨ k = 4) ∧ m = ls.length ∧ 1 ≤ m) ∨ (k = 5 ∧ m = 1) := by
  unfold nodeB labelsB at h
  split at h
  · exact .inl (by assumption)
  · split at h
    · simp only [Bool.and_eq_true, decide_eq_true_eq] at h
      exact .inr (.inl ⟨by assumption, h.1, by omega⟩)
    · split at h
      · simp only [Bool.and_eq_true, decide_eq_true_eq] at h
        exact .inr (.inr ⟨by assumption, h.2⟩)
      · cases h
theorem formVa_mk (k n : Int) (nm : ByteArray) (ls : List ByteArray) (vs : List Va) (h : formVa (.mk k n nm ls vs) = true) : nodeVB k n nm ls vs.length = true ∧ ∀ i, (h : i < vs.length) → formVa vs[i] = true := by
  rw [formVa, Bool.and_eq_true] at h
  exact ⟨h.2, formVas_at vs h.1⟩
theorem nodeVB_rec (n : Int) (nm : ByteArray) (ls : List ByteArray) (m : Nat) (h : nodeVB 3 n nm ls m = true) : m = ls.length := by
  unfold nodeVB at h
  simp at h
  exact h.1.2
theorem nodeVB_tag (n : Int) (nm : ByteArray) (ls : List ByteArray) (m : Nat) (h : nodeVB 4 n nm ls m = true) : m = 1 := by
  unfold nodeVB at h
  simp at h
  exact h.2

def HasVOne (f : Nat) (v : Va) : Prop := ∀ (t : Ty) (V V' : Value) (w : World), VaAt w w.heap.size V v → TyAt w w.heap.size V' t → formVa v = true → formTy t = true → Calls Tryz.prog f #[V, V'] w (BoolIs (hasB v t) w)

/-- Is it a value, a valid type, and one of its values? -/
def hasTypeB (v : Va) (t : Ty) : Bool := valueB v && validB t && hasB v t

end Go.Proofs.YtceclhndagoddaaGreatDoor
end

section
namespace Go.Proofs.YtceclhndagoddaaGreatDoor
open Go.RowKit

def DrawVOne (t : Ty) : Prop := ∀ (v : Value) (S : Nat → Prop) (p B : Nat) (w : World), TyIn w S v t → ¬ S p → CurAt w B p → formTy t = true → drawSz t ≤ 1048576 → Calls Tryz.prog 27 #[.pointer (some ⟨p, 0, none⟩), v] w (DrawnVa w B p (drawSz t))

theorem drawSz_1 (ls : List ByteArray) (ts : List Ty) (k : Int) (h : k ≠ 5) : drawSz (.mk k ls ts) = sumSizes ls + ls.length + drawSzs ts + ts.length := by
  rw [drawSz, if_neg h]

theorem specDrawV_of (k0 : Int) (ls : List ByteArray) (ts : List Ty) (hall : ∀ i, (h : i < ts.length) → DrawVOne ts[i]) : DrawVOne (.mk k0 ls ts) := by
  intro v S p B w hv hpS hc hf hsz
  have hvh := hv.here
  obtain ⟨L, lc, A, ac, gl, rfl, hn, hz, hl, ha⟩ := hv.open
  obtain ⟨L', lc', A', ac', e', _, _, hl2, _⟩ := hvh.open
  injection e' with e'
  injection e' with e'
  injection e' with _ e'
  injection e' with e1 e'
  injection e' with e2 e'
  injection e1 with e1 _ _
  subst e1
  simp only [Ty.kind, Ty.labels, Ty.args] at *
  obtain ⟨hnode, hf2⟩ := formTy_mk _ _ _ hf
  have hpS' : ¬ (S p ∧ p ≠ gl) := fun h => hpS h.1
  rcases nodeB_kind _ _ _ hnode with (rfl | rfl) | ⟨hk, hlen, hpos⟩ | ⟨rfl, hm⟩
  · exact specDrawV_1 ls ts L A lc ac p B _ w hc
  · exact specDrawV_2 ls ts L A lc ac p B _ w hc
  · have hk5 : k0 ≠ 5 := by omega
    rw [drawSz_1 ls ts k0 hk5] at hsz ⊢
    have hsub : ∀ i, (h : i < ts.length) → ∀ (v : Value) (S' : Nat → Prop) (W : World), TyIn W S' v ts[i] → ¬ S' p → CurAt W B p → Calls Tryz.prog 27 #[.pointer (some ⟨p, 0, none⟩), v] W (DrawnVa W B p (drawSz ts[i])) := fun i h v S' W h2 h3 h4 => hall i h v S' p B W h2 h3 h4 (hf2 i h) (by have := drawSzs_part ts i h; omega)
    rcases hk with rfl | rfl
    · exact specDrawV_3 ls ts L A lc ac p B _ _ w hc ha hpS' hl2 (by omega) hz (by omega) (Nat.le_refl _) hsub
    · rcases hl with e | ⟨rfl, hSgl, hrow⟩
      · rw [hlen, e] at hpos
        simp at hpos
      · exact specDrawV_4 ls ts A gl 0 lc ac p B _ _ w hc ha hpS' (fun i h => by rw [Nat.zero_add]; exact hrow.cell i h) hrow.lt (fun e => hpS (by rw [← e]; exact hSgl)) hz hlen (by omega) (by omega) (Nat.le_refl _) hsub
  · have h0t : 0 < ts.length := by omega
    have hds : drawSz (.mk 5 ls ts) = 3 * (1 + drawSzs ts) := by rw [drawSz, if_pos rfl]
    rw [hds] at hsz ⊢
    have hp0 := drawSzs_part ts 0 h0t
    exact specDrawV_5 ls ts L A lc ac p B _ _ w hc ha hpS' h0t (by omega) (fun i h v S' W h2 h3 h4 => hall i h v S' p B W h2 h3 h4 (hf2 i h) (by have := drawSzs_part ts i h; omega))

theorem specDrawV_any (t : Ty) : DrawVOne t := by
  induction t using Ty.ind with
  | h k ls ts ih => exact specDrawV_of k ls ts ih

end Go.Proofs.YtceclhndagoddaaGreatDoor
end

section
namespace Go.Proofs.YtceclhndagoddaaGreatDoor
set_option maxRecDepth 100000
open Go.RowKit
attribute [local go_sem ↓] Go.wp_at_zero Go.wp_at_succ

/-- The result's box is w.heap.size. -/
theorem drawnV_fin0 {w w3 : World} {B p n : Nat} {v : Value} {t : Va} (h : OwnVa w3 (w.heap.size + 1) v t) (hn : szVa t ≤ n) (hq : smallB t = true) (hc : CurAt w3 B p) (hp : p < w.heap.size) (hg : w.grownBy w3 (some p)) (a b c d e : Value) :
    DrawnVa w B p n (.returned v) (((((w3.setCell ⟨w.heap.size, 0, none⟩ a).setCell ⟨w.heap.size, 1, none⟩ b).setCell ⟨w.heap.size, 2, none⟩ c).setCell ⟨w.heap.size, 3, none⟩ d).setCell ⟨w.heap.size, 4, none⟩ e) := by
  have hb : Below w.heap.size w3 (((((w3.setCell ⟨w.heap.size, 0, none⟩ a).setCell ⟨w.heap.size, 1, none⟩ b).setCell ⟨w.heap.size, 2, none⟩ c).setCell ⟨w.heap.size, 3, none⟩ d).setCell ⟨w.heap.size, 4, none⟩ e) := (((((Below.refl w.heap.size w3).setCell (by simp) _).setCell (by simp) _).setCell (by simp) _).setCell (by simp) _).setCell (by simp) _
  have hk : ∀ g, g ≠ w.heap.size → (((((w3.setCell ⟨w.heap.size, 0, none⟩ a).setCell ⟨w.heap.size, 1, none⟩ b).setCell ⟨w.heap.size, 2, none⟩ c).setCell ⟨w.heap.size, 3, none⟩ d).setCell ⟨w.heap.size, 4, none⟩ e).heap[g]? = w3.heap[g]? := fun g hg => by
    rw [Below.heap_setCell _ _ _ _ hg, Below.heap_setCell _ _ _ _ hg, Below.heap_setCell _ _ _ _ hg, Below.heap_setCell _ _ _ _ hg, Below.heap_setCell _ _ _ _ hg]
  exact ⟨⟨v, t, rfl, (h.keep hb.size (fun g h1 _ => hk g (by omega))).base (by omega), hn, hq⟩, hc.belowP hb hp, ⟨hb.os.trans hg.os, hb.tape.trans hg.tape, hb.output.trans hg.output, Nat.le_trans hg.size hb.size, fun i hi hne => (hk i (by omega)).trans (hg.block i hi hne)⟩⟩
theorem smallB_root {t : Va} (h : smallB t = true) (k n : Int) (nm : ByteArray) (ls : List ByteArray) (hn : -999999999999 ≤ n ∧ n ≤ 999999999999) : smallB (.mk k n nm ls t.args) = true :=
  smallB_mk _ _ _ _ _ hn (smallB_of t h).2
theorem szVa_root (t : Va) (k n : Int) (nm : ByteArray) : szVa (.mk k n nm t.labels t.args) + t.name.size = szVa t + nm.size := by
  cases t
  simp only [szVa, Va.labels, Va.args, Va.name]
  omega
theorem pickN (p B : Nat) (W : World) (h : CurAt W B p) :
    Calls Tryz.prog 30 #[.pointer (some ⟨p, 0, none⟩), .slice (some ⟨W.heap.size, 0, none⟩) 3 3] (W.alloc (.cells #[.int .i64 (-1), .int .i64 2, .int .i64 7] 3)) (DrawnOf (W.alloc (.cells #[.int .i64 (-1), .int .i64 2, .int .i64 7] 3)) B p [-1, 2, 7]) :=
  l1PickInt_any p B 3 (some ⟨W.heap.size, 0, none⟩) [-1, 2, 7] _ (CurAt.alloc3 h _) (ints_new3 W _ [-1, 2, 7]) (fun q b off e => by cases e; have := h.lt; omega) (by decide) (by decide)
theorem pickS (p B : Nat) (W : World) (h : CurAt W B p) :
    Calls Tryz.prog 32 #[.pointer (some ⟨p, 0, none⟩), .slice (some ⟨W.heap.size, 0, none⟩) 4 4] (W.alloc (.cells #[.string ⟨#[112]⟩, .string ⟨#[113]⟩, .string ⟨#[90]⟩, .string ⟨#[]⟩] 9)) (DrawnStr (W.alloc (.cells #[.string ⟨#[112]⟩, .string ⟨#[113]⟩, .string ⟨#[90]⟩, .string ⟨#[]⟩] 9)) B p [⟨#[112]⟩, ⟨#[113]⟩, ⟨#[90]⟩, ⟨#[]⟩]) :=
  l1Pick_any p B (W.heap.size + 1) 4 (some ⟨W.heap.size, 0, none⟩) [⟨#[112]⟩, ⟨#[113]⟩, ⟨#[90]⟩, ⟨#[]⟩] _ (CurAt.alloc3 h _) (StrsAt.of_whole (t := 9) (Whole1.new W _ _) _ (by omega)) (fun q b off e => by cases e; have := h.lt; omega) (by decide) (by decide)
theorem vspan_snoc {lo hi : Nat → Nat} {ts : List Va} {u : Va} {z a b : Nat} {k n : Int} {nm : ByteArray} {ls : List ByteArray} (h : ∀ i, i < ts.length → ¬ Span (lo i) (hi i) z) (hz : z < a) : ∀ i, i < (Va.mk k n nm ls (ts ++ [u])).args.length → ¬ Span ((fun i => if i = ts.length then a else lo i) i) ((fun i => if i = ts.length then b else hi i) i) z := fun i hi' hsp => by
  have h1 : i < (ts ++ [u]).length := hi'
  rw [List.length_append, List.length_singleton] at h1
  by_cases e : i = ts.length
  · simp only [e, if_true] at hsp
    have := hsp.1
    omega
  · simp only [e, if_false] at hsp
    exact h i (by omega) hsp
theorem smallB_arg {t u : Va} (h : smallB t = true) (hu : smallB u = true) : smallB (.mk t.kind t.num t.name t.labels (t.args ++ [u])) = true := by
  rw [smallB, smallBs_snoc _ _ (smallBs_all _ (smallB_of t h).2) hu]
  simp [(smallB_of t h).1]

end Go.Proofs.YtceclhndagoddaaGreatDoor
end
