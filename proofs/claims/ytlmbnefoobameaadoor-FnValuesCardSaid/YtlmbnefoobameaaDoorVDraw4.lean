/- spec.l5Draw of a tag. -/
import Derived.Test.YtlmbnefoobameaaDoorVDraw1
import Derived.Deep.DeepCutAuto
import Derived.Deep.DrawnRows
import Derived.Deep.RegionHeld3
namespace Go.Proofs.YtlmbnefoobameaaDoor
set_option maxRecDepth 100000
open Go.RowKit
attribute [local go_sem ↓] Go.wp_at_zero Go.wp_at_succ

theorem grown_cell {w w' : World} {p : Nat} (hg : w.grownBy w' (some p)) {a : Addr} (hl : a.block < w.heap.size) (hne : a.block ≠ p) : w'.cell? a = w.cell? a := World.cell?_of_block (w := w) (hg.block a.block hl (fun e => by injection e with e; exact hne e))

set_option maxHeartbeats 8000000 in
theorem specDrawV_4 (ls : List ByteArray) (ts : List Ty) (A : Option Addr) (gl off lc ac p B n : Nat) (S : Nat → Prop) (w : World) (hc : CurAt w B p) (hA : TysIn w S A ts) (hpS : ¬ S p) (hl : ∀ i, (h : i < ls.length) → w.cell? ⟨gl, off + i, none⟩ = some (.string ls[i])) (hglw : gl < w.heap.size) (hngl : gl ≠ p) (hz : ∀ i, (h : i < ls.length) → ls[i].size ≤ maxLen) (hlen : ts.length = ls.length) (h1l : 1 ≤ ls.length) (h2l : ls.length ≤ 1048576) (hn : sumSizes ls + ls.length + drawSzs ts + ts.length ≤ n)
    (hall : ∀ i, (h : i < ts.length) → ∀ (v : Value) (S' : Nat → Prop) (W : World), TyIn W S' v ts[i] → ¬ S' p → CurAt W B p → Calls Tryd.prog 33 #[.pointer (some ⟨p, 0, none⟩), v] W (DrawnVa W B p (drawSz ts[i]))) :
    Calls Tryd.prog 33 #[.pointer (some ⟨p, 0, none⟩), .agg #[.int .i64 4, .slice (some ⟨gl, off, none⟩) ls.length lc, .slice A ts.length ac]] w (DrawnVa w B p n) := by
  have hpl := hc.lt
  have h1lI : (1 : Int) ≤ (ls.length : Int) := by omega
  have h2lI : (ls.length : Int) ≤ 1048576 := by omega
  obtain ⟨hb0, p0, r0, hs0⟩ := boxes2 w 30 27 #[.int .i64 4, .slice (some ⟨gl, off, none⟩) ls.length lc, .slice A ts.length ac] #[.int .i64 0, .int .i64 0, .string ⟨#[]⟩, .slice none 0 0, .slice none 0 0]
  have HB := Lib.hid (fun W h => l1Below_any p B (ls.length : Int) W h (by omega) (by omega))
  have HALL := Lib.hid hall
  have HN := Lib.hid hz
  have HNH := Lib.hid hn
  have HL := Lib.hid hl
  have HLEN := Lib.hid hlen
  have hc0 := hc.belowP hb0 hpl
  have hg0 := only_below (only_refl w (some p)) hb0
  clear hc hall hb0 hz hn hl hlen
  go_enter Tryd.func33, Tryd.ntmps33
  go_upto_region 14 with fail
  generalize (w.alloc (.cells #[.int .i64 4, .slice (some ⟨gl, off, none⟩) ls.length lc, .slice A ts.length ac] 30)).alloc (.cells #[.int .i64 0, .int .i64 0, .string ⟨#[]⟩, .slice none 0 0, .slice none 0 0] 27) = w0 at *
  have q1 : w0.cell? ⟨w.heap.size, 1, none⟩ = some (.slice (some ⟨gl, off, none⟩) ls.length lc) := p0.cell 1
  go_wp2_with fail
  refine (HB.out _ hc0).mono ?_
  rintro e wc ⟨⟨x, rfl, hx0, hx1⟩, hcc, hgx⟩
  obtain ⟨k, rfl⟩ : ∃ k : Nat, x = (k : Int) := ⟨x.toNat, by omega⟩
  have hkl : k < ls.length := by omega
  have hkt : k < ts.length := by have := HLEN.out; omega
  have hklI : (k : Int) < (ls.length : Int) := by omega
  have hktI : (k : Int) < (ts.length : Int) := by omega
  have p1 := p0.grown hgx (by omega)
  have r1 := r0.grown hgx (by omega)
  have hgc := only_trans hg0 hgx
  have hcsz := hgx.size
  clear p0 r0 hg0 hgx hc0 q1
  obtain ⟨ga, off', M, mc, C, cc, S', rfl, hSga, hgaw, e0, e1, e2, ht, hss⟩ := hA.elem k hkt
  have hnga : ga ≠ p := fun e => hpS (by rw [← e]; exact hSga)
  have q0 : wc.cell? ⟨w.heap.size, 1, none⟩ = some (.slice (some ⟨gl, off, none⟩) ls.length lc) := p1.cell 1
  have q1 : wc.cell? ⟨w.heap.size, 2, none⟩ = some (.slice (some ⟨ga, off', none⟩) ts.length ac) := p1.cell 2
  have q2 : wc.cell? ⟨gl, off + k, none⟩ = some (.string ls[k]) := (grown_cell hgc (a := ⟨gl, off + k, none⟩) hglw hngl).trans (HL.out k hkl)
  have q3 : wc.cell? ⟨ga, off' + k * 3, none⟩ = some (.int .i64 ts[k].kind) := (grown_cell hgc (a := ⟨ga, off' + k * 3, none⟩) hgaw hnga).trans e0
  have q4 : wc.cell? ⟨ga, off' + k * 3 + 1, none⟩ = some (.slice M ts[k].labels.length mc) := (grown_cell hgc (a := ⟨ga, off' + k * 3 + 1, none⟩) hgaw hnga).trans e1
  have q5 : wc.cell? ⟨ga, off' + k * 3 + 2, none⟩ = some (.slice C ts[k].args.length cc) := (grown_cell hgc (a := ⟨ga, off' + k * 3 + 2, none⟩) hgaw hnga).trans e2
  have hpl1 := p1.lt
  have hnep : w.heap.size ≠ p := by omega
  have hglc : gl < wc.heap.size := by omega
  have hgac : ga < wc.heap.size := by omega
  have ed := (Below.refl wc.heap.size wc).drew
  have HT := Lib.hid (HALL.out k hkt _ S' wc.drew ((ht.grown hgc (fun h => hpS (hss _ h))).keep fun _ _ _ => rfl) (fun h => hpS (hss _ h)) (hcc.belowP ed hcc.lt))
  have HR0 := Lib.hid r1
  have HGC := Lib.hid hgc
  have hd0 := (ed.cell (p := ⟨w.heap.size, 1, none⟩) hpl1).trans q0
  have hd1 := (ed.cell (p := ⟨w.heap.size, 2, none⟩) hpl1).trans q1
  have hd2 := (ed.cell (p := ⟨gl, off + k, none⟩) hglc).trans q2
  have hd3 := (ed.cell (p := ⟨ga, off' + k * 3, none⟩) hgac).trans q3
  have hd4 := (ed.cell (p := ⟨ga, off' + k * 3 + 1, none⟩) hgac).trans q4
  have hd5 := (ed.cell (p := ⟨ga, off' + k * 3 + 2, none⟩) hgac).trans q5
  clear p1 r1 ht hss hSga hA hpS hgc hcc e0 e1 e2
  go_wp2
  go_region_held3 (fun x => x.cell? ⟨w.heap.size, 1, none⟩ = some (.slice (some ⟨gl, off, none⟩) ls.length lc) ∧ x.cell? ⟨w.heap.size, 2, none⟩ = some (.slice (some ⟨ga, off', none⟩) ts.length ac) ∧ x.cell? ⟨gl, off + k, none⟩ = some (.string ls[k]) ∧ x.cell? ⟨ga, off' + k * 3, none⟩ = some (.int .i64 ts[k].kind) ∧ x.cell? ⟨ga, off' + k * 3 + 1, none⟩ = some (.slice M ts[k].labels.length mc) ∧ x.cell? ⟨ga, off' + k * 3 + 2, none⟩ = some (.slice C ts[k].args.length cc)) ((first | (with_reducible exact ⟨hd0, hd1, hd2, hd3, hd4, hd5⟩) | (with_reducible exact ⟨k0, k1, k2, k3, k4, k5⟩) | (with_reducible exact ⟨m0, m1, m2, m3, m4, m5⟩) | (with_reducible exact ⟨s0, s1, s2, s3, s4, s5⟩)))
    (first | (go_at_call 33; refine HT.out.mono ?_; rintro e w1 ⟨⟨v1, u, rfl, ho1, hz1, hn1⟩, hc1, hg1⟩; have hg1' : wc.grownBy w1 (some p) := ⟨hg1.os, hg1.tape, hg1.output, hg1.size, hg1.block⟩; have HC1 := Lib.hid hc1; have HT1 := Lib.hid ho1.owned; have HZ1 := Lib.hid (And.intro hz1 hn1); obtain ⟨T1, U1, T2, U2, rfl⟩ := ho1.open; clear ho1 hc1 hz1 hn1 hg1; have hgA := grown_alloc hg1' (.cells #[.int .i64 u.kind, .int .i64 u.num, .string u.name, .slice T1 u.labels.length U1, .slice T2 u.args.length U2] 27); have r2 := HR0.out.grown hgA (by omega); have k0 := (grown_cell hg1' (a := ⟨w.heap.size, 1, none⟩) hpl1 hnep).trans q0; have k1 := (grown_cell hg1' (a := ⟨w.heap.size, 2, none⟩) hpl1 hnep).trans q1; have k2 := (grown_cell hg1' (a := ⟨gl, off + k, none⟩) hglc hngl).trans q2; have k3 := (grown_cell hg1' (a := ⟨ga, off' + k * 3, none⟩) hgac hnga).trans q3; have k4 := (grown_cell hg1' (a := ⟨ga, off' + k * 3 + 1, none⟩) hgac hnga).trans q4; have k5 := (grown_cell hg1' (a := ⟨ga, off' + k * 3 + 2, none⟩) hgac hnga).trans q5; have m0 := (grown_cell hgA (a := ⟨w.heap.size, 1, none⟩) hpl1 hnep).trans q0; have m1 := (grown_cell hgA (a := ⟨w.heap.size, 2, none⟩) hpl1 hnep).trans q1; have m2 := (grown_cell hgA (a := ⟨gl, off + k, none⟩) hglc hngl).trans q2; have m3 := (grown_cell hgA (a := ⟨ga, off' + k * 3, none⟩) hgac hnga).trans q3; have m4 := (grown_cell hgA (a := ⟨ga, off' + k * 3 + 1, none⟩) hgac hnga).trans q4; have m5 := (grown_cell hgA (a := ⟨ga, off' + k * 3 + 2, none⟩) hgac hnga).trans q5; have d0 : (w1.alloc (.cells #[.int .i64 u.kind, .int .i64 u.num, .string u.name, .slice T1 u.labels.length U1, .slice T2 u.args.length U2] 27)).cell? ⟨w.heap.size + 1, 0, none⟩ = some (.int .i64 0) := r2.cell 0; have f0 : (w1.alloc (.cells #[.int .i64 u.kind, .int .i64 u.num, .string u.name, .slice T1 u.labels.length U1, .slice T2 u.args.length U2] 27)).frozen? ⟨w.heap.size + 1, 0, none⟩ = false := r2.free 0; have d1 : (w1.alloc (.cells #[.int .i64 u.kind, .int .i64 u.num, .string u.name, .slice T1 u.labels.length U1, .slice T2 u.args.length U2] 27)).cell? ⟨w.heap.size + 1, 1, none⟩ = some (.int .i64 0) := r2.cell 1; have f1 : (w1.alloc (.cells #[.int .i64 u.kind, .int .i64 u.num, .string u.name, .slice T1 u.labels.length U1, .slice T2 u.args.length U2] 27)).frozen? ⟨w.heap.size + 1, 1, none⟩ = false := r2.free 1; have d2 : (w1.alloc (.cells #[.int .i64 u.kind, .int .i64 u.num, .string u.name, .slice T1 u.labels.length U1, .slice T2 u.args.length U2] 27)).cell? ⟨w.heap.size + 1, 2, none⟩ = some (.string ⟨#[]⟩) := r2.cell 2; have f2 : (w1.alloc (.cells #[.int .i64 u.kind, .int .i64 u.num, .string u.name, .slice T1 u.labels.length U1, .slice T2 u.args.length U2] 27)).frozen? ⟨w.heap.size + 1, 2, none⟩ = false := r2.free 2; have d3 : (w1.alloc (.cells #[.int .i64 u.kind, .int .i64 u.num, .string u.name, .slice T1 u.labels.length U1, .slice T2 u.args.length U2] 27)).cell? ⟨w.heap.size + 1, 3, none⟩ = some (.slice none 0 0) := r2.cell 3; have f3 : (w1.alloc (.cells #[.int .i64 u.kind, .int .i64 u.num, .string u.name, .slice T1 u.labels.length U1, .slice T2 u.args.length U2] 27)).frozen? ⟨w.heap.size + 1, 3, none⟩ = false := r2.free 3; have d4 : (w1.alloc (.cells #[.int .i64 u.kind, .int .i64 u.num, .string u.name, .slice T1 u.labels.length U1, .slice T2 u.args.length U2] 27)).cell? ⟨w.heap.size + 1, 4, none⟩ = some (.slice none 0 0) := r2.cell 4; have f4 : (w1.alloc (.cells #[.int .i64 u.kind, .int .i64 u.num, .string u.name, .slice T1 u.labels.length U1, .slice T2 u.args.length U2] 27)).frozen? ⟨w.heap.size + 1, 4, none⟩ = false := r2.free 4; have hbS := ((((((Below.refl (w.heap.size + 1) (w1.alloc (.cells #[.int .i64 u.kind, .int .i64 u.num, .string u.name, .slice T1 u.labels.length U1, .slice T2 u.args.length U2] 27))).setCell (p := ⟨w.heap.size + 1, 0, none⟩) (Nat.le_refl _) (.int .i64 4)).setCell (p := ⟨w.heap.size + 1, 1, none⟩) (Nat.le_refl _) (.int .i64 0)).setCell (p := ⟨w.heap.size + 1, 2, none⟩) (Nat.le_refl _) (.string ls[k])).setCell (p := ⟨w.heap.size + 1, 3, none⟩) (Nat.le_refl _) (.slice none 0 0)).setCell (p := ⟨w.heap.size + 1, 4, none⟩) (Nat.le_refl _) (.slice (some ⟨w1.heap.size, 0, none⟩) 1 1)); have s0 := (hbS.cell (p := ⟨w.heap.size, 1, none⟩) (Nat.lt_succ_self _)).trans m0; have s1 := (hbS.cell (p := ⟨w.heap.size, 2, none⟩) (Nat.lt_succ_self _)).trans m1; have s2 := (hbS.cell (p := ⟨gl, off + k, none⟩) (Nat.lt_succ_of_lt hglw)).trans m2; have s3 := (hbS.cell (p := ⟨ga, off' + k * 3, none⟩) (Nat.lt_succ_of_lt hgaw)).trans m3; have s4 := (hbS.cell (p := ⟨ga, off' + k * 3 + 1, none⟩) (Nat.lt_succ_of_lt hgaw)).trans m4; have s5 := (hbS.cell (p := ⟨ga, off' + k * 3 + 2, none⟩) (Nat.lt_succ_of_lt hgaw)).trans m5))
  have HF : Hid (∀ a b c d e : Value, DrawnVa w B p n (.returned (.agg #[.int .i64 4, .int .i64 0, .string ls[k], .slice none 0 0, .slice (some ⟨w1.heap.size, 0, none⟩) 1 1])) ((((((w1.alloc (.cells #[.int .i64 u.kind, .int .i64 u.num, .string u.name, .slice T1 u.labels.length U1, .slice T2 u.args.length U2] 27)).setCell ⟨w.heap.size + 1, 0, none⟩ a).setCell ⟨w.heap.size + 1, 1, none⟩ b).setCell ⟨w.heap.size + 1, 2, none⟩ c).setCell ⟨w.heap.size + 1, 3, none⟩ d).setCell ⟨w.heap.size + 1, 4, none⟩ e)) := by
    have hvg : VGather (w1.alloc (.cells #[.int .i64 u.kind, .int .i64 u.num, .string u.name, .slice T1 u.labels.length U1, .slice T2 u.args.length U2] 27)) (w.heap.size + 2) (.slice (some ⟨w1.heap.size, 0, none⟩) 1 1) 1 [u] := vgather_one (by omega) hg1'.size (HT1.out : VaIn w1 (Span wc.heap.size w1.heap.size) _ _)
    obtain ⟨xs, vs, lo, hi', hG⟩ := hvg
    have hown9 : OwnVa (w1.alloc (.cells #[.int .i64 u.kind, .int .i64 u.num, .string u.name, .slice T1 u.labels.length U1, .slice T2 u.args.length U2] 27)) (w.heap.size + 2) (.agg #[.int .i64 4, .int .i64 0, .string ls[k], .slice none 0 0, .slice (some ⟨w1.heap.size, 0, none⟩) 1 1]) (.mk 4 0 ls[k] [] [u]) := ⟨none, 0, some ⟨w1.heap.size, 0, none⟩, 1, xs, vs, lo, hi', rfl, HN.out k hkl, fun i h => absurd h (by simp [Va.labels]), by simp [Va.args, maxLen], World.ownsRow_nil _ _ _ 1, hG, fun gl h => by cases h⟩
    exact Lib.hid (drawnV_fin (w := w) (B := B) (p := p) (n := n) hown9 (by have h5 := HNH.out; have h6 := size_le_sumSizes ls k hkl; have h7 := drawSzs_part ts k hkt; have h8 := HZ1.out.1; have h9 : sumSizes [] = 0 := rfl; simp only [szVa, szVas, h9, List.length_nil]; omega) (smallB_mk _ _ _ _ _ (by omega) (fun i h => by
      have h0 : i = 0 := by simpa using h
      subst h0
      exact HZ1.out.2)) (HC1.out.belowP ((Below.refl _ w1).alloc (Nat.le_refl _) _) HC1.out.lt) hpl (only_trans HGC.out hgA))
  go_wp2
  exact bodyPost_ret (v := .agg #[.int .i64 4, .int .i64 0, .string ls[k], .slice none 0 0, .slice (some ⟨w1.heap.size, 0, none⟩) 1 1]) (by simp [results, Tryd.results33, go_sem, d0, d1, d2, d3, d4]) rfl (HF.out _ _ _ _ _)

end Go.Proofs.YtlmbnefoobameaaDoor
