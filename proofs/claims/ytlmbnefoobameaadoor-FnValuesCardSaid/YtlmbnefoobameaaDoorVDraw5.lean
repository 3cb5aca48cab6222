/- spec.l5Draw of a list. -/
import Derived.Test.YtlmbnefoobameaaDoorVDraw1
import Derived.Deep.DeepCutAuto
import Derived.Deep.DrawnRows
namespace Go.Proofs.YtlmbnefoobameaaDoor
set_option maxRecDepth 100000
open Go.RowKit
attribute [local go_sem ↓] Go.wp_at_zero Go.wp_at_succ

set_option maxHeartbeats 8000000 in
theorem specDrawV_5 (ls : List ByteArray) (ts : List Ty) (L A : Option Addr) (lc ac p B n : Nat) (S : Nat → Prop) (w : World) (hc : CurAt w B p) (hA : TysIn w S A ts) (hpS : ¬ S p) (h0t : 0 < ts.length) (hn : 3 * (1 + drawSz ts[0]) ≤ n)
    (hall : ∀ i, (h : i < ts.length) → ∀ (v : Value) (S' : Nat → Prop) (W : World), TyIn W S' v ts[i] → ¬ S' p → CurAt W B p → Calls Tryd.prog 33 #[.pointer (some ⟨p, 0, none⟩), v] W (DrawnVa W B p (drawSz ts[i]))) :
    Calls Tryd.prog 33 #[.pointer (some ⟨p, 0, none⟩), .agg #[.int .i64 5, .slice L ls.length lc, .slice A ts.length ac]] w (DrawnVa w B p n) := by
  have hpl := hc.lt
  have h0tI : (0 : Int) < (ts.length : Int) := by omega
  obtain ⟨hb0, p0, r0, hs0⟩ := boxes2 w 30 27 #[.int .i64 5, .slice L ls.length lc, .slice A ts.length ac] #[.int .i64 0, .int .i64 0, .string ⟨#[]⟩, .slice none 0 0, .slice none 0 0]
  have HB := Lib.hid (fun W h => l1Below_any p B 4 W h (by omega) (by omega))
  have HALL := Lib.hid hall
  have hc0 := hc.belowP hb0 hpl
  have hg0 := only_below (only_refl w (some p)) hb0
  clear hc hall hb0
  go_enter Tryd.func33, Tryd.ntmps33
  go_upto_region 16 with fail
  generalize (w.alloc (.cells #[.int .i64 5, .slice L ls.length lc, .slice A ts.length ac] 30)).alloc (.cells #[.int .i64 0, .int .i64 0, .string ⟨#[]⟩, .slice none 0 0, .slice none 0 0] 27) = w0 at *
  go_wp2_with fail
  have hbo := (Below.refl w0.heap.size w0).alloc (Nat.le_refl _) (.cells #[.int .i64 5, .int .i64 0, .string ⟨#[]⟩, .slice none 0 0, .slice none 0 0] 27)
  have ho := Whole1.new w0 27 #[.int .i64 5, .int .i64 0, .string ⟨#[]⟩, .slice none 0 0, .slice none 0 0]
  have po1 := p0.below hbo p0.lt
  have ro1 := r0.below hbo r0.lt
  refine (HB.out _ (hc0.belowP hbo hc0.lt)).mono ?_
  rintro e wc ⟨⟨x, rfl, hx0, hx1⟩, hcc, hgx⟩
  obtain ⟨m, rfl⟩ : ∃ m : Nat, x = (m : Int) := ⟨x.toNat, by omega⟩
  have hm3 : m ≤ 3 := by omega
  have p1 := po1.grown hgx (by omega)
  have r1 := ro1.grown hgx (by omega)
  have ho0 := ho.grown hgx (by omega)
  have hgc := only_trans (only_below hg0 hbo) hgx
  clear p0 r0 po1 ro1 ho hg0 hgx hc0 hbo
  rw [hs0] at ho0
  have hol : w.heap.size + 2 < wc.heap.size := ho0.lt
  have hplc : w.heap.size < wc.heap.size := p1.lt
  have hrl : w.heap.size + 1 < wc.heap.size := r1.lt
  have hgaz := hA.1
  have HA := Lib.hid hA
  have HPS := Lib.hid hpS
  have HGC := Lib.hid hgc
  obtain ⟨i1, hi1, hy0, hy1, hy2⟩ := info_parts infoValue
  clear hA hpS hgc
  go_wp2
  go_loopw [10] (fun i wr => ∃ (k c2 : Nat) (A2 : Option Addr) (us : List Va), k = us.length ∧ k ≤ m ∧ i = .int .i64 k ∧ szVas us ≤ k * (1 + drawSz ts[0]) ∧ smallBs us = true ∧ Whole1 wr (w.heap.size + 2) 27 #[.int .i64 5, .int .i64 0, .string ⟨#[]⟩, .slice none 0 0, .slice A2 k c2] ∧ VGather wr wc.heap.size (.slice A2 k c2) k us ∧ (∀ q, q < wc.heap.size → q ≠ (w.heap.size + 2) → q ≠ p → wr.heap[q]? = wc.heap[q]?) ∧ CurAt wr B p ∧ w.grownBy wr (some p) ∧ wc.heap.size ≤ wr.heap.size) (fun i _ => m - (intOf i).toNat)
  case atStart => exact ⟨0, 0, none, [], rfl, Nat.zero_le _, rfl, by simp [szVas], by rw [smallBs], ho0, VGather.start _ _ _, fun _ _ _ _ => rfl, hcc, HGC.out, Nat.le_refl _⟩
  case round =>
    obtain ⟨k, c2, A2, us, hul, hk, rfl, hszu, hnbu, ho, hga, hold, hcr, hb, hsz1⟩ := hrel
    have HOLD := Lib.hid hold
    have HSZU := Lib.hid hszu
    have HNBU := Lib.hid hnbu
    have HCR := Lib.hid hcr
    have HB9 := Lib.hid hb
    have p2 : Whole1 wr w.heap.size 30 #[.int .i64 5, .slice L ls.length lc, .slice A ts.length ac] := (hold _ hplc (by omega) (by omega)).trans p1
    have q2 : wr.cell? ⟨w.heap.size, 2, none⟩ = some (.slice A ts.length ac) := p2.cell 2
    have hpr : p < wr.heap.size := hcr.lt
    have HUL := Lib.hid hul
    clear hold hszu hnbu hcr hb hul
    by_cases hlt : k < m
    · have hltI : (k : Int) < (m : Int) := by omega
      obtain ⟨xs, vs, lo, hi', hG⟩ := hga
      obtain ⟨ga, off, M, mc, C, cc, S', rfl, hSga, hgal, e0, e1, e2, ht, hss⟩ := (HA.out.grown HB9.out HPS.out).elem 0 h0t
      simp only [Nat.zero_mul, Nat.add_zero] at e0 e1 e2
      have HT := Lib.hid (HALL.out 0 h0t _ S' wr.drew (ht.keep fun _ _ _ => rfl) (fun h => HPS.out (hss _ h)) (HCR.out.belowP ((Below.refl _ wr).drew) hpr))
      have HG := Lib.hid hG
      have HO := Lib.hid ho
      have o2 : wr.cell? ⟨w.heap.size + 2, 4, none⟩ = some (.slice A2 k c2) := ho.cell 4
      have f2 : wr.frozen? ⟨w.heap.size + 2, 4, none⟩ = false := ho.free 4
      have how : (w.heap.size + 2) < wr.heap.size := by omega
      have HOWN := Lib.hid hG.own
      clear hG ho ht p2 hss hSga
      go_wp2
      go_region_law (first
        | (go_simp; go_at_call 33; refine HT.out.mono ?_; rintro e w1 ⟨⟨v1, u, rfl, ho1, hz1, hn1⟩, hc1, hg1⟩; have hg1' : wr.grownBy w1 (some p) := ⟨hg1.os, hg1.tape, hg1.output, hg1.size, hg1.block⟩; have HC1 := Lib.hid hc1; have HT1 := Lib.hid ho1.owned; obtain ⟨T1, U1, T2, U2, rfl⟩ := ho1.open; clear ho1 hc1; have hs1 := hg1'.size; have y1 := HO.out.grown hg1' (by omega); have y2 : w1.cell? ⟨w.heap.size + 2, 4, none⟩ = some (.slice A2 k c2) := y1.cell 4; have y4 := y1.below ((Below.refl w1.heap.size w1).alloc (Nat.le_refl _) (.cells #[.int .i64 u.kind, .int .i64 u.num, .string u.name, .slice T1 u.labels.length U1, .slice T2 u.args.length U2] 27)) y1.lt; have y3 : (w1.alloc (.cells #[.int .i64 u.kind, .int .i64 u.num, .string u.name, .slice T1 u.labels.length U1, .slice T2 u.args.length U2] 27)).cell? ⟨w.heap.size + 2, 4, none⟩ = some (.slice A2 k c2) := y4.cell 4; clear y1 y4; have hown2 := World.ownsRow.alloc (own_keep5 HOWN.out (fun g hg => hg1'.block g (HOWN.out.lt g hg).2 (fun e => by cases e; have := (HOWN.out.lt p hg).1; omega))) (.cells #[.int .i64 u.kind, .int .i64 u.num, .string u.name, .slice T1 u.labels.length U1, .slice T2 u.args.length U2] 27); have hnews := news5 w1 27 (.int .i64 u.kind) (.int .i64 u.num) (.string u.name) (.slice T1 u.labels.length U1) (.slice T2 u.args.length U2))
        | (refine step_append_lies _ (by rfl) (.tmp 81) (.tmp 88) _ (by rfl) wc.heap.size 27 i1 (.agg #[.int .i64 0, .int .i64 0, .string ⟨#[]⟩, .slice none 0 0, .slice none 0 0]) 5 80 Tryd.underlying25 hi1 hy0 hy1 hy2 rfl (by decide) _ k xs (by rfl) hown2 ⟨w1.heap.size, 0, none⟩ 1 1 [.int .i64 u.kind, .int .i64 u.num, .string u.name, .slice T1 u.labels.length U1, .slice T2 u.args.length U2] (by rfl) rfl hnews.1 hnews.2 (by omega) (by unfold maxLen; omega) (by omega) (by simp; omega) (w1.heap.size + 1) (by simp) ?_; intro g cap w3 hown3 hg3 hat3 hlt3; have hvb := fun q (hq : (Value.slice A2 k c2).ownBlock = some q) => (HOWN.out.lt q hq).1; have ho3 : Whole1 w3 (w.heap.size + 2) 27 #[.int .i64 5, .int .i64 0, .string ⟨#[]⟩, .slice none 0 0, .slice A2 k c2] := ((hg3.block (w.heap.size + 2) (by simp; omega) (fun e => by have := hvb (w.heap.size + 2) e.symm; omega)).trans (Below.heap_alloc _ _ _ (by omega))).trans (HO.out.grown hg1' (by omega)); have m2 : w3.cell? ⟨w.heap.size + 2, 4, none⟩ = some (.slice A2 k c2) := ho3.cell 4; have n2 : w3.frozen? ⟨w.heap.size + 2, 4, none⟩ = false := ho3.free 4))
      all_goals
        go_wp2
        go_roundw
        case rel => exact ⟨k + 1, cap, some ⟨g, 0, none⟩, us ++ [u], by simp [HUL.out], by omega, by go_num, (by rw [szVas_append, szVas, szVas]; have := HSZU.out; rw [Nat.add_mul]; omega), smallBs_snoc us u HNBU.out hn1, vdraw_rel HUL.out hol (by omega) hpl hsz1 HG.out hg1' HC1.out HT1.out hown3 hg3 hat3 ho3 HOLD.out HB9.out⟩
        case measure => simp [intOf]; omega
    · have hke : m = k := by omega
      subst hke
      have hul := HUL.out
      have hltI : ¬ ((m : Nat) : Int) < (m : Int) := by omega
      have r2 : Whole1 wr (w.heap.size + 1) 27 #[.int .i64 0, .int .i64 0, .string ⟨#[]⟩, .slice none 0 0, .slice none 0 0] := (HOLD.out _ hrl (by omega) (by omega)).trans r1
      have o0 : wr.cell? ⟨w.heap.size + 2, 0, none⟩ = some (.int .i64 5) := ho.cell 0
      have o1 : wr.cell? ⟨w.heap.size + 2, 1, none⟩ = some (.int .i64 0) := ho.cell 1
      have o2 : wr.cell? ⟨w.heap.size + 2, 2, none⟩ = some (.string ⟨#[]⟩) := ho.cell 2
      have o3 : wr.cell? ⟨w.heap.size + 2, 3, none⟩ = some (.slice none 0 0) := ho.cell 3
      have o4 : wr.cell? ⟨w.heap.size + 2, 4, none⟩ = some (.slice A2 m c2) := ho.cell 4
      have d0 : wr.cell? ⟨w.heap.size + 1, 0, none⟩ = some (.int .i64 0) := r2.cell 0
      have f0 : wr.frozen? ⟨w.heap.size + 1, 0, none⟩ = false := r2.free 0
      have d1 : wr.cell? ⟨w.heap.size + 1, 1, none⟩ = some (.int .i64 0) := r2.cell 1
      have f1 : wr.frozen? ⟨w.heap.size + 1, 1, none⟩ = false := r2.free 1
      have d2 : wr.cell? ⟨w.heap.size + 1, 2, none⟩ = some (.string ⟨#[]⟩) := r2.cell 2
      have f2 : wr.frozen? ⟨w.heap.size + 1, 2, none⟩ = false := r2.free 2
      have d3 : wr.cell? ⟨w.heap.size + 1, 3, none⟩ = some (.slice none 0 0) := r2.cell 3
      have f3 : wr.frozen? ⟨w.heap.size + 1, 3, none⟩ = false := r2.free 3
      have d4 : wr.cell? ⟨w.heap.size + 1, 4, none⟩ = some (.slice none 0 0) := r2.cell 4
      have f4 : wr.frozen? ⟨w.heap.size + 1, 4, none⟩ = false := r2.free 4
      have HF : Hid (∀ a b c d e : Value, DrawnVa w B p n (.returned (.agg #[.int .i64 5, .int .i64 0, .string ⟨#[]⟩, .slice none 0 0, .slice A2 m c2])) (((((wr.setCell ⟨w.heap.size + 1, 0, none⟩ a).setCell ⟨w.heap.size + 1, 1, none⟩ b).setCell ⟨w.heap.size + 1, 2, none⟩ c).setCell ⟨w.heap.size + 1, 3, none⟩ d).setCell ⟨w.heap.size + 1, 4, none⟩ e)) := by
        obtain ⟨xs, vs, lo, hi', hG⟩ := hga
        have hown9 : OwnVa wr (w.heap.size + 2) _ (.mk 5 0 ⟨#[]⟩ [] us) := ⟨none, 0, A2, c2, xs, vs, lo, hi', rfl, Nat.zero_le _, fun i h => absurd h (by simp [Va.labels]), by simp only [Va.args]; unfold maxLen; omega, World.ownsRow_nil wr _ _ 1, by simp only [Va.args]; rw [← hul]; exact hG.base (by omega), fun gl h => by cases h⟩
        have hfin := fun a b c d e => drawnV_fin (w := w) (w3 := wr) (B := B) (p := p) (n := n) hown9 (by rw [szVa]; have := HSZU.out; have := Nat.mul_le_mul_right (1 + drawSz ts[0]) hm3; have h0 : (⟨#[]⟩ : ByteArray).size = 0 := rfl; rw [h0]; simp [sumSizes]; omega) (smallB_mk _ _ _ _ _ (by omega) (smallBs_at us HNBU.out)) HCR.out hpl HB9.out a b c d e
        exact Lib.hid (by intro a b c d e; have := hfin a b c d e; simp only [Va.kind, Va.num, Va.name, Va.labels, Va.args, ← hul] at this; exact this)
      clear p2 r2 ho hga q2 hul
      have q2 : wr.cell? ⟨w.heap.size, 2, none⟩ = some (.slice A ts.length ac) := by
        have : Whole1 wr w.heap.size 30 #[.int .i64 5, .slice L ls.length lc, .slice A ts.length ac] := (HOLD.out _ hplc (by omega) (by omega)).trans p1
        exact this.cell 2
      go_wp2
      exact bodyPost_ret (v := .agg #[.int .i64 5, .int .i64 0, .string ⟨#[]⟩, .slice none 0 0, .slice A2 m c2]) (by simp [results, Tryd.results33, go_sem, d0, d1, d2, d3, d4]) rfl (HF.out _ _ _ _ _)

end Go.Proofs.YtlmbnefoobameaaDoor
