/- spec.l7Copy makes a new optic. -/
import Derived.Test.YtceclhndagoddaaODrawLib
import Derived.Deep.AppendLies
import Derived.Deep.DeepCutAuto
import Derived.Deep.DrawnRows
import Derived.Deep.RegionHeld3
namespace Go.Proofs.Ytceclhndagoddaa
set_option maxRecDepth 100000
open Go.RowKit
attribute [local go_sem ↓] Go.wp_at_zero Go.wp_at_succ

theorem ocopy_rel {w wc wr w1 w3 : World} {po k g cap c2 : Nat} {A2 : Option Addr} {k0 n0 : Int} {nm : ByteArray} {ts : List Ot} {xs : List Value} {vs : Nat → Value} {lo hi : Nat → Nat} {a b c d : Value} (hk : k < ts.length) (hol : po < wc.heap.size) (hpo : w.heap.size ≤ po) (hsz : wc.heap.size ≤ wr.heap.size)
    (hG : OGatherAt wr wc.heap.size (.slice A2 k c2) k ts xs vs lo hi) (hb1 : Below wr.heap.size wr w1) (ht : OtIn w1 (Span wr.heap.size w1.heap.size) (.agg #[a, b, c, d]) ts[k])
    (hown3 : w3.ownsRow wc.heap.size 26 4 (.slice (some ⟨g, 0, none⟩) (k + 1) cap) (k + 1) (xs ++ [a, b, c, d])) (hg3 : (w1.alloc (.cells #[a, b, c, d] 26)).grownBy w3 (Value.slice A2 k c2).ownBlock) (hat3 : (Value.slice A2 k c2).ownBlock = some g ∨ g = w1.heap.size + 1)
    (ho3 : Whole1 w3 po 26 #[.int .i64 k0, .string nm, .int .i64 n0, .slice A2 k c2]) (hold : ∀ q, q < wc.heap.size → q ≠ po → wr.heap[q]? = wc.heap[q]?) (hb : Below w.heap.size w wr) :
    Whole1 (w3.setCell ⟨po, 3, none⟩ (.slice (some ⟨g, 0, none⟩) (k + 1) cap)) po 26 #[.int .i64 k0, .string nm, .int .i64 n0, .slice (some ⟨g, 0, none⟩) (k + 1) cap] ∧ OGather (w3.setCell ⟨po, 3, none⟩ (.slice (some ⟨g, 0, none⟩) (k + 1) cap)) wc.heap.size (.slice (some ⟨g, 0, none⟩) (k + 1) cap) (k + 1) ts ∧
      (∀ q, q < wc.heap.size → q ≠ po → (w3.setCell ⟨po, 3, none⟩ (.slice (some ⟨g, 0, none⟩) (k + 1) cap)).heap[q]? = wc.heap[q]?) ∧ Below w.heap.size w (w3.setCell ⟨po, 3, none⟩ (.slice (some ⟨g, 0, none⟩) (k + 1) cap)) ∧ wc.heap.size ≤ (w3.setCell ⟨po, 3, none⟩ (.slice (some ⟨g, 0, none⟩) (k + 1) cap)).heap.size := by
  have hs1 := hb1.size
  have hs3 := hg3.size
  simp only [World.size_alloc] at hs3
  have hw0 := hb.size
  have hvb := fun q (hq : (Value.slice A2 k c2).ownBlock = some q) => (hG.own.lt q hq).1
  refine ⟨ho3.set 3 _, (hG.step hb1 hsz hk ht hown3 hg3 hat3).set hol, fun q hq hqp => ?_, ?_, ?_⟩
  · rw [Below.heap_setCell _ _ _ _ hqp, hg3.block q (by simp; omega) (fun e => by have := hvb q e.symm; omega), Below.heap_alloc _ _ _ (by omega), hb1.block q (by omega)]
    exact hold q hq hqp
  · exact (((hb.trans (hb1.mono hw0)).alloc (by omega) _).grown hg3 (by simp; omega) (fun q hq => by have := hvb q hq; omega)).setCell hpo _
  · show wc.heap.size ≤ (w3.setCell _ _).heap.size
    simp [World.setCell]
    omega

def CopyOOne (t : Ot) : Prop := ∀ (v : Value) (w : World), OtAt w w.heap.size v t → szOt t ≤ 1048576 → Calls Try.prog 32 #[v] w (NewOt w t)

set_option maxHeartbeats 8000000 in
theorem specCopyO_of (k0 n0 : Int) (nm : ByteArray) (ts : List Ot) (hall0 : ∀ i, (h : i < ts.length) → CopyOOne ts[i]) : CopyOOne (.mk k0 n0 nm ts) := by
  intro v w hv hsz
  have hse := szOt_eq (.mk k0 n0 nm ts)
  obtain ⟨A, ac, rfl, hnm, ha⟩ := hv.open
  simp only [Ot.kind, Ot.num, Ot.name, Ot.args] at *
  have hall : ∀ i, (h : i < ts.length) → ∀ (v : Value) (W : World), OtAt W W.heap.size v ts[i] → Calls Try.prog 32 #[v] W (NewOt W ts[i]) := fun i h v W h2 => hall0 i h v W h2 (by have := szOt_part ts i h; omega)
  have HALL := Lib.hid hall
  clear hall hv hall0
  have HRL := Lib.hid (fun k (hk : k < ts.length) => hk)
  have HNM := Lib.hid hnm
  have hle : ts.length ≤ 1048576 := by have := szOts_len ts; omega
  have hmn := Lib.hid ha.1
  obtain ⟨hb0, p0, r0, o0, hs0⟩ := boxes3 w 26 26 26 #[.int .i64 k0, .string nm, .int .i64 n0, .slice A ts.length ac] #[.int .i64 0, .string ⟨#[]⟩, .int .i64 0, .slice none 0 0] #[.int .i64 k0, .string nm, .int .i64 n0, .slice none 0 0]
  obtain ⟨i1, hi1, hy0, hy1, hy2⟩ := info_parts infoOptic
  go_enter Try.func32, Try.ntmps32
  go_wp2
  generalize ((w.alloc (.cells #[.int .i64 k0, .string nm, .int .i64 n0, .slice A ts.length ac] 26)).alloc (.cells #[.int .i64 0, .string ⟨#[]⟩, .int .i64 0, .slice none 0 0] 26)).alloc (.cells #[.int .i64 k0, .string nm, .int .i64 n0, .slice none 0 0] 26) = wc at *
  have HZ := Lib.hid hs0
  have hpl : w.heap.size < wc.heap.size := p0.lt
  have hrl : w.heap.size + 1 < wc.heap.size := r0.lt
  have hol : w.heap.size + 1 + 1 < wc.heap.size := o0.lt
  clear hs0
  go_loopw [4] (fun i wr => ∃ (k : Nat) (c2 : Nat) (A2 : Option Addr), k ≤ ts.length ∧ i = .int .i64 k ∧ Whole1 wr (w.heap.size + 1 + 1) 26 #[.int .i64 k0, .string nm, .int .i64 n0, .slice A2 k c2] ∧ OGather wr wc.heap.size (.slice A2 k c2) k ts ∧ (∀ q, q < wc.heap.size → q ≠ w.heap.size + 1 + 1 → wr.heap[q]? = wc.heap[q]?) ∧ Below w.heap.size w wr ∧ wc.heap.size ≤ wr.heap.size) (fun i _ => ts.length - (intOf i).toNat)
  case atStart => exact ⟨0, 0, none, Nat.zero_le _, rfl, o0, OGather.start _ _ _, fun _ _ _ => rfl, hb0, Nat.le_refl _⟩
  case round =>
    obtain ⟨k, c2, A2, hk, rfl, ho, hga, hold, hb, hsz1⟩ := hrel
    have HOLD := Lib.hid hold
    have p2 : Whole1 wr w.heap.size 26 #[.int .i64 k0, .string nm, .int .i64 n0, .slice A ts.length ac] := (hold _ hpl (by omega)).trans p0
    have q2 : wr.cell? ⟨w.heap.size, 3, none⟩ = some (.slice A ts.length ac) := p2.cell 3
    clear hold
    by_cases hlt : k < ts.length
    · obtain ⟨xs, vs, lo, hi', hG⟩ := hga
      obtain ⟨b, off, C, cc, rfl, hbl, e0, e1, e2, e3, ht⟩ := (ha.below hb).elem k hlt
      have hbs := hb.size
      have HT := Lib.hid (HALL.out k hlt _ wr.drew ((ht.more hbs).up (Below.refl _ _).drew))
      have HG := Lib.hid hG
      have HO := Lib.hid ho
      have o2 : wr.cell? ⟨w.heap.size + 1 + 1, 3, none⟩ = some (.slice A2 k c2) := ho.cell 3
      have f2 : wr.frozen? ⟨w.heap.size + 1 + 1, 3, none⟩ = false := ho.free 3
      have hbw : b < wr.heap.size := by omega
      have hpw : w.heap.size < wr.heap.size := by omega
      have how : w.heap.size + 1 + 1 < wr.heap.size := by omega
      have hown0 := hG.own
      have HOWN := Lib.hid hown0
      have hrl2 := HRL.out k hlt
      clear hG ho ht p2 hown0
      go_wp2
      go_region_law (first
        | (go_simp; go_at_call 32; refine HT.out.mono ?_; rintro e w1 ⟨v1, rfl, ht1, hb1⟩; have HT1 := Lib.hid ht1; obtain ⟨T2, U2, rfl, _⟩ := ht1.open; clear ht1; have hb1' := (Below.refl wr.heap.size wr).drew.trans hb1; have y2 := (hb1'.cell (p := ⟨w.heap.size + 1 + 1, 3, none⟩) how).trans o2; have y3 := ((hb1'.alloc hb1'.size (.cells #[.int .i64 ts[k].kind, .string ts[k].name, .int .i64 ts[k].num, .slice T2 ts[k].args.length U2] 26)).cell (p := ⟨w.heap.size + 1 + 1, 3, none⟩) how).trans o2; have hown2 := World.ownsRow.alloc (own_keep4o HOWN.out (fun g hg => hb1'.block g (HOWN.out.lt g hg).2)) (.cells #[.int .i64 ts[k].kind, .string ts[k].name, .int .i64 ts[k].num, .slice T2 ts[k].args.length U2] 26); have hnews := newsO w1 26 (.int .i64 ts[k].kind) (.string ts[k].name) (.int .i64 ts[k].num) (.slice T2 ts[k].args.length U2))
        | (refine step_append_lies _ (by rfl) (.tmp 20) (.tmp 27) _ (by rfl) wc.heap.size 26 i1 (.agg #[.int .i64 0, .string ⟨#[]⟩, .int .i64 0, .slice none 0 0]) 4 56 Try.underlying24 hi1 hy0 hy1 hy2 rfl (by decide) _ k xs (by rfl) hown2 ⟨w1.heap.size, 0, none⟩ 1 1 [.int .i64 ts[k].kind, .string ts[k].name, .int .i64 ts[k].num, .slice T2 ts[k].args.length U2] (by rfl) rfl hnews.1 hnews.2 (by omega) (by unfold maxLen; omega) (by omega) (by have := hb1'.size; simp; omega) (w1.heap.size + 1) (by simp) ?_; intro g cap w3 hown3 hg3 hat3 hlt3; have hvb := fun q (hq : (Value.slice A2 k c2).ownBlock = some q) => (HOWN.out.lt q hq).1; have ho3 : Whole1 w3 (w.heap.size + 1 + 1) 26 #[.int .i64 k0, .string nm, .int .i64 n0, .slice A2 k c2] := ((hg3.block (w.heap.size + 1 + 1) (by have := hb1'.size; simp; omega) (fun e => by have := hvb (w.heap.size + 1 + 1) e.symm; omega)).trans (Below.heap_alloc _ _ _ (by have := hb1'.size; omega))).trans ((hb1'.block (w.heap.size + 1 + 1) how).trans HO.out); have m2 : w3.cell? ⟨w.heap.size + 1 + 1, 3, none⟩ = some (.slice A2 k c2) := ho3.cell 3; have n2 : w3.frozen? ⟨w.heap.size + 1 + 1, 3, none⟩ = false := ho3.free 3))
      all_goals
        go_wp2
        go_roundw
        case rel => exact ⟨k + 1, cap, some ⟨g, 0, none⟩, by omega, by go_num, ocopy_rel hrl2 hol (by omega) hsz1 HG.out hb1' (by exact HT1.out) hown3 hg3 hat3 ho3 HOLD.out hb⟩
        case measure => simp [intOf]; omega
    · have hke : k = ts.length := by omega
      subst hke
      have r3 : Whole1 wr (w.heap.size + 1) 26 #[.int .i64 0, .string ⟨#[]⟩, .int .i64 0, .slice none 0 0] := (HOLD.out _ hrl (by omega)).trans r0
      have o0 : wr.cell? ⟨w.heap.size + 1 + 1, 0, none⟩ = some (.int .i64 k0) := ho.cell 0
      have g0 : wr.frozen? ⟨w.heap.size + 1 + 1, 0, none⟩ = false := ho.free 0
      have o1 : wr.cell? ⟨w.heap.size + 1 + 1, 1, none⟩ = some (.string nm) := ho.cell 1
      have g1 : wr.frozen? ⟨w.heap.size + 1 + 1, 1, none⟩ = false := ho.free 1
      have o2 : wr.cell? ⟨w.heap.size + 1 + 1, 2, none⟩ = some (.int .i64 n0) := ho.cell 2
      have g2 : wr.frozen? ⟨w.heap.size + 1 + 1, 2, none⟩ = false := ho.free 2
      have o3 : wr.cell? ⟨w.heap.size + 1 + 1, 3, none⟩ = some (.slice A2 ts.length c2) := ho.cell 3
      have g3 : wr.frozen? ⟨w.heap.size + 1 + 1, 3, none⟩ = false := ho.free 3
      have d0 : wr.cell? ⟨w.heap.size + 1, 0, none⟩ = some (.int .i64 0) := r3.cell 0
      have f0 : wr.frozen? ⟨w.heap.size + 1, 0, none⟩ = false := r3.free 0
      have d1 : wr.cell? ⟨w.heap.size + 1, 1, none⟩ = some (.string ⟨#[]⟩) := r3.cell 1
      have f1 : wr.frozen? ⟨w.heap.size + 1, 1, none⟩ = false := r3.free 1
      have d2 : wr.cell? ⟨w.heap.size + 1, 2, none⟩ = some (.int .i64 0) := r3.cell 2
      have f2 : wr.frozen? ⟨w.heap.size + 1, 2, none⟩ = false := r3.free 2
      have d3 : wr.cell? ⟨w.heap.size + 1, 3, none⟩ = some (.slice none 0 0) := r3.cell 3
      have f3 : wr.frozen? ⟨w.heap.size + 1, 3, none⟩ = false := r3.free 3
      have hdone : OtsIn wr (Span wc.heap.size wr.heap.size) A2 ts := hga.done hmn.out
      have HD := Lib.hid hdone
      clear p2 r3 ho hga hdone
      go_wp2
      refine bodyPost_ret (v := .agg #[.int .i64 k0, .string nm, .int .i64 n0, .slice A2 ts.length c2]) (by simp [results, Try.results32, go_sem, d0, d1, d2, d3]) rfl ⟨_, rfl, ?_, ?_⟩
      · have hk' : ∀ q, q ≠ w.heap.size + 1 → ((((wr.setCell ⟨w.heap.size + 1, 0, none⟩ (.int .i64 k0)).setCell ⟨w.heap.size + 1, 1, none⟩ (.string nm)).setCell ⟨w.heap.size + 1, 2, none⟩ (.int .i64 n0)).setCell ⟨w.heap.size + 1, 3, none⟩ (.slice A2 ts.length c2)).heap[q]? = wr.heap[q]? := fun q hq => by
          rw [Below.heap_setCell _ _ _ _ hq, Below.heap_setCell _ _ _ _ hq, Below.heap_setCell _ _ _ _ hq, Below.heap_setCell _ _ _ _ hq]
        have hS : ((((wr.setCell ⟨w.heap.size + 1, 0, none⟩ (.int .i64 k0)).setCell ⟨w.heap.size + 1, 1, none⟩ (.string nm)).setCell ⟨w.heap.size + 1, 2, none⟩ (.int .i64 n0)).setCell ⟨w.heap.size + 1, 3, none⟩ (.slice A2 ts.length c2)).heap.size = wr.heap.size := by simp [World.setCell]
        rw [hS]
        have hD2 := HD.out.keep (w' := ((((wr.setCell ⟨w.heap.size + 1, 0, none⟩ (.int .i64 k0)).setCell ⟨w.heap.size + 1, 1, none⟩ (.string nm)).setCell ⟨w.heap.size + 1, 2, none⟩ (.int .i64 n0)).setCell ⟨w.heap.size + 1, 3, none⟩ (.slice A2 ts.length c2))) fun b hb' _ => hk' b (by have := hb'.1; omega)
        have hzz := HZ.out
        have h9 := OtIn.of (t := (.mk k0 n0 nm ts)) (ac := c2) (S := Span w.heap.size wr.heap.size) HNM.out hD2 fun b hb' => ⟨by have := hb'.1; omega, hb'.2⟩
        simp only [Ot.kind, Ot.num, Ot.name, Ot.args] at h9
        exact h9
      · exact (((hb.setCell (by simp) _).setCell (by simp) _).setCell (by simp) _).setCell (by simp) _

theorem specCopyO_any (t : Ot) : CopyOOne t := by
  induction t using Ot.ind with
  | h k n nm ts ih => exact specCopyO_of k n nm ts ih

end Go.Proofs.Ytceclhndagoddaa
