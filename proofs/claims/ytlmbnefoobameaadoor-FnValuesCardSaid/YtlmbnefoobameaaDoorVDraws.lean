/- The draws of values. -/
import Derived.Test.YtlmbnefoobameaaDoorVBent
import Derived.Test.YtlmbnefoobameaaDoorDraw3b
import Derived.Deep.RegionHeld3
import Derived.Deep.DeepCutAuto
namespace Go.Proofs.YtlmbnefoobameaaDoor
set_option maxRecDepth 100000
open Go.RowKit
attribute [local go_sem ↓] Go.wp_at_zero Go.wp_at_succ

set_option maxHeartbeats 1000000 in
theorem drawDefaultOf_any (A : Option Addr) (n cap : Nat) (w : World) (hA : BytesAt w w.heap.size A n) (hn : n ≤ 2 ^ 47) :
    Calls Tryd.prog 10 #[.slice A n cap] w (GivesTy w) := by
  obtain ⟨hb0, r0, hs0⟩ := boxes1 w 30 #[.int .i64 0, .slice none 0 0, .slice none 0 0]
  have hc := Lib.hid (l1New_any A n cap (w.alloc (.cells #[.int .i64 0, .slice none 0 0, .slice none 0 0] 30)) (hA.alloc _) hn)
  have hp := Lib.hid (fun p B W h => specBent_any p B W h)
  clear hA
  go_enter Tryd.func10, Tryd.ntmps10
  go_wp2_with fail
  refine hc.out.mono ?_
  rintro e w1 ⟨p, rfl, hc1, hb1⟩
  go_wp2_with fail
  refine (hp.out p _ w1 hc1).mono ?_
  rintro e w2 ⟨⟨v, t, rfl, hO, hz⟩, hc2, hg2⟩
  have hi := hO.owned
  obtain ⟨L, lc, A2, ac, rfl⟩ := hO.open
  have hs1 := hb1.size
  have hb2 := below_only hb1 hg2 hb1.size hc1.low
  have r2 := r0.below hb2 r0.lt
  rw [hs0] at hs1
  have hbw := hb0.trans (hb2.mono hb0.size)
  have d0 : w2.cell? ⟨w.heap.size, 0, none⟩ = some (.int .i64 0) := r2.cell 0
  have d1 : w2.cell? ⟨w.heap.size, 1, none⟩ = some (.slice none 0 0) := r2.cell 1
  have d2 : w2.cell? ⟨w.heap.size, 2, none⟩ = some (.slice none 0 0) := r2.cell 2
  have f0 : w2.frozen? ⟨w.heap.size, 0, none⟩ = false := r2.free 0
  have f1 : w2.frozen? ⟨w.heap.size, 1, none⟩ = false := r2.free 1
  have f2 : w2.frozen? ⟨w.heap.size, 2, none⟩ = false := r2.free 2
  have HF : Hid (∀ a b c, GivesTy w (.returned (.agg #[.int .i64 t.kind, .slice L t.labels.length lc, .slice A2 t.args.length ac])) (((w2.setCell ⟨w.heap.size, 0, none⟩ a).setCell ⟨w.heap.size, 1, none⟩ b).setCell ⟨w.heap.size, 2, none⟩ c)) := Lib.hid (fun a b c => ⟨⟨_, t, rfl, tyIn_set3 hi w.heap.size w.heap.size (by omega) (by omega) a b c, hz⟩, ((hbw.setCell (by simp) _).setCell (by simp) _).setCell (by simp) _⟩)
  clear hi hO hc1 hb1 hc2 hg2 hb2 r2 r0 hb0
  go_wp2
  exact bodyPost_ret (v := .agg #[.int .i64 t.kind, .slice L t.labels.length lc, .slice A2 t.args.length ac]) (by simp [results, Tryd.results10, go_sem, d0, d1, d2]) rfl (HF.out _ _ _)


/-- A value is drawn, in new blocks; what was there stands. -/
def GivesVa (w : World) (e : Ending) (w' : World) : Prop := (∃ v t, e = .returned v ∧ VaIn w' (Span w.heap.size w'.heap.size) v t ∧ szVa t ≤ 4200 ∧ smallB t = true) ∧ Below w.heap.size w w'
theorem vaIn_set5 {w2 : World} {lo : Nat} {v : Value} {t : Va} (h : VaIn w2 (Span lo w2.heap.size) v t) (q b0 : Nat) (hq : q < lo) (hb : b0 ≤ lo) (a b c d e : Value) :
    VaIn (((((w2.setCell ⟨q, 0, none⟩ a).setCell ⟨q, 1, none⟩ b).setCell ⟨q, 2, none⟩ c).setCell ⟨q, 3, none⟩ d).setCell ⟨q, 4, none⟩ e) (Span b0 (((((w2.setCell ⟨q, 0, none⟩ a).setCell ⟨q, 1, none⟩ b).setCell ⟨q, 2, none⟩ c).setCell ⟨q, 3, none⟩ d).setCell ⟨q, 4, none⟩ e).heap.size) v t := by
  have hk : ∀ g, g ≠ q → (((((w2.setCell ⟨q, 0, none⟩ a).setCell ⟨q, 1, none⟩ b).setCell ⟨q, 2, none⟩ c).setCell ⟨q, 3, none⟩ d).setCell ⟨q, 4, none⟩ e).heap[g]? = w2.heap[g]? := fun g hg => by
    rw [Below.heap_setCell _ _ _ _ hg, Below.heap_setCell _ _ _ _ hg, Below.heap_setCell _ _ _ _ hg, Below.heap_setCell _ _ _ _ hg, Below.heap_setCell _ _ _ _ hg]
  have hs : (((((w2.setCell ⟨q, 0, none⟩ a).setCell ⟨q, 1, none⟩ b).setCell ⟨q, 2, none⟩ c).setCell ⟨q, 3, none⟩ d).setCell ⟨q, 4, none⟩ e).heap.size = w2.heap.size := by simp [World.setCell]
  rw [hs]
  exact (h.keep fun g hg _ => hk g (by have := hg.1; omega)).wide fun g hg => ⟨Nat.le_trans hb hg.1, hg.2⟩

set_option maxHeartbeats 2000000 in
theorem drawIsValue_any (A : Option Addr) (n cap : Nat) (w : World) (hA : BytesAt w w.heap.size A n) (hn : n ≤ 2 ^ 47) :
    Calls Tryd.prog 8 #[.slice A n cap] w (GivesVa w) := by
  obtain ⟨hb0, r0, hs0⟩ := boxes1 w 27 #[.int .i64 0, .int .i64 0, .string ⟨#[]⟩, .slice none 0 0, .slice none 0 0]
  have hc := Lib.hid (l1New_any A n cap (w.alloc (.cells #[.int .i64 0, .int .i64 0, .string ⟨#[]⟩, .slice none 0 0, .slice none 0 0] 27)) (hA.alloc _) hn)
  have hp := Lib.hid (fun p B W h => specBentV_any p B W h)
  clear hA
  go_enter Tryd.func8, Tryd.ntmps8
  go_wp2_with fail
  refine hc.out.mono ?_
  rintro e w1 ⟨p, rfl, hc1, hb1⟩
  go_wp2_with fail
  refine (hp.out p _ w1 hc1).mono ?_
  rintro e w2 ⟨⟨v, t, rfl, hO, hz, hnb⟩, hc2, hg2⟩
  have hi := hO.owned
  obtain ⟨L, lc, A2, ac, rfl⟩ := hO.open
  have hs1 := hb1.size
  have hb2 := below_only hb1 hg2 hb1.size hc1.low
  have r2 := r0.below hb2 r0.lt
  rw [hs0] at hs1
  have hbw := hb0.trans (hb2.mono hb0.size)
  have d0 : w2.cell? ⟨w.heap.size, 0, none⟩ = some (.int .i64 0) := r2.cell 0
  have f0 : w2.frozen? ⟨w.heap.size, 0, none⟩ = false := r2.free 0
  have d1 : w2.cell? ⟨w.heap.size, 1, none⟩ = some (.int .i64 0) := r2.cell 1
  have f1 : w2.frozen? ⟨w.heap.size, 1, none⟩ = false := r2.free 1
  have d2 : w2.cell? ⟨w.heap.size, 2, none⟩ = some (.string ⟨#[]⟩) := r2.cell 2
  have f2 : w2.frozen? ⟨w.heap.size, 2, none⟩ = false := r2.free 2
  have d3 : w2.cell? ⟨w.heap.size, 3, none⟩ = some (.slice none 0 0) := r2.cell 3
  have f3 : w2.frozen? ⟨w.heap.size, 3, none⟩ = false := r2.free 3
  have d4 : w2.cell? ⟨w.heap.size, 4, none⟩ = some (.slice none 0 0) := r2.cell 4
  have f4 : w2.frozen? ⟨w.heap.size, 4, none⟩ = false := r2.free 4
  have HF : Hid (∀ a b c d e, GivesVa w (.returned (.agg #[.int .i64 t.kind, .int .i64 t.num, .string t.name, .slice L t.labels.length lc, .slice A2 t.args.length ac])) (((((w2.setCell ⟨w.heap.size, 0, none⟩ a).setCell ⟨w.heap.size, 1, none⟩ b).setCell ⟨w.heap.size, 2, none⟩ c).setCell ⟨w.heap.size, 3, none⟩ d).setCell ⟨w.heap.size, 4, none⟩ e)) := Lib.hid (fun a b c d e => ⟨⟨_, t, rfl, vaIn_set5 hi w.heap.size w.heap.size (by omega) (by omega) a b c d e, hz, hnb⟩, ((((hbw.setCell (by simp) _).setCell (by simp) _).setCell (by simp) _).setCell (by simp) _).setCell (by simp) _⟩)
  clear hi hO hc1 hb1 hc2 hg2 hb2 r2 r0 hb0
  go_wp2
  exact bodyPost_ret (v := .agg #[.int .i64 t.kind, .int .i64 t.num, .string t.name, .slice L t.labels.length lc, .slice A2 t.args.length ac]) (by simp [results, Tryd.results8, go_sem, d0, d1, d2, d3, d4]) rfl (HF.out _ _ _ _ _)

end Go.Proofs.YtlmbnefoobameaaDoor
