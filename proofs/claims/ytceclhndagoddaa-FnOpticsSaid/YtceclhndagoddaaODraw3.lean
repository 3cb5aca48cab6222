/- spec.l7Bent. -/
import Derived.Test.YtceclhndagoddaaODraw2
import Derived.Deep.DeepCutAuto
import Derived.Deep.DrawnRows
import Derived.Deep.RegionHeld3
namespace Go.Proofs.Ytceclhndagoddaa
set_option maxRecDepth 100000
open Go.RowKit
attribute [local go_sem ↓] Go.wp_at_zero Go.wp_at_succ

theorem anyB_four (d : Nat) (h : d ≤ 4) : anyB d ≤ 46 := by
  have : d = 0 ∨ d = 1 ∨ d = 2 ∨ d = 3 ∨ d = 4 := by omega
  rcases this with rfl | rfl | rfl | rfl | rfl <;> decide
theorem pickNs (p B : Nat) (W : World) (h : CurAt W B p) :
    Calls Try.prog 45 #[.pointer (some ⟨p, 0, none⟩), .slice (some ⟨W.heap.size, 0, none⟩) 5 5] (W.alloc (.cells #[.int .i64 0, .int .i64 1, .int .i64 1000, .int .i64 1001, .int .i64 (-1)] 3)) (DrawnOf (W.alloc (.cells #[.int .i64 0, .int .i64 1, .int .i64 1000, .int .i64 1001, .int .i64 (-1)] 3)) B p [0, 1, 1000, 1001, (-1)]) :=
  l1PickInt_any p B 5 (some ⟨W.heap.size, 0, none⟩) [0, 1, 1000, 1001, (-1)] _ (CurAt.allocO h _) (ints_newO W _ [0, 1, 1000, 1001, (-1)]) (fun q b off e => by cases e; have := h.lt; omega) (by decide) (by decide)
theorem pickNames (p B : Nat) (W : World) (h : CurAt W B p) :
    Calls Try.prog 46 #[.pointer (some ⟨p, 0, none⟩), .slice (some ⟨W.heap.size, 0, none⟩) 3 3] (W.alloc (.cells #[.string ⟨#[]⟩, .string ⟨#[97]⟩, .string ⟨#[90]⟩] 9)) (DrawnStr (W.alloc (.cells #[.string ⟨#[]⟩, .string ⟨#[97]⟩, .string ⟨#[90]⟩] 9)) B p [⟨#[]⟩, ⟨#[97]⟩, ⟨#[90]⟩]) :=
  l1Pick_any p B (W.heap.size + 1) 3 (some ⟨W.heap.size, 0, none⟩) [⟨#[]⟩, ⟨#[97]⟩, ⟨#[90]⟩] _ (CurAt.allocO h _) (StrsAt.of_whole (t := 9) (Whole1.new W _ _) _ (by omega)) (fun q b off e => by cases e; have := h.lt; omega) (by decide) (by decide)
theorem OtIn.leaf (w : World) (S : Nat → Prop) (k n : Int) (nm : ByteArray) (hnm : nm.size ≤ maxLen) : OtIn w S (.agg #[.int .i64 k, .string nm, .int .i64 n, .slice none 0 0]) (.mk k n nm []) :=
  (OwnOt.leaf w w.heap.size k n nm hnm).owned.wide fun b hb => absurd hb.2 (by have := hb.1; omega)
/-- One more tree is appended. -/
theorem OGatherAt.stepAt {w w1 w3 : World} {base k g cap : Nat} {v a b c d : Value} {ts : List Ot} {xs : List Value} {vs : Nat → Value} {lo hi : Nat → Nat} (h : OGatherAt w base v k ts xs vs lo hi) (hb : Below w.heap.size w w1) (hbase : base ≤ w.heap.size) (hk : k < ts.length)
    (ht : OtIn w1 (Span w.heap.size w1.heap.size) (.agg #[a, b, c, d]) ts[k]) (hown : w3.ownsRow base 26 4 (.slice (some ⟨g, 0, none⟩) (k + 1) cap) (k + 1) (xs ++ [a, b, c, d]))
    (hg : (w1.alloc (.cells #[a, b, c, d] 26)).grownBy w3 v.ownBlock) (hat : v.ownBlock = some g ∨ g = w1.heap.size + 1) : OGatherAt w3 base (.slice (some ⟨g, 0, none⟩) (k + 1) cap) (k + 1) ts (xs ++ [a, b, c, d]) (fun i => if i = k then .agg #[a, b, c, d] else vs i) (fun i => if i = k then w.heap.size else lo i) (fun i => if i = k then w1.heap.size else hi i) := by
  have hs1 := hb.size
  have hs3 : w1.heap.size + 1 ≤ w3.heap.size := by have := hg.size; simp at this; exact this
  have hxl : xs.length = k * 4 := h.own.1
  have hkeep : ∀ q, q < w1.heap.size → v.ownBlock ≠ some q → w3.heap[q]? = w1.heap[q]? := fun q hq hne =>
    (hg.block q (by simp; omega) (fun e => hne e.symm)).trans (Below.heap_alloc _ _ _ hq)
  refine ⟨hown, fun i hi' j hj => ?_, fun i hi' => ?_, fun i j hij hj => ?_, fun i hi' q hq => ?_, fun i hi' hik => ?_⟩
  · by_cases ek : i = k
    · subst ek
      rw [if_pos rfl, List.getElem?_append_right (by omega), hxl]
      have : j = 0 ∨ j = 1 ∨ j = 2 ∨ j = 3 := by omega
      rcases this with rfl | rfl | rfl | rfl
      · simp [partAt]
      · simp [partAt]
      · simp [partAt]
      · simp [partAt]
    · rw [if_neg ek, List.getElem?_append_left (by omega)]
      exact h.cells i (by omega) j hj
  · by_cases ek : i = k
    · rw [if_pos ek, if_pos ek]
      omega
    · rw [if_neg ek, if_neg ek]
      have := h.low i (by omega)
      omega
  · rw [if_neg (show i ≠ k by omega)]
    by_cases ek : j = k
    · rw [if_pos ek]
      exact (h.low i (by omega)).2
    · rw [if_neg ek]
      exact h.apart i j hij (by omega)
  · have hqg : q = g := (Option.some.inj hq).symm
    subst hqg
    by_cases ek : i = k
    · rw [if_pos ek, if_pos ek]
      intro hs
      have a1 := hs.1
      have a2 := hs.2
      rcases hat with hat | hat
      · have := (h.own.lt q hat).2
        omega
      · omega
    · rw [if_neg ek, if_neg ek]
      rcases hat with hat | hat
      · exact h.free i (by omega) q hat
      · intro hs
        have := hs.2
        have := (h.low i (by omega)).2
        omega
  · by_cases ek : i = k
    · subst ek
      rw [if_pos rfl, if_pos rfl, if_pos rfl]
      refine ht.keep fun q hq _ => hkeep q hq.2 fun hv => ?_
      have := (h.own.lt q hv).2
      have := hq.1
      omega
    · rw [if_neg ek, if_neg ek, if_neg ek]
      refine (h.kids i hi' (by omega)).keep fun q hq hql => ?_
      rw [hkeep q (by omega) fun hv => h.free i (by omega) q hv hq]
      exact hb.block q hql

/-- A part is appended. -/
theorem OwnOAt.arg {w w1 w3 : World} {base ac g cap : Nat} {A : Option Addr} {t : Ot} {xs : List Value} {vs : Nat → Value} {lo hi : Nat → Nat} {a b c d : Value} (h : OwnOAt w base A ac t xs vs lo hi) (u : Ot) (hb : Below w.heap.size w w1) (hbase : base ≤ w.heap.size) (hm : t.args.length + 1 ≤ maxLen)
    (hu : OtIn w1 (Span w.heap.size w1.heap.size) (.agg #[a, b, c, d]) u) (hown : w3.ownsRow base 26 4 (.slice (some ⟨g, 0, none⟩) (t.args.length + 1) cap) (t.args.length + 1) (xs ++ [a, b, c, d]))
    (hg : (w1.alloc (.cells #[a, b, c, d] 26)).grownBy w3 (Value.slice A t.args.length ac).ownBlock) (hat : (Value.slice A t.args.length ac).ownBlock = some g ∨ g = w1.heap.size + 1) :
    OwnOAt w3 base (some ⟨g, 0, none⟩) cap (.mk t.kind t.num t.name (t.args ++ [u])) (xs ++ [a, b, c, d]) (fun i => if i = t.args.length then .agg #[a, b, c, d] else vs i) (fun i => if i = t.args.length then w.heap.size else lo i) (fun i => if i = t.args.length then w1.heap.size else hi i) := by
  have hp : OGatherAt w base (.slice A t.args.length ac) t.args.length (t.args ++ [u]) xs vs lo hi :=
    ⟨h.parts.own, h.parts.cells, h.parts.low, h.parts.apart, h.parts.free, fun i hi' hik => by rw [List.getElem_append_left hik]; exact h.parts.kids i hik hik⟩
  have hst := hp.stepAt hb hbase (by simp) (by simpa using hu) hown hg hat
  have e1 : (t.args ++ [u]).length = t.args.length + 1 := by simp
  refine ⟨h.name, by show (t.args ++ [u]).length ≤ maxLen; rw [e1]; exact hm, ?_⟩
  show OGatherAt w3 base (.slice _ (t.args ++ [u]).length cap) (t.args ++ [u]).length (t.args ++ [u]) _ _ _ _
  rw [e1]
  exact hst
theorem szOt_arg (t u : Ot) : szOt (.mk t.kind t.num t.name (t.args ++ [u])) = szOt t + 1 + szOt u := by
  cases t
  simp [szOt, Ot.args, Ot.name, szOts_append, szOts]
  omega

set_option maxHeartbeats 8000000 in
theorem specBentO_any (p B : Nat) (w : World) (hc : CurAt w B p) : Calls Try.prog 27 #[.pointer (some ⟨p, 0, none⟩)] w (DrawnOt w B p 60) := by
  have hpl := hc.lt
  obtain ⟨hb0, r0, hs0⟩ := boxes1 w 26 #[.int .i64 0, .string ⟨#[]⟩, .int .i64 0, .slice none 0 0]
  have hc0 : CurAt (w.alloc (.cells #[.int .i64 0, .string ⟨#[]⟩, .int .i64 0, .slice none 0 0] 26)) B p := hc.allocO _
  have hg0 : w.grownBy (w.alloc (.cells #[.int .i64 0, .string ⟨#[]⟩, .int .i64 0, .slice none 0 0] 26)) (some p) := World.grownBy_alloc w _ _
  have H4 := Lib.hid (fun W h => l1Below_any p B 4 W h (by omega) (by omega))
  have H12 := Lib.hid (fun W h => l1Below_any p B 12 W h (by omega) (by omega))
  have H15 := Lib.hid (fun W h => l1Below_any p B 15 W h (by omega) (by omega))
  have HAN : Hid (∀ (D : Int) (W : World), 1 ≤ D → D ≤ 4 → CurAt W B p → Calls Try.prog 44 #[.pointer (some ⟨p, 0, none⟩), .int .i64 D] W (DrawnOt W B p 46)) := Lib.hid (fun D W h1 h4 h => (specAnyO_any D.toNat D p B W (by omega) (by omega) h).mono (by rintro e w' ⟨⟨v, t, h1', h2', h3'⟩, h4', h5'⟩; exact ⟨⟨v, t, h1', h2', Nat.le_trans h3' (anyB_four _ (by omega))⟩, h4', h5'⟩))
  clear hc hb0
  go_enter Try.func27, Try.ntmps27
  go_wp2_with fail
  refine (H4.out _ hc0).mono ?_
  rintro e wt ⟨⟨y, rfl, hy0, hy1⟩, hct, hgt⟩
  have HV := Lib.hid (HAN.out (1 + y) _ (by omega) (by omega) hct)
  have rt := r0.grownO hgt (by omega)
  have hgt' := only_trans hg0 hgt
  have hst := hgt.size
  rw [hs0] at hst
  clear r0 hg0 hgt hc0 hs0 hct HAN
  go_wp2_with fail
  refine HV.out.mono ?_
  rintro e w1 ⟨⟨v, t, rfl, hO, hz⟩, hc1, hg1⟩
  obtain ⟨A, ac, xs, vs, lo, hi, rfl, hA1⟩ := hO.base (base0 := w.heap.size + 1) (by omega)
  have r1 := rt.grownO hg1 (by omega)
  have hg1' := only_trans hgt' hg1
  have hs1 := hg1.size
  clear hO rt hgt' hg1 HV hy0 hy1
  go_wp2_with fail
  obtain ⟨hbW, rb, hsW⟩ := boxes1 w1 26 #[.int .i64 t.kind, .string t.name, .int .i64 t.num, .slice A t.args.length ac]
  have hcW := hc1.belowO hbW hc1.lt
  have hOW := hA1.keep (w' := w1.alloc (.cells #[.int .i64 t.kind, .string t.name, .int .i64 t.num, .slice A t.args.length ac] 26)) hbW.size (fun g _ hl => hbW.block g hl)
  have rW := r1.below hbW r1.lt
  have hgW := only_below hg1' hbW
  have N2 : (Value.slice A t.args.length ac).ownBlock ≠ some w1.heap.size := fun e => by have := (hA1.parts.own.lt _ e).2; omega
  have N3 : ∀ i, i < t.args.length → ¬ Span (lo i) (hi i) w1.heap.size := fun i hi' hb => by have := (hA1.parts.low i hi').2; have := hb.2; omega
  clear hbW hc1 hA1 r1 hg1'
  generalize hz1 : w1.heap.size = z at *
  generalize w1.alloc (.cells #[.int .i64 t.kind, .string t.name, .int .i64 t.num, .slice A t.args.length ac] 26) = W at *
  refine (H12.out _ hcW).mono ?_
  rintro e w2 ⟨⟨x, rfl, hx0, hx1⟩, hc2, hg2⟩
  have hs2 := hg2.size
  have hA2 := hOW.grown hg2 (by omega)
  have b2 := rb.grownO hg2 (by omega)
  have r2 := rW.grownO hg2 (by omega)
  have hg2' := only_trans hgW hg2
  clear hcW rb hOW rW hgW hg2
  have hzr : z ≠ w.heap.size := by omega
  have hrz : w.heap.size ≠ z := by omega
  have hzl := b2.lt
  by_cases h0 : x = 0
  · subst h0
    go_wp2_with fail
    refine (H15.out _ hc2).mono ?_
    rintro e w3 ⟨⟨y, rfl, hy0, hy1⟩, hc3, hg3⟩
    have hs3 := hg3.size
    have hA3 := hA2.grown hg3 (by omega)
    have b3 := b2.grownO hg3 (by omega)
    have r3 := r2.grownO hg3 (by omega)
    have hg3' := only_trans hg2' hg3
    clear hA2 b2 r2 hg2' hg3 hc2
    have d0 : w3.cell? ⟨w.heap.size, 0, none⟩ = some (.int .i64 0) := r3.cell 0
    have f0 : w3.frozen? ⟨w.heap.size, 0, none⟩ = false := r3.free 0
    have d1 : w3.cell? ⟨w.heap.size, 1, none⟩ = some (.string ⟨#[]⟩) := r3.cell 1
    have f1 : w3.frozen? ⟨w.heap.size, 1, none⟩ = false := r3.free 1
    have d2 : w3.cell? ⟨w.heap.size, 2, none⟩ = some (.int .i64 0) := r3.cell 2
    have f2 : w3.frozen? ⟨w.heap.size, 2, none⟩ = false := r3.free 2
    have d3 : w3.cell? ⟨w.heap.size, 3, none⟩ = some (.slice none 0 0) := r3.cell 3
    have f3 : w3.frozen? ⟨w.heap.size, 3, none⟩ = false := r3.free 3
    have q0 : w3.cell? ⟨z, 0, none⟩ = some (.int .i64 t.kind) := b3.cell 0
    have u0 : w3.frozen? ⟨z, 0, none⟩ = false := b3.free 0
    have q1 : w3.cell? ⟨z, 1, none⟩ = some (.string t.name) := b3.cell 1
    have u1 : w3.frozen? ⟨z, 1, none⟩ = false := b3.free 1
    have q2 : w3.cell? ⟨z, 2, none⟩ = some (.int .i64 t.num) := b3.cell 2
    have u2 : w3.frozen? ⟨z, 2, none⟩ = false := b3.free 2
    have q3 : w3.cell? ⟨z, 3, none⟩ = some (.slice A t.args.length ac) := b3.cell 3
    have u3 : w3.frozen? ⟨z, 3, none⟩ = false := b3.free 3
    have hA4 := (hA3.root y t.num t.name hA3.name).but (w' := w3.setCell ⟨z, 0, none⟩ (.int .i64 y)) z (by simp [World.setCell]) (fun g _ _ hne => Below.heap_setCell _ _ _ _ hne) N2 N3
    have HF := Lib.hid (drawnO_fin0 (n := 60) hA4.own (by have := szOt_root t y t.num t.name; omega) (hc3.belowO ((Below.refl z w3).setCell (by simp) _) (by omega)) hpl (grown_setO hg3' (by omega) _ _))
    clear r3 b3 hA3 hA4
    go_wp2
    exact bodyPost_ret (v := .agg #[.int .i64 y, .string t.name, .int .i64 t.num, .slice A t.args.length ac]) (by simp [results, Try.results27, go_sem, d0, d1, d2, d3]) rfl (HF.out _ _ _ _)
  by_cases h1 : x = 1
  · subst h1
    have HPK := Lib.hid (pickNs p B w2 hc2)
    go_wp2_with fail
    refine HPK.out.mono ?_
    rintro e w3 ⟨⟨y, rfl, hy⟩, hc3, hg3a⟩
    have hg3 := only_trans (World.grownBy_alloc w2 _ _) hg3a
    clear hg3a hy
    have hs3 := hg3.size
    have hA3 := hA2.grown hg3 (by omega)
    have b3 := b2.grownO hg3 (by omega)
    have r3 := r2.grownO hg3 (by omega)
    have hg3' := only_trans hg2' hg3
    clear hA2 b2 r2 hg2' hg3 hc2
    have d0 : w3.cell? ⟨w.heap.size, 0, none⟩ = some (.int .i64 0) := r3.cell 0
    have f0 : w3.frozen? ⟨w.heap.size, 0, none⟩ = false := r3.free 0
    have d1 : w3.cell? ⟨w.heap.size, 1, none⟩ = some (.string ⟨#[]⟩) := r3.cell 1
    have f1 : w3.frozen? ⟨w.heap.size, 1, none⟩ = false := r3.free 1
    have d2 : w3.cell? ⟨w.heap.size, 2, none⟩ = some (.int .i64 0) := r3.cell 2
    have f2 : w3.frozen? ⟨w.heap.size, 2, none⟩ = false := r3.free 2
    have d3 : w3.cell? ⟨w.heap.size, 3, none⟩ = some (.slice none 0 0) := r3.cell 3
    have f3 : w3.frozen? ⟨w.heap.size, 3, none⟩ = false := r3.free 3
    have q0 : w3.cell? ⟨z, 0, none⟩ = some (.int .i64 t.kind) := b3.cell 0
    have u0 : w3.frozen? ⟨z, 0, none⟩ = false := b3.free 0
    have q1 : w3.cell? ⟨z, 1, none⟩ = some (.string t.name) := b3.cell 1
    have u1 : w3.frozen? ⟨z, 1, none⟩ = false := b3.free 1
    have q2 : w3.cell? ⟨z, 2, none⟩ = some (.int .i64 t.num) := b3.cell 2
    have u2 : w3.frozen? ⟨z, 2, none⟩ = false := b3.free 2
    have q3 : w3.cell? ⟨z, 3, none⟩ = some (.slice A t.args.length ac) := b3.cell 3
    have u3 : w3.frozen? ⟨z, 3, none⟩ = false := b3.free 3
    have hA4 := (hA3.root t.kind y t.name hA3.name).but (w' := w3.setCell ⟨z, 2, none⟩ (.int .i64 y)) z (by simp [World.setCell]) (fun g _ _ hne => Below.heap_setCell _ _ _ _ hne) N2 N3
    have HF := Lib.hid (drawnO_fin0 (n := 60) hA4.own (by have := szOt_root t t.kind y t.name; omega) (hc3.belowO ((Below.refl z w3).setCell (by simp) _) (by omega)) hpl (grown_setO hg3' (by omega) _ _))
    clear r3 b3 hA3 hA4
    go_wp2
    exact bodyPost_ret (v := .agg #[.int .i64 t.kind, .string t.name, .int .i64 y, .slice A t.args.length ac]) (by simp [results, Try.results27, go_sem, d0, d1, d2, d3]) rfl (HF.out _ _ _ _)
  by_cases h2 : x = 2
  · subst h2
    have HPK := Lib.hid (pickNames p B w2 hc2)
    go_wp2_with fail
    refine HPK.out.mono ?_
    rintro e w3 ⟨⟨s, rfl, hs⟩, hc3, hg3a⟩
    have hg3 := only_trans (World.grownBy_alloc w2 _ _) hg3a
    clear hg3a
    have hss : s.size ≤ 1 := by
      simp at hs
      rcases hs with rfl | rfl | rfl <;> decide
    clear hs
    have hs3 := hg3.size
    have hA3 := hA2.grown hg3 (by omega)
    have b3 := b2.grownO hg3 (by omega)
    have r3 := r2.grownO hg3 (by omega)
    have hg3' := only_trans hg2' hg3
    clear hA2 b2 r2 hg2' hg3 hc2
    have d0 : w3.cell? ⟨w.heap.size, 0, none⟩ = some (.int .i64 0) := r3.cell 0
    have f0 : w3.frozen? ⟨w.heap.size, 0, none⟩ = false := r3.free 0
    have d1 : w3.cell? ⟨w.heap.size, 1, none⟩ = some (.string ⟨#[]⟩) := r3.cell 1
    have f1 : w3.frozen? ⟨w.heap.size, 1, none⟩ = false := r3.free 1
    have d2 : w3.cell? ⟨w.heap.size, 2, none⟩ = some (.int .i64 0) := r3.cell 2
    have f2 : w3.frozen? ⟨w.heap.size, 2, none⟩ = false := r3.free 2
    have d3 : w3.cell? ⟨w.heap.size, 3, none⟩ = some (.slice none 0 0) := r3.cell 3
    have f3 : w3.frozen? ⟨w.heap.size, 3, none⟩ = false := r3.free 3
    have q0 : w3.cell? ⟨z, 0, none⟩ = some (.int .i64 t.kind) := b3.cell 0
    have u0 : w3.frozen? ⟨z, 0, none⟩ = false := b3.free 0
    have q1 : w3.cell? ⟨z, 1, none⟩ = some (.string t.name) := b3.cell 1
    have u1 : w3.frozen? ⟨z, 1, none⟩ = false := b3.free 1
    have q2 : w3.cell? ⟨z, 2, none⟩ = some (.int .i64 t.num) := b3.cell 2
    have u2 : w3.frozen? ⟨z, 2, none⟩ = false := b3.free 2
    have q3 : w3.cell? ⟨z, 3, none⟩ = some (.slice A t.args.length ac) := b3.cell 3
    have u3 : w3.frozen? ⟨z, 3, none⟩ = false := b3.free 3
    have hA4 := (hA3.root t.kind t.num s (Nat.le_trans hss (by unfold maxLen; decide))).but (w' := w3.setCell ⟨z, 1, none⟩ (.string s)) z (by simp [World.setCell]) (fun g _ _ hne => Below.heap_setCell _ _ _ _ hne) N2 N3
    have HF := Lib.hid (drawnO_fin0 (n := 60) hA4.own (by have := szOt_root t t.kind t.num s; omega) (hc3.belowO ((Below.refl z w3).setCell (by simp) _) (by omega)) hpl (grown_setO hg3' (by omega) _ _))
    clear r3 b3 hA3 hA4
    go_wp2
    exact bodyPost_ret (v := .agg #[.int .i64 t.kind, .string s, .int .i64 t.num, .slice A t.args.length ac]) (by simp [results, Try.results27, go_sem, d0, d1, d2, d3]) rfl (HF.out _ _ _ _)
  by_cases h3 : x = 3
  · subst h3
    obtain ⟨i1, hi1, hy0, hy1, hy2⟩ := info_parts infoOptic
    have hla : t.args.length ≤ 46 := by
      have := szOt_eq t
      have := szOts_len t.args
      omega
    have d0 : w2.cell? ⟨w.heap.size, 0, none⟩ = some (.int .i64 0) := r2.cell 0
    have f0 : w2.frozen? ⟨w.heap.size, 0, none⟩ = false := r2.free 0
    have d1 : w2.cell? ⟨w.heap.size, 1, none⟩ = some (.string ⟨#[]⟩) := r2.cell 1
    have f1 : w2.frozen? ⟨w.heap.size, 1, none⟩ = false := r2.free 1
    have d2 : w2.cell? ⟨w.heap.size, 2, none⟩ = some (.int .i64 0) := r2.cell 2
    have f2 : w2.frozen? ⟨w.heap.size, 2, none⟩ = false := r2.free 2
    have d3 : w2.cell? ⟨w.heap.size, 3, none⟩ = some (.slice none 0 0) := r2.cell 3
    have f3 : w2.frozen? ⟨w.heap.size, 3, none⟩ = false := r2.free 3
    have q0 : w2.cell? ⟨z, 0, none⟩ = some (.int .i64 t.kind) := b2.cell 0
    have u0 : w2.frozen? ⟨z, 0, none⟩ = false := b2.free 0
    have q1 : w2.cell? ⟨z, 1, none⟩ = some (.string t.name) := b2.cell 1
    have u1 : w2.frozen? ⟨z, 1, none⟩ = false := b2.free 1
    have q2 : w2.cell? ⟨z, 2, none⟩ = some (.int .i64 t.num) := b2.cell 2
    have u2 : w2.frozen? ⟨z, 2, none⟩ = false := b2.free 2
    have q3 : w2.cell? ⟨z, 3, none⟩ = some (.slice A t.args.length ac) := b2.cell 3
    have u3 : w2.frozen? ⟨z, 3, none⟩ = false := b2.free 3
    have hN := newsO w2 26 (.int .i64 1) (.string ⟨#[]⟩) (.int .i64 0) (.slice none 0 0)
    have HA2 := Lib.hid hA2
    have HA5 := Lib.hid (World.ownsRow.alloc hA2.parts.own (.cells #[.int .i64 1, .string ⟨#[]⟩, .int .i64 0, .slice none 0 0] 26))
    have HU := Lib.hid (OtIn.leaf w2 (Span w2.heap.size w2.heap.size) 1 0 ⟨#[]⟩ (Nat.zero_le _))
    have HG2 := Lib.hid hg2'
    have HR2 := Lib.hid r2
    have HB2 := Lib.hid b2
    have HC2 := Lib.hid hc2
    clear hA2 hc2 hg2' r2 b2
    go_wp2_with (at_builtin; refine wpList_append_lies _ rfl (.tmp 31) (.tmp 33) _ rfl (w.heap.size + 1) 26 i1 (.agg #[.int .i64 0, .string ⟨#[]⟩, .int .i64 0, .slice none 0 0]) 4 56 Try.underlying24 hi1 hy0 hy1 hy2 rfl (by decide) _ t.args.length xs rfl HA5.out ⟨w2.heap.size, 0, none⟩ 1 1 [.int .i64 1, .string ⟨#[]⟩, .int .i64 0, .slice none 0 0] rfl rfl hN.1 hN.2 (by omega) (by unfold maxLen; omega) (by omega) (by simp; omega) (w2.heap.size + 1) (by simp) ?_; intro g cap w3 hown3 hg3 hat3 hlt3; have HAG := HA2.out.arg (w1 := w2) (.mk 1 0 ⟨#[]⟩ []) (Below.refl _ _) (by omega) (by unfold maxLen; omega) HU.out hown3 hg3 (hat3.imp id (fun e => by omega)); have hlo := (fun q (hq : (Value.slice A t.args.length ac).ownBlock = some q) => (HA2.out.parts.own.lt q hq)); have hB5 : Below (w.heap.size + 1) w2 w3 := ((Below.refl (w.heap.size + 1) w2).alloc (by omega) _).grown hg3 (by simp; omega) (fun q hq => (hlo q hq).1); have b5 : Whole1 w3 z 26 #[.int .i64 t.kind, .string t.name, .int .i64 t.num, .slice A t.args.length ac] := ((hg3.block z (by simp; omega) (fun e => N2 e.symm)).trans (Below.heap_alloc _ _ _ hzl)).trans HB2.out; have r5 : Whole1 w3 w.heap.size 26 #[.int .i64 0, .string ⟨#[]⟩, .int .i64 0, .slice none 0 0] := HR2.out.below hB5 (by omega); have D0 : w3.cell? ⟨w.heap.size, 0, none⟩ = some (.int .i64 0) := r5.cell 0; have F0 : w3.frozen? ⟨w.heap.size, 0, none⟩ = false := r5.free 0; have D1 : w3.cell? ⟨w.heap.size, 1, none⟩ = some (.string ⟨#[]⟩) := r5.cell 1; have F1 : w3.frozen? ⟨w.heap.size, 1, none⟩ = false := r5.free 1; have D2 : w3.cell? ⟨w.heap.size, 2, none⟩ = some (.int .i64 0) := r5.cell 2; have F2 : w3.frozen? ⟨w.heap.size, 2, none⟩ = false := r5.free 2; have D3 : w3.cell? ⟨w.heap.size, 3, none⟩ = some (.slice none 0 0) := r5.cell 3; have F3 : w3.frozen? ⟨w.heap.size, 3, none⟩ = false := r5.free 3; have Q0 : w3.cell? ⟨z, 0, none⟩ = some (.int .i64 t.kind) := b5.cell 0; have U0 : w3.frozen? ⟨z, 0, none⟩ = false := b5.free 0; have Q1 : w3.cell? ⟨z, 1, none⟩ = some (.string t.name) := b5.cell 1; have U1 : w3.frozen? ⟨z, 1, none⟩ = false := b5.free 1; have Q2 : w3.cell? ⟨z, 2, none⟩ = some (.int .i64 t.num) := b5.cell 2; have U2 : w3.frozen? ⟨z, 2, none⟩ = false := b5.free 2; have Q3 : w3.cell? ⟨z, 3, none⟩ = some (.slice A t.args.length ac) := b5.cell 3; have U3 : w3.frozen? ⟨z, 3, none⟩ = false := b5.free 3; have hgz : g ≠ z := (fun e => by rcases hat3 with h | h; exact N2 (Eq.trans (show (Value.slice A t.args.length ac).ownBlock = some g from h) (congrArg some e)); omega); have hA4 := HAG.but (w' := w3.setCell ⟨z, 3, none⟩ (.slice (some ⟨g, 0, none⟩) (t.args.length + 1) cap)) z (by simp [World.setCell]) (fun g _ _ hne => Below.heap_setCell _ _ _ _ hne) (fun e => hgz (Option.some.inj e)) (fun i hi' hsp => by have h1 : i < (t.args ++ [Ot.mk 1 0 ⟨#[]⟩ []]).length := hi'; rw [List.length_append, List.length_singleton] at h1; by_cases e : i = t.args.length; (simp only [e, if_true] at hsp; have := hsp.1; omega); (simp only [e, if_false] at hsp; exact N3 i (by omega) hsp)); have HF := Lib.hid (drawnO_fin0 (n := 60) hA4.own (by rw [szOt_arg]; simp only [szOt, szOts]; have h0 : (⟨#[]⟩ : ByteArray).size = 0 := rfl; omega) (HC2.out.belowO (hB5.setCell (p := ⟨z, 3, none⟩) (by show w.heap.size + 1 ≤ z; omega) _) (by omega)) hpl (grown_setO (grown_ownO (grown_allocO HG2.out _) hg3 (fun q hq => by have := (hlo q hq).1; omega)) (by omega) _ _)); clear HAG hA4 r5 b5)
    go_wp2
    exact bodyPost_ret (v := .agg #[.int .i64 t.kind, .string t.name, .int .i64 t.num, .slice (some ⟨g, 0, none⟩) (t.args ++ [Ot.mk 1 0 ⟨#[]⟩ []]).length cap]) (by simp [results, Try.results27, go_sem, D0, D1, D2, D3]) rfl (HF.out _ _ _ _)
  have d0 : w2.cell? ⟨w.heap.size, 0, none⟩ = some (.int .i64 0) := r2.cell 0
  have f0 : w2.frozen? ⟨w.heap.size, 0, none⟩ = false := r2.free 0
  have d1 : w2.cell? ⟨w.heap.size, 1, none⟩ = some (.string ⟨#[]⟩) := r2.cell 1
  have f1 : w2.frozen? ⟨w.heap.size, 1, none⟩ = false := r2.free 1
  have d2 : w2.cell? ⟨w.heap.size, 2, none⟩ = some (.int .i64 0) := r2.cell 2
  have f2 : w2.frozen? ⟨w.heap.size, 2, none⟩ = false := r2.free 2
  have d3 : w2.cell? ⟨w.heap.size, 3, none⟩ = some (.slice none 0 0) := r2.cell 3
  have f3 : w2.frozen? ⟨w.heap.size, 3, none⟩ = false := r2.free 3
  have q0 : w2.cell? ⟨z, 0, none⟩ = some (.int .i64 t.kind) := b2.cell 0
  have u0 : w2.frozen? ⟨z, 0, none⟩ = false := b2.free 0
  have q1 : w2.cell? ⟨z, 1, none⟩ = some (.string t.name) := b2.cell 1
  have u1 : w2.frozen? ⟨z, 1, none⟩ = false := b2.free 1
  have q2 : w2.cell? ⟨z, 2, none⟩ = some (.int .i64 t.num) := b2.cell 2
  have u2 : w2.frozen? ⟨z, 2, none⟩ = false := b2.free 2
  have q3 : w2.cell? ⟨z, 3, none⟩ = some (.slice A t.args.length ac) := b2.cell 3
  have u3 : w2.frozen? ⟨z, 3, none⟩ = false := b2.free 3
  have HF := Lib.hid (drawnO_fin0 (n := 60) hA2.own (by omega) hc2 hpl hg2')
  clear hA2 b2 r2
  go_wp2
  exact bodyPost_ret (v := .agg #[.int .i64 t.kind, .string t.name, .int .i64 t.num, .slice A t.args.length ac]) (by simp [results, Try.results27, go_sem, d0, d1, d2, d3]) rfl (HF.out _ _ _ _)

end Go.Proofs.Ytceclhndagoddaa
